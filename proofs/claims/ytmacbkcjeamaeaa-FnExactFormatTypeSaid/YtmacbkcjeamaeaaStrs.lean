/- Words and lemmas for slices of strings, free of the program. -/
import Derived.WalkKit
import Derived.Lib.Hide
import Derived.BigQuiet
import Derived.Deep.QuietTactic
import Derived.Deep.Draws
import Derived.RegionTactic
namespace Go.Proofs.Ytmacbkcjeamaeaa
open Go.RowKit

/-- The slice of address A holds the strings ss, below block B. -/
def StrsAt (w : World) (B : Nat) (A : Option Addr) (ss : List ByteArray) : Prop :=
  ∀ i, (h : i < ss.length) → ∃ b off, A = some ⟨b, off, none⟩ ∧ b < B ∧ w.cell? ⟨b, off + i, none⟩ = some (.string ss[i])

theorem StrsAt.empty (w : World) (B : Nat) (A : Option Addr) : StrsAt w B A [] := fun i h => absurd h (by simp)
theorem StrsAt.keep {w w' : World} {B : Nat} {A : Option Addr} {ss : List ByteArray} (h : StrsAt w B A ss) (hk : ∀ p : Addr, p.block < B → w'.cell? p = w.cell? p) : StrsAt w' B A ss := fun i hi => by
  obtain ⟨b, off, h1, h2, h3⟩ := h i hi
  exact ⟨b, off, h1, h2, (hk _ h2).trans h3⟩
theorem StrsAt.below {w w' : World} {B : Nat} {A : Option Addr} {ss : List ByteArray} (h : StrsAt w B A ss) (hb : Below B w w') : StrsAt w' B A ss := h.keep fun _ hp => hb.cell hp
theorem StrsAt.more {w : World} {B B' : Nat} {A : Option Addr} {ss : List ByteArray} (h : StrsAt w B A ss) (hB : B ≤ B') : StrsAt w B' A ss := fun i hi => by
  obtain ⟨b, off, h1, h2, h3⟩ := h i hi
  exact ⟨b, off, h1, by omega, h3⟩
theorem StrsAt.drewN {w : World} {B : Nat} {A : Option Addr} {ss : List ByteArray} (h : StrsAt w B A ss) (k : Nat) : StrsAt (w.drewN k) B A ss := h

/-- A block that is known whole. -/
def Whole1 (w : World) (g : Nat) (t : TypeId) (cs : Array Value) : Prop := w.heap[g]? = some (.cells cs t (0, 0))
theorem Whole1.lt {w : World} {g : Nat} {t : TypeId} {cs : Array Value} (h : Whole1 w g t cs) : g < w.heap.size := by
  unfold Whole1 at h
  by_cases hlt : g < w.heap.size
  · exact hlt
  · rw [Array.getElem?_eq_none (by omega)] at h; cases h
theorem Whole1.cell {w : World} {g : Nat} {t : TypeId} {cs : Array Value} (h : Whole1 w g t cs) (i : Nat) : w.cell? ⟨g, i, none⟩ = cs[i]? := cell_of_row w g i cs t (0, 0) h
theorem Whole1.free {w : World} {g : Nat} {t : TypeId} {cs : Array Value} (h : Whole1 w g t cs) (i : Nat) : w.frozen? ⟨g, i, none⟩ = false := frozen_of_row w g i cs t h
theorem Whole1.set {w : World} {g : Nat} {t : TypeId} {cs : Array Value} (h : Whole1 w g t cs) (i : Nat) (u : Value) : Whole1 (w.setCell ⟨g, i, none⟩ u) g t (cs.setIfInBounds i u) := by
  unfold Whole1 at h ⊢
  simp [World.setCell, Array.getElem?_modify, h]
theorem Whole1.below {w w' : World} {g B : Nat} {t : TypeId} {cs : Array Value} (h : Whole1 w g t cs) (hb : Below B w w') (hg : g < B) : Whole1 w' g t cs := (hb.block g hg).trans h
theorem Whole1.drewN {w : World} {g : Nat} {t : TypeId} {cs : Array Value} (h : Whole1 w g t cs) (k : Nat) : Whole1 (w.drewN k) g t cs := h
theorem Whole1.new (w : World) (t : TypeId) (cs : Array Value) : Whole1 (w.alloc (.cells cs t)) w.heap.size t cs := heap_alloc_new w _

/-- Only row g, and what is new, has turned. -/
theorem only_below {a w w' : World} {row : Option Nat} (h : a.grownBy w row) (hb : Below w.heap.size w w') : a.grownBy w' row :=
  ⟨hb.os.trans h.os, hb.tape.trans h.tape, hb.output.trans h.output, Nat.le_trans h.size hb.size, fun i hi hne => (hb.block i (Nat.lt_of_lt_of_le hi h.size)).trans (h.block i hi hne)⟩
theorem only_set {a w : World} {g : Nat} (h : a.grownBy w (some g)) (i : Nat) (v : Value) : a.grownBy (w.setCell ⟨g, i, none⟩ v) (some g) :=
  ⟨h.os, h.tape, h.output, by simpa [World.setCell] using h.size, fun k hk hne => (Below.heap_setCell w ⟨g, i, none⟩ v k (fun e => hne (by rw [e]))).trans (h.block k hk hne)⟩
theorem only_refl (w : World) (row : Option Nat) : w.grownBy w row := ⟨rfl, rfl, rfl, Nat.le_refl _, fun _ _ _ => rfl⟩

theorem only_drewN {a w : World} {row : Option Nat} (h : a.grownBy w row) (n : Nat) : a.grownBy (w.drewN n) row := ⟨h.os, h.tape, h.output, h.size, h.block⟩
theorem only_trans {a b c : World} {g : Nat} (h : a.grownBy b (some g)) (k : b.grownBy c (some g)) : a.grownBy c (some g) :=
  ⟨k.os.trans h.os, k.tape.trans h.tape, k.output.trans h.output, Nat.le_trans h.size k.size, fun i hi hne => (k.block i (Nat.lt_of_lt_of_le hi h.size) hne).trans (h.block i hi hne)⟩
/-- A row of the call's own may turn. -/
theorem below_only {B : Nat} {a w w' : World} {g : Nat} (h : Below B a w) (ho : w.grownBy w' (some g)) (hB : B ≤ w.heap.size) (hg : B ≤ g) : Below B a w' := h.grown ho hB (fun q hq => by cases hq; exact hg)

def strVals (ss : List ByteArray) : List Value := ss.map Value.string

theorem StrsAt.of_whole {w : World} {g : Nat} {t : TypeId} {ss : List ByteArray} (h : Whole1 w g t (strVals ss).toArray) (B : Nat) (hB : g < B) : StrsAt w B (some ⟨g, 0, none⟩) ss := fun i hi => by
  refine ⟨g, 0, rfl, hB, ?_⟩
  rw [Nat.zero_add, h.cell]
  simp [strVals, hi]

def sumSizes (ss : List ByteArray) : Nat := (ss.map (·.size)).sum
theorem sumSizes_take_succ (ss : List ByteArray) (k : Nat) (h : k < ss.length) : sumSizes (ss.take (k + 1)) = sumSizes (ss.take k) + ss[k].size := by
  unfold sumSizes
  rw [List.take_succ_eq_append_getElem h, List.map_append, List.sum_append]
  simp
theorem sumSizes_take_le (ss : List ByteArray) (k : Nat) : sumSizes (ss.take k) ≤ sumSizes ss := by
  unfold sumSizes
  conv => rhs; rw [← List.take_append_drop k ss]
  rw [List.map_append, List.sum_append]
  omega
theorem size_le_sumSizes (ss : List ByteArray) (k : Nat) (h : k < ss.length) : ss[k].size ≤ sumSizes ss := by
  have h1 := sumSizes_take_succ ss k h
  have h2 := sumSizes_take_le ss (k + 1)
  omega


/-- make([]string, n). -/
theorem run_make_strs {P : Program} {T E : TypeId} (ht : P.underlying T = some (.slice E)) (hi : (P.info? E).map (fun i => (i.zero, i.size, i.bytes)) = some (some (.string ⟨#[]⟩), 1, 16)) (n : Nat) (hn : n ≤ 1048576) (w : World) :
    (Instr.makeSlice T (.int .i64 (n : Int)) (.int .i64 (n : Int))).run P w = .ok (.slice (some ⟨w.heap.size, 0, none⟩) n n) (w.alloc (.cells (strVals (List.replicate n ⟨#[]⟩)).toArray E)) := by
  obtain ⟨i, h1, h2, h3, h4⟩ := info_parts hi
  have hr := run_make (P := P) w T E i _ ht h1 h2 .i64 .i64 n n (by omega) (by omega) (by rw [h4]; omega) (by omega)
  simp only [Int.toNat_natCast] at hr
  rw [hr]
  have e : madeCells (Value.string ⟨#[]⟩).cells (n * i.size) = (strVals (List.replicate n ⟨#[]⟩)).toArray := by
    rw [h3, Nat.mul_one]
    apply Array.ext'
    simp [Value.cells, toList_madeCells_one, strVals]
  rw [e]

/-- The strings of ss in the first k places, the empty string behind. -/
def filled (ss : List ByteArray) (k : Nat) : Array Value := ((List.range ss.length).map fun i => Value.string (if i < k then ss.getD i ⟨#[]⟩ else ⟨#[]⟩)).toArray
theorem filled_get (ss : List ByteArray) (k j : Nat) : (filled ss k)[j]? = if j < ss.length then some (Value.string (if j < k then ss.getD j ⟨#[]⟩ else ⟨#[]⟩)) else none := by
  by_cases h : j < ss.length
  · simp [filled, h]
  · simp [filled, h]
theorem filled_zero (ss : List ByteArray) : filled ss 0 = (strVals (List.replicate ss.length ⟨#[]⟩)).toArray := by
  apply Array.ext_getElem?
  intro j
  rw [filled_get]
  by_cases h : j < ss.length <;> simp [strVals, h]
theorem filled_all (ss : List ByteArray) : filled ss ss.length = (strVals ss).toArray := by
  apply Array.ext_getElem?
  intro j
  rw [filled_get]
  by_cases h : j < ss.length <;> simp [strVals, h]
theorem filled_succ (ss : List ByteArray) (k : Nat) (h : k < ss.length) : (filled ss k).setIfInBounds k (.string ss[k]) = filled ss (k + 1) := by
  apply Array.ext_getElem?
  intro j
  have hsz : (filled ss k).size = ss.length := by simp [filled]
  rw [filled_get, Array.getElem?_setIfInBounds, filled_get, hsz]
  by_cases h1 : k = j
  · subst h1
    simp [h]
  · by_cases h2 : j < k
    · simp [h1, h2, show j < k + 1 by omega]
    · simp [h1, h2, show ¬ j < k + 1 by omega]
theorem filled_at (ss : List ByteArray) (k i : Nat) (h : i < ss.length) : ∃ s, (filled ss k)[i]? = some (Value.string s) := ⟨_, by rw [filled_get, if_pos h]⟩

end Go.Proofs.Ytmacbkcjeamaeaa
