/- Digits one by one, and string([]byte{x}), free of the program. -/
import Derived.WalkKit
import Derived.Lib.Hide
import Derived.Lib.ItoaNum
import Derived.Laws.BytesArg
import Derived.BigQuiet
import Derived.Deep.QuietTactic
import Derived.Deep.Draws
import Derived.RegionTactic
import Derived.Laws.AppendOwn
import Derived.OwnWalk
import Derived.Lib.AppendStr
import Derived.Deep.RegionLaw

namespace Go.Proofs.YthdfidhijmcbdaaGreatDoor
open Go.RowKit

/-- The digits of u, none for 0. -/
def nz (u : Nat) : List UInt8 := if u = 0 then [] else Lib.decDigits u
theorem nz_step (u : Nat) (h : 0 < u) : nz u = nz (u / 10) ++ [UInt8.ofNat (48 + u % 10)] := by
  unfold nz
  rw [if_neg (by omega), Lib.decDigits]
  by_cases h1 : u < 10
  · rw [dif_pos h1, if_pos (by omega), show u % 10 = u by omega]
    rfl
  · rw [dif_neg h1, if_neg (by omega)]

theorem nz_len (n : Nat) : (nz n).length ≤ n := by
  induction n using Nat.strongRecOn with
  | ind n ih =>
    by_cases h : n = 0
    · subst h; simp [nz]
    · have := ih (n / 10) (by omega)
      rw [nz_step n (by omega), List.length_append]
      simp
      omega
theorem nz_len_of (k : Nat) : ∀ n, n < 10 ^ k → (nz n).length ≤ k := by
  induction k with
  | zero => 
    intro n h
    have h0 : n = 0 := by rw [Nat.pow_zero] at h; omega
    subst h0
    simp [nz]
  | succ k ih =>
    intro n h
    by_cases h0 : n = 0
    · subst h0; simp [nz]
    · have := ih (n / 10) (by rw [Nat.div_lt_iff_lt_mul (by omega)]; rw [Nat.pow_succ] at h; exact h)
      rw [nz_step n (by omega), List.length_append]
      simp
      omega
theorem nz_pos (n : Nat) (h : 0 < n) : 0 < (nz n).length := by
  rw [nz_step n h, List.length_append]
  simp

/-- string([]byte{x}). -/
theorem run_convert_byte {P : Program} {src e dst : TypeId} (hs : P.underlying src = some (.slice e)) (he : P.underlying e = some (.int .u8)) (hd : P.underlying dst = some .string) (W : World) (x : Int) :
    (convert src dst (.slice (some ⟨W.heap.size, 0, none⟩) 1 1)).run P (W.alloc (.cells #[.int .u8 x] e)) = .ok (.string ⟨#[UInt8.ofNat x.toNat]⟩) (W.alloc (.cells #[.int .u8 x] e)) := by
  refine run_convert_bytes_arg _ src e hs he W.heap.size 0 1 1 [x] rfl (fun i hi => ?_) dst hd
  have h0 : i = 0 := by omega
  subst h0
  rw [World.cell?_alloc_at _ _ _ _ rfl]
  rfl

end Go.Proofs.YthdfidhijmcbdaaGreatDoor

namespace Go.Proofs.YthdfidhijmcbdaaGreatDoor
open Go.RowKit

/-- The slice of address A holds the strings ss, below block B. -/
def StrsAt (w : World) (B : Nat) (A : Option Addr) (ss : List ByteArray) : Prop :=
  ∀ i, (h : i < ss.length) → ∃ b off, A = some ⟨b, off, none⟩ ∧ b < B ∧ w.cell? ⟨b, off + i, none⟩ = some (.string ss[i])

theorem StrsAt.empty (w : World) (B : Nat) (A : Option Addr) : StrsAt w B A [] := fun i h => absurd h (by simp)
theorem StrsAt.keep {w w' : World} {B : Nat} {A : Option Addr} {ss : List ByteArray} (h : StrsAt w B A ss) (hk : ∀ p : Addr, p.block < B → w'.cell? p = w.cell? p) : StrsAt w' B A ss := fun i hi => by
  obtain ⟨b, off, h1, h2, h3⟩ := h i hi
  exact ⟨b, off, h1, h2, (hk _ h2).trans h3⟩
theorem StrsAt.below {w w' : World} {B : Nat} {A : Option Addr} {ss : List ByteArray} (h : StrsAt w B A ss) (hb : Below B w w') : StrsAt w' B A ss := h.keep fun _ hp => hb.cell hp
theorem StrsAt.more {w : World} {B B' : Nat} {A : Option Addr} {ss : List ByteArray} (h : StrsAt w B A ss) (hB : B ≤ B') : StrsAt w B' A ss := fun i hi => by
  obtain ⟨b, off, h1, h2, h3⟩ := h i hi
  exact ⟨b, off, h1, by omega, h3⟩
theorem StrsAt.drewN {w : World} {B : Nat} {A : Option Addr} {ss : List ByteArray} (h : StrsAt w B A ss) (k : Nat) : StrsAt (w.drewN k) B A ss := h

/-- A block that is known whole. -/
def Whole1 (w : World) (g : Nat) (t : TypeId) (cs : Array Value) : Prop := w.heap[g]? = some (.cells cs t (0, 0))
theorem Whole1.lt {w : World} {g : Nat} {t : TypeId} {cs : Array Value} (h : Whole1 w g t cs) : g < w.heap.size := by
  unfold Whole1 at h
  by_cases hlt : g < w.heap.size
  · exact hlt
  · rw [Array.getElem?_eq_none (by omega)] at h; cases h
theorem Whole1.cell {w : World} {g : Nat} {t : TypeId} {cs : Array Value} (h : Whole1 w g t cs) (i : Nat) : w.cell? ⟨g, i, none⟩ = cs[i]? := cell_of_row w g i cs t (0, 0) h
theorem Whole1.free {w : World} {g : Nat} {t : TypeId} {cs : Array Value} (h : Whole1 w g t cs) (i : Nat) : w.frozen? ⟨g, i, none⟩ = false := frozen_of_row w g i cs t h
theorem Whole1.set {w : World} {g : Nat} {t : TypeId} {cs : Array Value} (h : Whole1 w g t cs) (i : Nat) (u : Value) : Whole1 (w.setCell ⟨g, i, none⟩ u) g t (cs.setIfInBounds i u) := by
  unfold Whole1 at h ⊢
  simp [World.setCell, Array.getElem?_modify, h]
theorem Whole1.below {w w' : World} {g B : Nat} {t : TypeId} {cs : Array Value} (h : Whole1 w g t cs) (hb : Below B w w') (hg : g < B) : Whole1 w' g t cs := (hb.block g hg).trans h
theorem Whole1.drewN {w : World} {g : Nat} {t : TypeId} {cs : Array Value} (h : Whole1 w g t cs) (k : Nat) : Whole1 (w.drewN k) g t cs := h
theorem Whole1.new (w : World) (t : TypeId) (cs : Array Value) : Whole1 (w.alloc (.cells cs t)) w.heap.size t cs := heap_alloc_new w _

/-- Only row g, and what is new, has turned. -/
theorem only_below {a w w' : World} {row : Option Nat} (h : a.grownBy w row) (hb : Below w.heap.size w w') : a.grownBy w' row :=
  ⟨hb.os.trans h.os, hb.tape.trans h.tape, hb.output.trans h.output, Nat.le_trans h.size hb.size, fun i hi hne => (hb.block i (Nat.lt_of_lt_of_le hi h.size)).trans (h.block i hi hne)⟩
theorem only_set {a w : World} {g : Nat} (h : a.grownBy w (some g)) (i : Nat) (v : Value) : a.grownBy (w.setCell ⟨g, i, none⟩ v) (some g) :=
  ⟨h.os, h.tape, h.output, by simpa [World.setCell] using h.size, fun k hk hne => (Below.heap_setCell w ⟨g, i, none⟩ v k (fun e => hne (by rw [e]))).trans (h.block k hk hne)⟩
theorem only_refl (w : World) (row : Option Nat) : w.grownBy w row := ⟨rfl, rfl, rfl, Nat.le_refl _, fun _ _ _ => rfl⟩

theorem only_drewN {a w : World} {row : Option Nat} (h : a.grownBy w row) (n : Nat) : a.grownBy (w.drewN n) row := ⟨h.os, h.tape, h.output, h.size, h.block⟩
theorem only_trans {a b c : World} {g : Nat} (h : a.grownBy b (some g)) (k : b.grownBy c (some g)) : a.grownBy c (some g) :=
  ⟨k.os.trans h.os, k.tape.trans h.tape, k.output.trans h.output, Nat.le_trans h.size k.size, fun i hi hne => (k.block i (Nat.lt_of_lt_of_le hi h.size) hne).trans (h.block i hi hne)⟩
/-- A row of the call's own may turn. -/
theorem below_only {B : Nat} {a w w' : World} {g : Nat} (h : Below B a w) (ho : w.grownBy w' (some g)) (hB : B ≤ w.heap.size) (hg : B ≤ g) : Below B a w' := h.grown ho hB (fun q hq => by cases hq; exact hg)

def strVals (ss : List ByteArray) : List Value := ss.map Value.string

theorem StrsAt.of_whole {w : World} {g : Nat} {t : TypeId} {ss : List ByteArray} (h : Whole1 w g t (strVals ss).toArray) (B : Nat) (hB : g < B) : StrsAt w B (some ⟨g, 0, none⟩) ss := fun i hi => by
  refine ⟨g, 0, rfl, hB, ?_⟩
  rw [Nat.zero_add, h.cell]
  simp [strVals, hi]

def sumSizes (ss : List ByteArray) : Nat := (ss.map (·.size)).sum
theorem sumSizes_take_succ (ss : List ByteArray) (k : Nat) (h : k < ss.length) : sumSizes (ss.take (k + 1)) = sumSizes (ss.take k) + ss[k].size := by
  unfold sumSizes
  rw [List.take_succ_eq_append_getElem h, List.map_append, List.sum_append]
  simp
theorem sumSizes_take_le (ss : List ByteArray) (k : Nat) : sumSizes (ss.take k) ≤ sumSizes ss := by
  unfold sumSizes
  conv => rhs; rw [← List.take_append_drop k ss]
  rw [List.map_append, List.sum_append]
  omega
theorem size_le_sumSizes (ss : List ByteArray) (k : Nat) (h : k < ss.length) : ss[k].size ≤ sumSizes ss := by
  have h1 := sumSizes_take_succ ss k h
  have h2 := sumSizes_take_le ss (k + 1)
  omega


/-- make([]string, n). -/
theorem run_make_strs {P : Program} {T E : TypeId} (ht : P.underlying T = some (.slice E)) (hi : (P.info? E).map (fun i => (i.zero, i.size, i.bytes)) = some (some (.string ⟨#[]⟩), 1, 16)) (n : Nat) (hn : n ≤ 1048576) (w : World) :
    (Instr.makeSlice T (.int .i64 (n : Int)) (.int .i64 (n : Int))).run P w = .ok (.slice (some ⟨w.heap.size, 0, none⟩) n n) (w.alloc (.cells (strVals (List.replicate n ⟨#[]⟩)).toArray E)) := by
  obtain ⟨i, h1, h2, h3, h4⟩ := info_parts hi
  have hr := run_make (P := P) w T E i _ ht h1 h2 .i64 .i64 n n (by omega) (by omega) (by rw [h4]; omega) (by omega)
  simp only [Int.toNat_natCast] at hr
  rw [hr]
  have e : madeCells (Value.string ⟨#[]⟩).cells (n * i.size) = (strVals (List.replicate n ⟨#[]⟩)).toArray := by
    rw [h3, Nat.mul_one]
    apply Array.ext'
    simp [Value.cells, toList_madeCells_one, strVals]
  rw [e]

/-- The strings of ss in the first k places, the empty string behind. -/
def filled (ss : List ByteArray) (k : Nat) : Array Value := ((List.range ss.length).map fun i => Value.string (if i < k then ss.getD i ⟨#[]⟩ else ⟨#[]⟩)).toArray
theorem filled_get (ss : List ByteArray) (k j : Nat) : (filled ss k)[j]? = if j < ss.length then some (Value.string (if j < k then ss.getD j ⟨#[]⟩ else ⟨#[]⟩)) else none := by
  by_cases h : j < ss.length
  · simp [filled, h]
  · simp [filled, h]
theorem filled_zero (ss : List ByteArray) : filled ss 0 = (strVals (List.replicate ss.length ⟨#[]⟩)).toArray := by
  apply Array.ext_getElem?
  intro j
  rw [filled_get]
  by_cases h : j < ss.length <;> simp [strVals, h]
theorem filled_all (ss : List ByteArray) : filled ss ss.length = (strVals ss).toArray := by
  apply Array.ext_getElem?
  intro j
  rw [filled_get]
  by_cases h : j < ss.length <;> simp [strVals, h]
theorem filled_succ (ss : List ByteArray) (k : Nat) (h : k < ss.length) : (filled ss k).setIfInBounds k (.string ss[k]) = filled ss (k + 1) := by
  apply Array.ext_getElem?
  intro j
  have hsz : (filled ss k).size = ss.length := by simp [filled]
  rw [filled_get, Array.getElem?_setIfInBounds, filled_get, hsz]
  by_cases h1 : k = j
  · subst h1
    simp [h]
  · by_cases h2 : j < k
    · simp [h1, h2, show j < k + 1 by omega]
    · simp [h1, h2, show ¬ j < k + 1 by omega]
theorem filled_at (ss : List ByteArray) (k i : Nat) (h : i < ss.length) : ∃ s, (filled ss k)[i]? = some (Value.string s) := ⟨_, by rw [filled_get, if_pos h]⟩

end Go.Proofs.YthdfidhijmcbdaaGreatDoor

namespace Go.Proofs.YthdfidhijmcbdaaGreatDoor
open Go.RowKit

/-- The slice of address A holds the cells xs, if there are any. -/
def CellsAt (w : World) (A : Option Addr) (xs : List Value) : Prop := xs = [] ∨ ∃ ad, A = some ad ∧ ∀ j u, xs[j]? = some u → w.cell? (ad.add j) = some u

theorem StrsAt.cells {w : World} {B : Nat} {A : Option Addr} {ss : List ByteArray} (h : StrsAt w B A ss) : CellsAt w A (strVals ss) := by
  by_cases h0 : ss = []
  · exact .inl (by simp [strVals, h0])
  · have hp : 0 < ss.length := List.length_pos_iff.2 h0
    obtain ⟨b, off, rfl, _, _⟩ := h 0 hp
    refine .inr ⟨_, rfl, fun j u hu => ?_⟩
    have hj : j < ss.length := by
      have := (List.getElem?_eq_some_iff.1 hu).1
      simpa [strVals] using this
    obtain ⟨b', off', e, _, hc⟩ := h j hj
    cases e
    rw [WideShapes.add_plain, hc]
    simpa [strVals, hj] using hu
theorem strVals_one (ss : List ByteArray) : ∀ u ∈ strVals ss, u.oneCell' = true := by
  intro u hu
  obtain ⟨s, _, rfl⟩ := List.mem_map.1 hu
  rfl

theorem cellNew (w : World) (t : TypeId) (x : Value) (j : Nat) (u : Value) (hj : [x][j]? = some u) : (w.alloc (.cells #[x] t)).cell? ((⟨w.heap.size, 0, none⟩ : Addr).add j) = some u := by
  have h0 : j = 0 := by
    have := (List.getElem?_eq_some_iff.1 hj).1
    simp at this
    exact this
  subst h0
  rw [WideShapes.add_plain, World.cell?_alloc_at _ _ _ _ rfl]
  simpa using hj

theorem own_strs {w : World} {base n : Nat} {e : TypeId} {v : Value} {xs : List Value} {ss : List ByteArray} (h : w.ownsRow base e 1 v n xs) (hx : strVals ss = xs) : w.ownsRow base e 1 v ss.length (strVals ss) := by
  have hl : xs.length = n := by simpa using h.1
  have : ss.length = n := by rw [← hl, ← hx]; simp [strVals]
  rw [this, hx]
  exact h

section
variable {P : Program} (w : World)
theorem append_nothing (base : Nat) (t ty e : TypeId) (i : TypeInfo) (size : Nat) (ht : P.underlying t = some (.slice e)) (hi : P.info? e = some i)
    (v : Value) (n : Nat) (xs : List Value) (hown : w.ownsRow base e size v n xs) (c : Nat) : (Builtin.append_ #[t, t] ty #[v, .slice none 0 c]).run P w = .ok v w := by
  rcases hown.2 with ⟨hv, hn⟩ | ⟨g, cap, cur, hv, _, _, hfit, _⟩
  · rw [hv]
    simp [Builtin.append_, Builtin.firstCells, Builtin.lenOf, typeInfo, sizeOf, run_underlying ht, hi]
  · rw [hv]
    simp [Builtin.append_, Builtin.firstCells, Builtin.lenOf, storeCells, typeInfo, sizeOf, run_underlying ht, hi, hfit]

theorem append_cells (base : Nat) (t ty e : TypeId) (i : TypeInfo) (z : Value) (size bytes : Nat) (ht : P.underlying t = some (.slice e)) (hi : P.info? e = some i) (hz : i.zero = some z)
    (hsize : i.size = size) (hby : i.bytes = bytes) (hzs : z.cells.size = size) (hsz : 0 < size)
    (v : Value) (n : Nat) (xs : List Value) (hown : w.ownsRow base e size v n xs)
    (A : Option Addr) (m c : Nat) (news : List Value) (hl : news.length = m * size) (hnews : CellsAt w A news) (h1 : ∀ u ∈ news, u.oneCell' = true)
    (h63 : n + m ≤ maxLen) (hbytes : (n + m) * bytes ≤ 140737488355328) (hbase : base ≤ w.heap.size) :
    ∃ v' w', (Builtin.append_ #[t, t] ty #[v, .slice A m c]).run P w = .ok v' w' ∧ w'.ownsRow base e size v' (n + m) (xs ++ news) ∧ w.grownBy w' v.ownBlock := by
  cases A with
  | none =>
    have hn : news = [] := by
      rcases hnews with h | ⟨ad, h, _⟩
      · exact h
      · cases h
    subst hn
    have hm : m = 0 := by
      rcases Nat.eq_zero_or_pos m with h | h
      · exact h
      · have := Nat.mul_pos h hsz
        simp at hl
        omega
    subst hm
    exact ⟨v, w, append_nothing w base t ty e i size ht hi v n xs hown c, by simpa using hown, only_refl w _⟩
  | some ad =>
    have hc : ∀ j u, news[j]? = some u → w.cell? (ad.add j) = some u := by
      rcases hnews with h | ⟨ad', h, h2⟩
      · subst h
        intro j u hu
        simp at hu
      · cases h
        exact h2
    obtain ⟨v', w', h2, h3, h4, _⟩ := run_append_own (P := P) w base t ty e i z size bytes ht hi hz hsize hby hzs hsz v n xs hown ad m c news hl hc h1 h63 hbytes hbase
    exact ⟨v', w', h2, h3, h4⟩

theorem wpList_append_cells {ops : Array Oper} {rest : List Oper} {o : Oper} {a : Act} {Q : Exit → Act → World → Prop} (hgd : o.guard = none) (s x : Operand) (t : TypeId)
    (ho : o.op = .call { callee := .builtin .append, args := #[s, x], argTypes := #[t, t] })
    (base : Nat) (e : TypeId) (i : TypeInfo) (z : Value) (size bytes : Nat) (ht : P.underlying t = some (.slice e)) (hi : P.info? e = some i) (hz : i.zero = some z)
    (hsize : i.size = size) (hby : i.bytes = bytes) (hzs : z.cells.size = size) (hsz : 0 < size)
    (v : Value) (n : Nat) (xs : List Value) (hs : a.eval s = v) (hown : w.ownsRow base e size v n xs)
    (A : Option Addr) (m c : Nat) (news : List Value) (hx : a.eval x = .slice A m c) (hl : news.length = m * size) (hnews : CellsAt w A news) (h1 : ∀ u ∈ news, u.oneCell' = true)
    (h63 : n + m ≤ maxLen) (hbytes : (n + m) * bytes ≤ 140737488355328) (hbase : base ≤ w.heap.size)
    (h : ∀ v' w', w'.ownsRow base e size v' (n + m) (xs ++ news) → w.grownBy w' v.ownBlock → wpList P ops Q rest (a.put o.dst v') w') : wpList P ops Q (o :: rest) a w := by
  refine wpList_plain hgd fun K hK => ?_
  obtain ⟨v', w', hr, h2, h3⟩ := append_cells (P := P) w base t o.type e i z size bytes ht hi hz hsize hby hzs hsz v n xs hown A m c news hl hnews h1 h63 hbytes hbase
  unfold Oper.wp execOp
  simp only [ho, resolve, invoke, builtin, Sem.run_bind, Sem.run_pure, Result.andThen_ok, List.map_toArray, List.map_cons, List.map_nil, hs, hx, hr]
  exact hK _ _ (h v' w' h2 h3)

/-- The same as one step of a region that draws its order. -/
theorem step_append_cells {ops : Array Oper} {o : Oper} {a : Act} {K : Act → World → Prop} {Q : Exit → Act → World → Prop} {E : Prop} (hgd : o.guard = none) (s x : Operand) (t : TypeId)
    (ho : o.op = .call { callee := .builtin .append, args := #[s, x], argTypes := #[t, t] })
    (base : Nat) (e : TypeId) (i : TypeInfo) (z : Value) (size bytes : Nat) (ht : P.underlying t = some (.slice e)) (hi : P.info? e = some i) (hz : i.zero = some z)
    (hsize : i.size = size) (hby : i.bytes = bytes) (hzs : z.cells.size = size) (hsz : 0 < size)
    (v : Value) (n : Nat) (xs : List Value) (hs : a.eval s = v) (hown : w.ownsRow base e size v n xs)
    (A : Option Addr) (m c : Nat) (news : List Value) (hx : a.eval x = .slice A m c) (hl : news.length = m * size) (hnews : CellsAt w A news) (h1 : ∀ u ∈ news, u.oneCell' = true)
    (h63 : n + m ≤ maxLen) (hbytes : (n + m) * bytes ≤ 140737488355328) (hbase : base ≤ w.heap.size)
    (h : ∀ v' w', w'.ownsRow base e size v' (n + m) (xs ++ news) → w.grownBy w' v.ownBlock → K (a.put o.dst v') w') : if Region.wanted o (yielded ops a.tmps) = true then Oper.wp P o a w K Q else E := by
  have hw : Region.wanted o (yielded ops a.tmps) = true := by simp [Region.wanted, hgd]
  rw [if_pos hw]
  obtain ⟨v', w', hr, h2, h3⟩ := append_cells (P := P) w base t o.type e i z size bytes ht hi hz hsize hby hzs hsz v n xs hown A m c news hl hnews h1 h63 hbytes hbase
  unfold Oper.wp execOp
  simp only [ho, resolve, invoke, builtin, Sem.run_bind, Sem.run_pure, Result.andThen_ok, List.map_toArray, List.map_cons, List.map_nil, hs, hx, hr]
  exact h v' w' h2 h3
end

end Go.Proofs.YthdfidhijmcbdaaGreatDoor
