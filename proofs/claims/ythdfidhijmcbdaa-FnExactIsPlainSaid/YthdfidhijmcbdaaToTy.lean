/- laws.toType makes a new tree. -/
import Derived.Test.YthdfidhijmcbdaaProg
import Derived.Test.YthdfidhijmcbdaaTyIn
import Derived.Test.YthdfidhijmcbdaaSz
import Derived.Outline
namespace Go.Proofs.Ythdfidhijmcbdaa
open Go.RowKit

theorem bcell {W w1 : World} (hb : Below W.heap.size W w1) : (∀ b o, b < W.heap.size → w1.cell? ⟨b, o, none⟩ = W.cell? ⟨b, o, none⟩) ∧ (∀ b o, b < W.heap.size → w1.frozen? ⟨b, o, none⟩ = W.frozen? ⟨b, o, none⟩) :=
  ⟨fun b o h => hb.cell (p := ⟨b, o, none⟩) h, fun b o h => hb.frozen (p := ⟨b, o, none⟩) h⟩

theorem boxes3 (w : World) (t1 t2 t3 : TypeId) (a b c : Array Value) :
    Below w.heap.size w (((w.alloc (.cells a t1)).alloc (.cells b t2)).alloc (.cells c t3)) ∧ Whole1 (((w.alloc (.cells a t1)).alloc (.cells b t2)).alloc (.cells c t3)) w.heap.size t1 a ∧
    Whole1 (((w.alloc (.cells a t1)).alloc (.cells b t2)).alloc (.cells c t3)) (w.heap.size + 1) t2 b ∧ Whole1 (((w.alloc (.cells a t1)).alloc (.cells b t2)).alloc (.cells c t3)) (w.heap.size + 1 + 1) t3 c ∧
    (((w.alloc (.cells a t1)).alloc (.cells b t2)).alloc (.cells c t3)).heap.size = w.heap.size + 3 := by
  refine ⟨(((Below.refl _ _).alloc (Nat.le_refl _) _).alloc (by simp) _).alloc (by simp; omega) _, ?_, ?_, ?_, by simp⟩
  · exact Whole1.below (B := w.heap.size + 1) (Whole1.new _ _ _) (((Below.refl _ _).alloc (by simp) _).alloc (by simp) _) (by omega)
  · have h := Whole1.new (w.alloc (.cells a t1)) t2 b
    exact Whole1.below (B := w.heap.size + 2) (by simpa using h) ((Below.refl _ _).alloc (by simp) _) (by omega)
  · have h := Whole1.new ((w.alloc (.cells a t1)).alloc (.cells b t2)) t3 c
    simpa using h

/-- make of a row of elements of sz cells. -/
theorem run_make_elems {P : Program} {T E : TypeId} {z : Value} {sz by8 : Nat} (ht : P.underlying T = some (.slice E)) (hi : (P.info? E).map (fun i => (i.zero, i.size, i.bytes)) = some (some z, sz, by8)) (n : Nat) (hb : (by8 : Int) * n ≤ 281474976710656) (hn : n ≤ 1048576) (w : World) :
    ∃ cs : Array Value, cs.size = n * sz ∧ (Instr.makeSlice T (.int .i64 (n : Int)) (.int .i64 (n : Int))).run P w = .ok (.slice (some ⟨w.heap.size, 0, none⟩) n n) (w.alloc (.cells cs E)) := by
  obtain ⟨i, h1, h2, h3, h4⟩ := info_parts hi
  have hr := run_make (P := P) w T E i _ ht h1 h2 .i64 .i64 n n (by omega) (by omega) (by rw [h4]; exact hb) (by omega)
  simp only [Int.toNat_natCast] at hr
  refine ⟨_, ?_, hr⟩
  rw [size_madeCells, h3]

theorem boxes1 (w : World) (t1 : TypeId) (a : Array Value) : Below w.heap.size w (w.alloc (.cells a t1)) ∧ Whole1 (w.alloc (.cells a t1)) w.heap.size t1 a ∧ (w.alloc (.cells a t1)).heap.size = w.heap.size + 1 :=
  ⟨(Below.refl _ _).alloc (Nat.le_refl _) _, Whole1.new _ _ _, by simp⟩

theorem bd_mono (bd : Nat → Nat) (k : Nat) (h : ∀ i, i < k → bd i ≤ bd (i + 1)) : ∀ i j, i ≤ j → j ≤ k → bd i ≤ bd j
  | i, 0, h1, _ => by
    have : i = 0 := by omega
    subst this
    exact Nat.le_refl _
  | i, j + 1, h1, h2 => by
    by_cases e : i = j + 1
    · rw [e]
      exact Nat.le_refl _
    · exact Nat.le_trans (bd_mono bd k h i j (by omega) (by omega)) (h j (by omega))

end Go.Proofs.Ythdfidhijmcbdaa
