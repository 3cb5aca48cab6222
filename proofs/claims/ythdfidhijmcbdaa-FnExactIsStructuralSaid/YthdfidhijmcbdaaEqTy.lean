/- laws.eqType of two values that read as the same tree. -/
import Derived.Test.YthdfidhijmcbdaaToTy
import Derived.Test.YthdfidhijmcbdaaSz
import Derived.Deep.RegionHeld3
namespace Go.Proofs.Ythdfidhijmcbdaa
open Go.RowKit

/-- True is handed back; what was there stands. -/
def YesBelow (w : World) (e : Ending) (w' : World) : Prop := e = .returned (.bool true) ∧ Below w.heap.size w w'

theorem drewN_below (w : World) (n : Nat) : Below w.heap.size w (w.drewN n) := ⟨rfl, rfl, rfl, Nat.le_refl _, fun _ _ => rfl⟩

theorem boxes2 (w : World) (t1 t2 : TypeId) (a b : Array Value) :
    Below w.heap.size w ((w.alloc (.cells a t1)).alloc (.cells b t2)) ∧ Whole1 ((w.alloc (.cells a t1)).alloc (.cells b t2)) w.heap.size t1 a ∧
    Whole1 ((w.alloc (.cells a t1)).alloc (.cells b t2)) (w.heap.size + 1) t2 b ∧ ((w.alloc (.cells a t1)).alloc (.cells b t2)).heap.size = w.heap.size + 2 := by
  refine ⟨((Below.refl _ _).alloc (Nat.le_refl _) _).alloc (by simp) _, ?_, ?_, by simp⟩
  · exact Whole1.below (B := w.heap.size + 1) (Whole1.new _ _ _) ((Below.refl _ _).alloc (by simp) _) (by omega)
  · have h := Whole1.new (w.alloc (.cells a t1)) t2 b
    simpa using h

end Go.Proofs.Ythdfidhijmcbdaa
