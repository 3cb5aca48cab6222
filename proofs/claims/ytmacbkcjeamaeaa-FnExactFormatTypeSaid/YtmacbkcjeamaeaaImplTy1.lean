/- impl.limitedSum, impl.placeOfParts, impl.argsOfType. -/
import Derived.Test.YtmacbkcjeamaeaaPlace
import Derived.Test.YtmacbkcjeamaeaaSpecTy2
namespace Go.Proofs.Ytmacbkcjeamaeaa
set_option maxRecDepth 100000
open Go.RowKit

theorem limitedSum_any (a b : Nat) (w : World) (h : a + b ≤ 2 ^ 62) : Calls Try.prog 105 #[.int .i64 (a : Int), .int .i64 (b : Int)] w fun e w' => e = .returned (.int .i64 ((a + b : Nat) : Int)) ∧ w = w' := by
  have h1 : ¬ ((a : Int) > 9223372036854775807 - (b : Int)) := by omega
  go_enter Try.func105, Try.ntmps105
  go_wp2
  go_ret
  exact ⟨by go_num, rfl⟩

/-- The place of a slice. -/
def plOf (A : Option Addr) (n : Nat) : Pl := match A with | some a => if n = 0 then none else some (a.block, n) | none => none

def PlaceRet (w : World) (k : Pl) (e : Ending) (w' : World) : Prop := e = .returned (plVal k) ∧ Below w.heap.size w w'

theorem placeOf_nil (A : Option Addr) (c : Nat) (w : World) : Calls Try.prog 82 #[.slice A 0 c] w (PlaceRet w none) := by
  go_enter Try.func82, Try.ntmps82
  go_wp2
  refine bodyPost_ret (v := .agg #[.pointer none, .int .i64 0]) (by simp [results, Try.results82, go_sem]) rfl ⟨rfl, (Below.refl _ _).alloc (Nat.le_refl _) _⟩

theorem placeOf_some (g n c : Nat) (w : World) (h : 0 < n) : Calls Try.prog 82 #[.slice (some ⟨g, 0, none⟩) n c] w (PlaceRet w (some (g, n))) := by
  have h0 : ((n : Int) == 0) = false := by rw [beq_eq_false_iff_ne]; omega
  have h1 : (0 : Int) < (n : Int) := by omega
  go_enter Try.func82, Try.ntmps82
  go_wp2
  refine bodyPost_ret (v := .agg #[.pointer (some ⟨g, 0, none⟩), .int .i64 (n : Int)]) (by simp [results, Try.results82, go_sem]) rfl ⟨rfl, (Below.refl _ _).alloc (Nat.le_refl _) _⟩

theorem argsOf_any (a b c : Value) (w : World) : Calls Try.prog 44 #[.agg #[a, b, c]] w fun e w' => e = .returned c ∧ Below w.heap.size w w' := by
  have hb := (Below.refl w.heap.size w).alloc (Nat.le_refl _) (.cells #[a, b, c] 27)
  obtain ⟨hb0, p0, hs0⟩ := boxes1 w 27 #[a, b, c]
  go_enter Try.func44, Try.ntmps44
  go_wp2
  go_ret
  exact ⟨rfl, hb⟩

end Go.Proofs.Ytmacbkcjeamaeaa
