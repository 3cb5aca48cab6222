/- laws.szType counts a tree. -/
import Derived.Test.YtakicpcfghejiaaDoorProg
import Derived.Test.YtakicpcfghejiaaDoorTyIn
import Derived.Test.YtakicpcfghejiaaDoorSz
import Derived.Outline
namespace Go.Proofs.YtakicpcfghejiaaDoor
open Go.RowKit

/-- What is left of n. -/
def leftOf (left : Int) (n : Nat) : Int := if left - n < 0 then -1 else left - n
theorem leftOf_cases (left : Int) (n : Nat) : leftOf left n = -1 ∨ 0 ≤ leftOf left n := by unfold leftOf; split <;> omega
/-- A number is handed back; what was there stands. -/
def IntBelow (x : Int) (w : World) (e : Ending) (w' : World) : Prop := e = .returned (.int .i64 x) ∧ Below w.heap.size w w'

end Go.Proofs.YtakicpcfghejiaaDoor
