/- laws.szType counts a tree. -/
import Derived.Test.YthdfidhijmcbdaaProg
import Derived.Test.YthdfidhijmcbdaaTyIn
import Derived.Test.YthdfidhijmcbdaaSz
import Derived.Outline
namespace Go.Proofs.Ythdfidhijmcbdaa
open Go.RowKit

/-- What is left of n. -/
def leftOf (left : Int) (n : Nat) : Int := if left - n < 0 then -1 else left - n
theorem leftOf_cases (left : Int) (n : Nat) : leftOf left n = -1 ∨ 0 ≤ leftOf left n := by unfold leftOf; split <;> omega
/-- A number is handed back; what was there stands. -/
def IntBelow (x : Int) (w : World) (e : Ending) (w' : World) : Prop := e = .returned (.int .i64 x) ∧ Below w.heap.size w w'

end Go.Proofs.Ythdfidhijmcbdaa
