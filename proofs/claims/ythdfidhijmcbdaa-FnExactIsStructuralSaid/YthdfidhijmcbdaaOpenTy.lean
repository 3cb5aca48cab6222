/- A laws.Type argument opened into the words of Ty. -/
import Derived.Test.YthdfidhijmcbdaaLaw
import Derived.Test.YthdfidhijmcbdaaTyIn
import Derived.Test.YthdfidhijmcbdaaProg
namespace Go.Proofs.Ythdfidhijmcbdaa
set_option maxRecDepth 100000
open Go.ChangeShapes Go.WideShapes Go.ChangeAt Go.RowKit

theorem cellsString : Try.prog.cellsOf 9 = 1 := by kernel_rfl
theorem cellsInt : Try.prog.cellsOf 3 = 1 := by kernel_rfl
end Go.Proofs.Ythdfidhijmcbdaa
