/- laws.eqValue of two values that read as the same tree. -/
import Derived.Test.YtlmbnefoobameaaDoorToVa
import Derived.Test.YtlmbnefoobameaaDoorEqTy
import Derived.Deep.RegionHeld3
namespace Go.Proofs.YtlmbnefoobameaaDoor
open Go.RowKit

end Go.Proofs.YtlmbnefoobameaaDoor
