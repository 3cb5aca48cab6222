/- laws.eqOptic of two values that read as the same tree. -/
import Derived.Test.YtakicpcfghejiaaToOt
import Derived.Test.YtakicpcfghejiaaEqTy
import Derived.Deep.RegionHeld3
namespace Go.Proofs.Ytakicpcfghejiaa
open Go.RowKit

end Go.Proofs.Ytakicpcfghejiaa
