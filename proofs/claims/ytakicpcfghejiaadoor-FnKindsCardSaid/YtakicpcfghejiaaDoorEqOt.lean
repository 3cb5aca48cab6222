/- laws.eqOptic of two values that read as the same tree. -/
import Derived.Test.YtakicpcfghejiaaDoorToOt
import Derived.Test.YtakicpcfghejiaaDoorEqTy
import Derived.Deep.RegionHeld3
namespace Go.Proofs.YtakicpcfghejiaaDoor
open Go.RowKit

end Go.Proofs.YtakicpcfghejiaaDoor
