/- laws.szValue counts a tree of values. -/
import Derived.Test.YtlmbnefoobameaaDoorProg
import Derived.Test.YtlmbnefoobameaaDoorVaIn
import Derived.Test.YtlmbnefoobameaaDoorSzTy
import Derived.Outline
namespace Go.Proofs.YtlmbnefoobameaaDoor
open Go.RowKit

end Go.Proofs.YtlmbnefoobameaaDoor
