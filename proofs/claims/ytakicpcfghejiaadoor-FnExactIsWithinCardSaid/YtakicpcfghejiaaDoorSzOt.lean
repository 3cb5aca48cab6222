/- laws.szOptic counts a tree of optics. -/
import Derived.Test.YtakicpcfghejiaaDoorProg
import Derived.Test.YtakicpcfghejiaaDoorOtIn
import Derived.Test.YtakicpcfghejiaaDoorSzTy
import Derived.Outline
namespace Go.Proofs.YtakicpcfghejiaaDoor
open Go.RowKit

end Go.Proofs.YtakicpcfghejiaaDoor
