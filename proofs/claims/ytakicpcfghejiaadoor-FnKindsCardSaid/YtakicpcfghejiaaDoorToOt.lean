/- laws.toOptic makes a new tree of optics. -/
import Derived.Test.YtakicpcfghejiaaDoorProg
import Derived.Test.YtakicpcfghejiaaDoorOtIn
import Derived.Test.YtakicpcfghejiaaDoorGather
import Derived.Outline
namespace Go.Proofs.YtakicpcfghejiaaDoor
open Go.RowKit

end Go.Proofs.YtakicpcfghejiaaDoor
