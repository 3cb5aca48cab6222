/- laws.toOptic makes a new tree of optics. -/
import Derived.Test.YtakicpcfghejiaaProg
import Derived.Test.YtakicpcfghejiaaOtIn
import Derived.Test.YtakicpcfghejiaaGather
import Derived.Outline
namespace Go.Proofs.Ytakicpcfghejiaa
open Go.RowKit

end Go.Proofs.Ytakicpcfghejiaa
