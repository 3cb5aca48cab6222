/- laws.szOptic counts a tree of optics. -/
import Derived.Test.YtakicpcfghejiaaProg
import Derived.Test.YtakicpcfghejiaaOtIn
import Derived.Test.YtakicpcfghejiaaSzTy
import Derived.Outline
namespace Go.Proofs.Ytakicpcfghejiaa
open Go.RowKit

end Go.Proofs.Ytakicpcfghejiaa
