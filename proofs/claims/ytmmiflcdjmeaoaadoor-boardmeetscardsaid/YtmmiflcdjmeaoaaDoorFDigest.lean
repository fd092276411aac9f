/- The walks of Digest and Keyed. -/
import Derived.Test.YtmmiflcdjmeaoaaDoorFBegin
import Derived.Test.YtmmiflcdjmeaoaaDoorFKeyPlain
set_option linter.unusedSimpArgs false
set_option linter.unusedVariables false
set_option maxRecDepth 100000
namespace Go.Proofs.YtmmiflcdjmeaoaaDoor.F
open Go.RowKit

end Go.Proofs.YtmmiflcdjmeaoaaDoor.F
