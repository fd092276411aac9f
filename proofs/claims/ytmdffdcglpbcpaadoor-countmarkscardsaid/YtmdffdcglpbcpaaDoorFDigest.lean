/- The walks of Digest and Keyed. -/
import Derived.Test.YtmdffdcglpbcpaaDoorFBegin
import Derived.Test.YtmdffdcglpbcpaaDoorFKeyPlain
set_option linter.unusedSimpArgs false
set_option linter.unusedVariables false
set_option maxRecDepth 100000
namespace Go.Proofs.YtmdffdcglpbcpaaDoor.F
open Go.RowKit

end Go.Proofs.YtmdffdcglpbcpaaDoor.F
