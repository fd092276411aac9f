/- The walks of Digest and Keyed. -/
import Derived.Test.YteajlelmaogboaaDoorFBegin
import Derived.Test.YteajlelmaogboaaDoorFKeyPlain
set_option linter.unusedSimpArgs false
set_option linter.unusedVariables false
set_option maxRecDepth 100000
namespace Go.Proofs.YteajlelmaogboaaDoor.F
open Go.RowKit

end Go.Proofs.YteajlelmaogboaaDoor.F
