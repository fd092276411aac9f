/- The walks of Digest and Keyed. -/
import Derived.Test.YtejdhcpmmjijjaaDoorFBegin
import Derived.Test.YtejdhcpmmjijjaaDoorFKeyPlain
set_option linter.unusedSimpArgs false
set_option linter.unusedVariables false
set_option maxRecDepth 100000
namespace Go.Proofs.YtejdhcpmmjijjaaDoor.F
open Go.RowKit

end Go.Proofs.YtejdhcpmmjijjaaDoor.F
