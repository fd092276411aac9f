/- The walks of Digest and Keyed. -/
import Derived.Test.YtejdhcpmmjijjabDoorFBegin
import Derived.Test.YtejdhcpmmjijjabDoorFKeyPlain
set_option linter.unusedSimpArgs false
set_option linter.unusedVariables false
set_option maxRecDepth 100000
namespace Go.Proofs.YtejdhcpmmjijjabDoor.F
open Go.RowKit

end Go.Proofs.YtejdhcpmmjijjabDoor.F
