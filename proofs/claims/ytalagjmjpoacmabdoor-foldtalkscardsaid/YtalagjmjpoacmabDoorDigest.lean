/- The walks of Digest and Keyed. -/
import Derived.Test.YtalagjmjpoacmabDoorBegin
import Derived.Test.YtalagjmjpoacmabDoorKeyPlain
set_option linter.unusedSimpArgs false
set_option linter.unusedVariables false
namespace Go.Proofs.YtalagjmjpoacmabDoor
open Go.RowKit

end Go.Proofs.YtalagjmjpoacmabDoor
