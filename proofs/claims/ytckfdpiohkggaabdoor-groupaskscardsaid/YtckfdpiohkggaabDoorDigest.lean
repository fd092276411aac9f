/- The walks of Digest and Keyed. -/
import Derived.Test.YtckfdpiohkggaabDoorBegin
import Derived.Test.YtckfdpiohkggaabDoorKeyPlain
set_option linter.unusedSimpArgs false
set_option linter.unusedVariables false
set_option maxRecDepth 100000
namespace Go.Proofs.YtckfdpiohkggaabDoor.F
open Go.RowKit

end Go.Proofs.YtckfdpiohkggaabDoor.F
