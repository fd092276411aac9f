/- The walk of Div. -/
import Derived.Test.YtnahindcgedbaabDoorFace2
set_option linter.unusedSimpArgs false
set_option linter.unusedVariables false
namespace Go.Proofs.YtnahindcgedbaabDoor
open Go.RowKit Go.Deep Go.PlainAid

end Go.Proofs.YtnahindcgedbaabDoor
