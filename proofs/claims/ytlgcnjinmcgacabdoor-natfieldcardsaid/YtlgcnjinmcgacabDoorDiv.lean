/- The walk of Div. -/
import Derived.Test.YtlgcnjinmcgacabDoorFace2
set_option linter.unusedSimpArgs false
set_option linter.unusedVariables false
namespace Go.Proofs.YtlgcnjinmcgacabDoor
open Go.RowKit Go.Deep Go.PlainAid

end Go.Proofs.YtlgcnjinmcgacabDoor
