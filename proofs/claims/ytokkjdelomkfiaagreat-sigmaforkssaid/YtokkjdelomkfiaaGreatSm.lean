/- Extract. -/
import Derived.Test.YtokkjdelomkfiaaGreatSl9
set_option linter.unusedSimpArgs false
set_option linter.unusedVariables false
set_option maxRecDepth 100000
namespace Go.Proofs.YtokkjdelomkfiaaGreat
open Go.RowKit Go.Deep Go.PlainAid

end Go.Proofs.YtokkjdelomkfiaaGreat
