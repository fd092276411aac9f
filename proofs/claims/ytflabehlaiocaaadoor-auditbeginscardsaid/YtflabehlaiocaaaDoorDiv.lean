/- The walk of Div. -/
import Derived.Test.YtflabehlaiocaaaDoorFace2
set_option linter.unusedSimpArgs false
set_option linter.unusedVariables false
namespace Go.Proofs.YtflabehlaiocaaaDoor
open Go.RowKit Go.Deep Go.PlainAid

end Go.Proofs.YtflabehlaiocaaaDoor
