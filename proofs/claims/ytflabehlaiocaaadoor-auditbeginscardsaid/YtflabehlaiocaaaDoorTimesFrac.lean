/- The walk of times: products of fractions. -/
import Derived.Test.YtflabehlaiocaaaDoorBaseF
import Derived.Test.YtflabehlaiocaaaDoorAid
import Derived.Deep.CutBlock
import Derived.Deep.DeepCutAuto
set_option linter.unusedSimpArgs false
set_option linter.unusedVariables false
namespace Go.Proofs.YtflabehlaiocaaaDoor
open Go.RowKit Go.Deep Go.PlainAid

end Go.Proofs.YtflabehlaiocaaaDoor
