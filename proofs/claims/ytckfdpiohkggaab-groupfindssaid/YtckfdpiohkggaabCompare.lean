/- The reference's Compare. -/
import Derived.Test.YtckfdpiohkggaabAid
set_option linter.unusedSimpArgs false
set_option linter.unusedVariables false
namespace Go.Proofs.Ytckfdpiohkggaab
open Go.RowKit Go.Deep Go.PlainAid

end Go.Proofs.Ytckfdpiohkggaab
