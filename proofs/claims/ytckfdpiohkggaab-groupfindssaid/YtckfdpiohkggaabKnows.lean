/- The walk of GroupKnows. -/
import Derived.Test.YtckfdpiohkggaabTells
import Derived.Test.YtckfdpiohkggaabIsRef
set_option linter.unusedSimpArgs false
set_option linter.unusedVariables false
namespace Go.Proofs.Ytckfdpiohkggaab
open Go.RowKit Go.Deep Go.PlainAid

end Go.Proofs.Ytckfdpiohkggaab
