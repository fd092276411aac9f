/- The walk of GroupKnows. -/
import Derived.Test.YtghkjjhnokjjiaaTells
import Derived.Test.YtghkjjhnokjjiaaIsRef
set_option linter.unusedSimpArgs false
set_option linter.unusedVariables false
namespace Go.Proofs.Ytghkjjhnokjjiaa
open Go.RowKit Go.Deep Go.PlainAid

end Go.Proofs.Ytghkjjhnokjjiaa
