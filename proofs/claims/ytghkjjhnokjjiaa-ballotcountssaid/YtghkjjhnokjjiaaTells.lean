/- The walk of GroupTells. -/
import Derived.Test.YtghkjjhnokjjiaaOn
import Derived.Test.YtghkjjhnokjjiaaKind
set_option linter.unusedSimpArgs false
set_option linter.unusedVariables false
namespace Go.Proofs.Ytghkjjhnokjjiaa
open Go.RowKit Go.Deep Go.PlainAid

end Go.Proofs.Ytghkjjhnokjjiaa
