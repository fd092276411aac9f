/- The walk of GroupKnows. -/
import Derived.Test.YtohpbclofcflaaaGreatTells
import Derived.Test.YtohpbclofcflaaaGreatIsRef
set_option linter.unusedSimpArgs false
set_option linter.unusedVariables false
namespace Go.Proofs.YtohpbclofcflaaaGreat
open Go.RowKit Go.Deep Go.PlainAid

end Go.Proofs.YtohpbclofcflaaaGreat
