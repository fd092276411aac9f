/- The walk of GroupKnows. -/
import Derived.Test.YtlimogamjgehjaaGreatTells
import Derived.Test.YtlimogamjgehjaaGreatIsRef
set_option linter.unusedSimpArgs false
set_option linter.unusedVariables false
namespace Go.Proofs.YtlimogamjgehjaaGreat
open Go.RowKit Go.Deep Go.PlainAid

end Go.Proofs.YtlimogamjgehjaaGreat
