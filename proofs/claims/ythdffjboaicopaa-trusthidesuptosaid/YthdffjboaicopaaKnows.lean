/- The walk of GroupKnows. -/
import Derived.Test.YthdffjboaicopaaTells
import Derived.Test.YthdffjboaicopaaIsRef
set_option linter.unusedSimpArgs false
set_option linter.unusedVariables false
namespace Go.Proofs.Ythdffjboaicopaa
open Go.RowKit Go.Deep Go.PlainAid

end Go.Proofs.Ythdffjboaicopaa
