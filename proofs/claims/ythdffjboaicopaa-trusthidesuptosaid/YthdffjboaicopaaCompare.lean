/- The reference's Compare. -/
import Derived.Test.YthdffjboaicopaaAid
set_option linter.unusedSimpArgs false
set_option linter.unusedVariables false
namespace Go.Proofs.Ythdffjboaicopaa
open Go.RowKit Go.Deep Go.PlainAid

end Go.Proofs.Ythdffjboaicopaa
