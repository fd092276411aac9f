/- The walks of Digest and Keyed. -/
import Derived.Test.YtlchlajckodppaaDoorFBegin
import Derived.Test.YtlchlajckodppaaDoorFKeyPlain
set_option linter.unusedSimpArgs false
set_option linter.unusedVariables false
set_option maxRecDepth 100000
namespace Go.Proofs.YtlchlajckodppaaDoor.F
open Go.RowKit

end Go.Proofs.YtlchlajckodppaaDoor.F
