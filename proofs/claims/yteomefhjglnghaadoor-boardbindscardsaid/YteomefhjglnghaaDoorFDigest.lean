/- The walks of Digest and Keyed. -/
import Derived.Test.YteomefhjglnghaaDoorFBegin
import Derived.Test.YteomefhjglnghaaDoorFKeyPlain
set_option linter.unusedSimpArgs false
set_option linter.unusedVariables false
set_option maxRecDepth 100000
namespace Go.Proofs.YteomefhjglnghaaDoor.F
open Go.RowKit

end Go.Proofs.YteomefhjglnghaaDoor.F
