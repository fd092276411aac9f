/- The walks of Digest and Keyed. -/
import Derived.Test.YtckgihloiecdmaaDoorFBegin
import Derived.Test.YtckgihloiecdmaaDoorFKeyPlain
set_option linter.unusedSimpArgs false
set_option linter.unusedVariables false
set_option maxRecDepth 100000
namespace Go.Proofs.YtckgihloiecdmaaDoor.F
open Go.RowKit

end Go.Proofs.YtckgihloiecdmaaDoor.F
