/- The document's own answers of layer 5: where an entry stands, modes, which entry stands ahead. -/
import Derived.Test.YtpfljooceppcbaaDoorPsMem
import Derived.Test.YtpfljooceppcbaaDoorPathsW4
namespace Go.Proofs.YtpfljooceppcbaaDoor
open Go.RowKit
open SE (Ent)
set_option linter.unusedVariables false
set_option maxRecDepth 100000
end Go.Proofs.YtpfljooceppcbaaDoor
