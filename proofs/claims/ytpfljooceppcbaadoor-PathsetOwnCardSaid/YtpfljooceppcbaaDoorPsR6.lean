/- The document's own answers of layer 5: what stands against a path, a mode and a holder. -/
import Derived.Test.YtpfljooceppcbaaDoorPsR5
namespace Go.Proofs.YtpfljooceppcbaaDoor
open Go.RowKit
open SE (Ent)
set_option linter.unusedVariables false
set_option maxRecDepth 100000
end Go.Proofs.YtpfljooceppcbaaDoor
