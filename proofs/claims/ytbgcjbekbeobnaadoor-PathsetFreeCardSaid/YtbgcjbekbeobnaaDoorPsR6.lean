/- The document's own answers of layer 5: what stands against a path, a mode and a holder. -/
import Derived.Test.YtbgcjbekbeobnaaDoorPsR5
namespace Go.Proofs.YtbgcjbekbeobnaaDoor
open Go.RowKit
open SE (Ent)
set_option linter.unusedVariables false
set_option maxRecDepth 100000
end Go.Proofs.YtbgcjbekbeobnaaDoor
