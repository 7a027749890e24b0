/- The document's own answers of layer 5: where an entry stands, modes, which entry stands ahead. -/
import Derived.Test.YtfgilhcjfpfjbaaDoorPsMem
import Derived.Test.YtfgilhcjfpfjbaaDoorPathsW4
namespace Go.Proofs.YtfgilhcjfpfjbaaDoor
open Go.RowKit
open SE (Ent)
set_option linter.unusedVariables false
set_option maxRecDepth 100000
end Go.Proofs.YtfgilhcjfpfjbaaDoor
