/- Contract of the document's compare of two lists of items (layer 12). -/
import Derived.Test.YtahlegempjlbbaaDoorItmE
namespace Go.Proofs.YtahlegempjlbbaaDoor
open Go.RowKit
set_option linter.unusedVariables false

end Go.Proofs.YtahlegempjlbbaaDoor
