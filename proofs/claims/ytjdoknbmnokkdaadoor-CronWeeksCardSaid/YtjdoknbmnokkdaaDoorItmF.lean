/- Contract of the document's compare of two lists of items (layer 12). -/
import Derived.Test.YtjdoknbmnokkdaaDoorItmE
namespace Go.Proofs.YtjdoknbmnokkdaaDoor
open Go.RowKit
set_option linter.unusedVariables false

end Go.Proofs.YtjdoknbmnokkdaaDoor
