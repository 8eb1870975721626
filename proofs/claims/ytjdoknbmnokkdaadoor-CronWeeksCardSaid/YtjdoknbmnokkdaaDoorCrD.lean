/- Contract of the document's Check of a line (layer 24). -/
import Derived.Test.YtjdoknbmnokkdaaDoorCrC
import Derived.Test.YtjdoknbmnokkdaaDoorItmB
namespace Go.Proofs.YtjdoknbmnokkdaaDoor
open Go.RowKit
set_option linter.unusedVariables false

end Go.Proofs.YtjdoknbmnokkdaaDoor
