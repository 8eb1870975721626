/- The contract of the function that week.follow makes (layer 6). -/
import Derived.Test.YtbfndcogieiejaaDoorWeek
import Derived.Test.YtbfndcogieiejaaDoorBut
namespace Go.Proofs.YtbfndcogieiejaaDoor
open Go.RowKit Civ
set_option linter.unusedVariables false

end Go.Proofs.YtbfndcogieiejaaDoor
