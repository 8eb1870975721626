/- The listed table of names, as the contracts ask for it. -/
import Derived.Test.YtediadckcpedkaaDoorTabs
import Derived.Test.YtediadckcpedkaaDoorWnB
import Derived.Deep.DeepHandedRow
namespace Go.Proofs.YtediadckcpedkaaDoor
open Go.ChangeShapes Go.WideShapes Go.RowKit
set_option linter.unusedVariables false

theorem tabWkOf {W : World} (h : laidMetH Tryd.prog [("feria/week.names", Rows.laid_feria_week_names)] W) : TabWk W :=
  tabS_head (name := "feria/week.names") (W := W) (ss := tabWk) (rest := []) (g := 0) (t := 56) (e := 9) (n := 7) (by kernel_rfl) (by kernel_rfl) Tryd.underlying56 Tryd.underlying9 (by kernel_rfl) h
end Go.Proofs.YtediadckcpedkaaDoor
