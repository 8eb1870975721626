/- The listed table of names, as the contracts ask for it. -/
import Derived.Test.YtigbbepgfofcoaaDoorTabs
import Derived.Test.YtigbbepgfofcoaaDoorUnA
import Derived.Deep.DeepHandedRow
namespace Go.Proofs.YtigbbepgfofcoaaDoor
open Go.ChangeShapes Go.WideShapes Go.RowKit
set_option linter.unusedVariables false

theorem tabUnOf {W : World} (h : laidMetH Tryd.prog [("feria/unit.names", Rows.laid_feria_unit_names)] W) : TabUn W :=
  tabS_head (name := "feria/unit.names") (W := W) (ss := tabUn) (rest := []) (g := 0) (t := 92) (e := 9) (n := 7) (by kernel_rfl) (by kernel_rfl) Tryd.underlying92 Tryd.underlying9 (by kernel_rfl) h
end Go.Proofs.YtigbbepgfofcoaaDoor
