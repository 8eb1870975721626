/- The listed table of cron's bounds, as the contracts ask for it (layer 24). -/
import Derived.Test.YtahlegempjlbbaaDoorTabs
import Derived.Test.YtahlegempjlbbaaDoorCrA
import Derived.Deep.DeepHandedRow
namespace Go.Proofs.YtahlegempjlbbaaDoor
open Go.ChangeShapes Go.WideShapes Go.RowKit
set_option linter.unusedVariables false

theorem tabCrOf {W : World} (h : laidMetH Tryd.prog [("feria/cron.bounds", Rows.laid_feria_cron_bounds)] W) : TabCr W := by
  have hh := tab2_head (name := "feria/cron.bounds") (W := W) (zs := [(0, 59), (0, 23), (1, 31), (1, 12), (0, 7)]) (rest := []) (g := 0) (t := 65) (e := 64) (k := 3) (n := 5) (by kernel_rfl) (by kernel_rfl) Tryd.underlying65 Tryd.underlying64 Tryd.underlying3 (by kernel_rfl) (by kernel_rfl) h
  intro j hj
  match j, hj with
  | 0, _ => exact (hh 0 (by decide)).1
  | 1, _ => exact (hh 0 (by decide)).2
  | 2, _ => exact (hh 1 (by decide)).1
  | 3, _ => exact (hh 1 (by decide)).2
  | 4, _ => exact (hh 2 (by decide)).1
  | 5, _ => exact (hh 2 (by decide)).2
  | 6, _ => exact (hh 3 (by decide)).1
  | 7, _ => exact (hh 3 (by decide)).2
  | 8, _ => exact (hh 4 (by decide)).1
  | 9, _ => exact (hh 4 (by decide)).2
end Go.Proofs.YtahlegempjlbbaaDoor
