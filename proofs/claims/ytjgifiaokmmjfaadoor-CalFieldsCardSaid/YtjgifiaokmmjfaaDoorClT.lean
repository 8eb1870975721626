/- The listed table of cal's bounds, as the contracts ask for it (layer 28). -/
import Derived.Test.YtjgifiaokmmjfaaDoorTabs
import Derived.Test.YtjgifiaokmmjfaaDoorClA
import Derived.Deep.DeepHandedRow
namespace Go.Proofs.YtjgifiaokmmjfaaDoor
open Go.ChangeShapes Go.WideShapes Go.RowKit
set_option linter.unusedVariables false

theorem tabClOf {W : World} (h : laidMetH Tryd.prog [("feria/cal.bounds", Rows.laid_feria_cal_bounds)] W) : TabCl W := by
  have hh := tab2_head (name := "feria/cal.bounds") (W := W) (zs := [(1, 7), (1970, 2369), (1, 12), (1, 31), (0, 23), (0, 59), (0, 59)]) (rest := []) (g := 1) (t := 57) (e := 52) (k := 3) (n := 7) (by kernel_rfl) (by kernel_rfl) Tryd.underlying57 Tryd.underlying52 Tryd.underlying3 (by kernel_rfl) (by kernel_rfl) h
  intro j hj
  match j, hj with
  | 0, _ => exact (hh 0 (by decide)).1
  | 1, _ => exact (hh 0 (by decide)).2
  | 2, _ => exact (hh 1 (by decide)).1
  | 3, _ => exact (hh 1 (by decide)).2
  | 4, _ => exact (hh 2 (by decide)).1
  | 5, _ => exact (hh 2 (by decide)).2
  | 6, _ => exact (hh 3 (by decide)).1
  | 7, _ => exact (hh 3 (by decide)).2
  | 8, _ => exact (hh 4 (by decide)).1
  | 9, _ => exact (hh 4 (by decide)).2
  | 10, _ => exact (hh 5 (by decide)).1
  | 11, _ => exact (hh 5 (by decide)).2
  | 12, _ => exact (hh 6 (by decide)).1
  | 13, _ => exact (hh 6 (by decide)).2
end Go.Proofs.YtjgifiaokmmjfaaDoor
