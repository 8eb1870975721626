/- wide.Of (layer 4). -/
import Derived.Test.YtigbbepgfofcoaaDoorWdA
namespace Go.Proofs.YtigbbepgfofcoaaDoor
open Go.RowKit
set_option linter.unusedVariables false

theorem inW_step (zs : List Int) (k n : Nat) (h : k < zs.length) (hn : zs[k]?.getD 0 = (n : Int)) (h4 : n < 400) : ∀ i, inW (zs.take (k + 1)) i = (inW (zs.take k) i || decide (i = n)) := fun i => by rw [take_step zs k h, hn, inW_snoc _ _ _ h4]
theorem inW_pass (zs : List Int) (k : Nat) (h : k < zs.length) (hx : zs[k]?.getD 0 < 0 ∨ 400 ≤ zs[k]?.getD 0) : ∀ j, j < 7 → wv (inW (zs.take k)) j = wv (inW (zs.take (k + 1))) j := fun j _ => wv_congr fun i _ => by rw [take_step zs k h, inW_skip _ _ _ hx]
theorem zero_wv (P : Nat → Bool) (h : ∀ i, P i = false) (j : Nat) : 0 = wv P j := by
  rw [← mk_none]
  exact mk_congr fun i _ => (h _).symm
end Go.Proofs.YtigbbepgfofcoaaDoor
