/- The walk of CronshowItems (layer 26). -/
import Derived.Test.YtahlegempjlbbaaDoorCsE
namespace Go.Proofs.YtahlegempjlbbaaDoor
open Go.RowKit
set_option linter.unusedVariables false

theorem star15 : itT (0, 0, 0, 15) = ⟨#[42, 47, 49, 53]⟩ := by
  have e : tx 15 = ⟨#[49, 53]⟩ := by
    show (⟨(Lib.itoa ((15 : Nat) : Int)).toArray⟩ : ByteArray) = _
    rw [Lib.itoa_nonneg, Lib.decDigits_two (by decide) (by decide)]
    rfl
  show stT 15 (chr 42) = _
  unfold stT
  rw [if_neg (by decide), e]
  rfl
set_option maxRecDepth 20000 in
theorem lives26_any (w : World) (hT : TabP w) : Calls Tryd.prog 5 #[] w fun e w' => e = .returned (.bool true) ∧ Below w.heap.size w w' := by
  have K := citem_any (0, 0, 0, 15) ⟨show I64 0 by unfold I64; omega, show I64 0 by unfold I64; omega, show I64 0 by unfold I64; omega, show I64 15 by unfold I64; omega⟩ w hT
  rw [star15] at K
  replace K : Calls Tryd.prog 10 #[.agg #[.int .i64 0, .int .i64 0, .int .i64 0, .int .i64 15]] w fun e w' => e = .returned (.string ⟨#[42, 47, 49, 53]⟩) ∧ Below w.heap.size w w' := K
  clear hT
  go_enter Tryd.func5, Tryd.ntmps5
  go_wp2_with fail
  refine K.mono ?_
  rintro e w1 ⟨rfl, hb⟩
  go_wp2
  go_ret
  exact ⟨rfl, hb⟩
end Go.Proofs.YtahlegempjlbbaaDoor
