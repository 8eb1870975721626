/- wide.Full and wide.Of (layer 4). -/
import Derived.Test.YtbfndcogieiejaaWdP
import Derived.LoopTactic
import Derived.StillTailTactics
import Derived.LoopN
import Derived.WalkMore
import Derived.Laws.StructEq
namespace Go.Proofs.Ytbfndcogieiejaa
open Go.RowKit
set_option linter.unusedVariables false

def ones7 (k j : Nat) : Nat := if j < k then 18446744073709551615 else 0
def fullS (j : Nat) : Nat := if j < 6 then 18446744073709551615 else 65535
theorem full_wv : ∀ j, j < 7 → fullS j = wv fullW j := by
  intro j hj
  refine mk_eq (m := fullS j) _ (by unfold fullS; split <;> omega) fun i hi => ?_
  unfold fullS fullW
  split
  · rw [decide_eq_true (by omega), show (18446744073709551615 : Nat) = 2 ^ 64 - 1 by decide, Nat.testBit_two_pow_sub_one]
    simp [hi]
  · rw [show (65535 : Nat) = 2 ^ 16 - 1 by decide, Nat.testBit_two_pow_sub_one]
    rw [Bool.eq_iff_iff, decide_eq_true_eq, decide_eq_true_eq]
    omega
end Go.Proofs.Ytbfndcogieiejaa
