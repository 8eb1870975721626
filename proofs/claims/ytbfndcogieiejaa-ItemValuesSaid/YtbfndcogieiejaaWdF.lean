/- wide.Len; the document's Has, List and Of (layer 4). -/
import Derived.Test.YtbfndcogieiejaaWdE
import Derived.Test.YtbfndcogieiejaaMask5
namespace Go.Proofs.Ytbfndcogieiejaa
open Go.RowKit
set_option linter.unusedVariables false

/-- how many numbers of a set lie in its first words -/
theorem len_step (P : Nat → Bool) (j : Nat) : (numsP P (64 * (j + 1))).length = (numsP P (64 * j)).length + (numsP (wv P j).testBit 64).length := by
  rw [show 64 * (j + 1) = 64 * j + 64 by omega, numsP_add]
  congr 2
  exact numsP_congr 64 fun i hi => by rw [wv_test, dec_t hi]; simp
theorem nums_clip (P : Nat → Bool) : ∀ n, numsP (clip P) (400 + n) = numsP (clip P) 400
  | 0 => rfl
  | n + 1 => by
    rw [show 400 + (n + 1) = (400 + n) + 1 by omega, numsP_no _ _ (by unfold clip; rw [dec_n (by omega)]; simp), nums_clip P n]
theorem by_words (P : Nat → Bool) : numsP (clip P) (64 * 7) = numsP (clip P) 400 := by
  rw [show 64 * 7 = 400 + 48 by decide]
  exact nums_clip P 48
theorem no_words (P : Nat → Bool) : (numsP P (64 * 0)).length = 0 := rfl
attribute [local irreducible] numsP
end Go.Proofs.Ytbfndcogieiejaa
