/- Contracts of mask.Span and of the document's Of (layer 2). -/
import Derived.Test.YtbfndcogieiejaaDoorMaskA
namespace Go.Proofs.YtbfndcogieiejaaDoor
open Go.RowKit
set_option linter.unusedVariables false

theorem bv_step (p : Nat → Bool) (n : Nat) (h : n < 64) : bv p n (64 - n) = (if p n = true then 1 else 0) + 2 * bv p (n + 1) (63 - n) := by
  rw [show 64 - n = 63 - n + 1 by omega]; rfl
theorem bv_small (p : Nat → Bool) (n : Nat) : bv p (n + 1) (63 - n) < 9223372036854775808 :=
  Nat.lt_of_lt_of_le (bv_lt p (63 - n) (n + 1)) (show 2 ^ (63 - n) ≤ 2 ^ 63 from Nat.pow_le_pow_right (by decide) (by omega))
/-- none of the first k is this number -/
def noneOf (zs : List Int) (k : Nat) (n : Int) : Prop := ∀ j, j < k → zs[j]?.getD 0 ≠ n
theorem noneOf_all {zs : List Int} {n : Nat} (h : noneOf zs zs.length n) : inL zs n = false := by
  unfold inL
  apply decide_eq_false
  intro hm
  obtain ⟨j, hj, e⟩ := List.getElem_of_mem hm
  exact h j hj (by rw [List.getElem?_eq_getElem hj]; exact e)
theorem in_of {zs : List Int} {k n : Nat} (hk : k < zs.length) (h : zs[k]?.getD 0 = (n : Int)) : inL zs n = true := by
  unfold inL
  apply decide_eq_true
  rw [List.getElem?_eq_getElem hk] at h
  rw [← show zs[k] = (n : Int) from h]
  exact List.getElem_mem hk
end Go.Proofs.YtbfndcogieiejaaDoor
