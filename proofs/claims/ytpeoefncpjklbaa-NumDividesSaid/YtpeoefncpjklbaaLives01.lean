/- lives of layer 1's statements answers true, whatever the world, and writes nothing that was there. -/
import Derived.Test.YtpeoefncpjklbaaNum
namespace Go.Proofs.Ytpeoefncpjklbaa
open Go.RowKit

theorem i64_lit : I64 (-1) ∧ I64 7 ∧ I64 12 ∧ I64 (-18) := by unfold I64; omega
theorem lives01_any (w : World) : Calls Try.prog 15 #[] w fun e w' => e = .returned (.bool true) ∧ Below w.heap.size w w' := by
  have f1 : floorI (-1) 7 = -1 := by decide
  have m1 : modI (-1) 7 = 6 := by decide
  have g1 : gcdL [12, -18] = 6 := by decide
  obtain ⟨l1, l2, l3, l4⟩ := i64_lit
  have hz : ∀ z ∈ [(12 : Int), -18], I64 z := by intro z hz; simp at hz; rcases hz with rfl | rfl <;> assumption
  have hi := ints_new .i64 w [12, -18] _ 2 rfl
  go_enter Try.func15, Try.ntmps15
  go_wp2_with (first | (go_at_call 10; refine (floor_any _ _ _ l1 l2).mono ?_; rintro e w' ⟨rfl, rfl⟩) | (go_at_call 12; refine (mod_any _ _ _ l1 l2).mono ?_; rintro e w' ⟨rfl, rfl⟩) | (go_at_call 18; refine (gcd_any _ _ [12, -18] _ _ rfl (by decide) hz hi).mono ?_; rintro e w' ⟨rfl, k1, rfl⟩))
  go_ret
  exact ⟨rfl, ((Below.refl _ _).alloc (Nat.le_refl _) _).trans (below_draws _ _ _)⟩
end Go.Proofs.Ytpeoefncpjklbaa
