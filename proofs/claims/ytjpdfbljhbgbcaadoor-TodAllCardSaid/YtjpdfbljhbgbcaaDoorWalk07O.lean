/- The walk of TodOn (layer 7). -/
import Derived.Test.YtjpdfbljhbgbcaaDoorTodD
import Derived.Test.YtjpdfbljhbgbcaaDoorOpen
namespace Go.Proofs.YtjpdfbljhbgbcaaDoor
open Go.RowKit
set_option linter.unusedVariables false

theorem hd_bit (H i : Nat) (h : i < 24) : (hd H).testBit i = H.testBit i := by unfold hd; rw [mod_bit, dec_t h, Bool.true_and]
theorem hm_bit (M i : Nat) (h : i < 60) : (hm M).testBit i = M.testBit i := by unfold hm; rw [mod_bit, dec_t h, Bool.true_and]
theorem pM_in (H M S t : Nat) (ht : t < 86400) : inT (t : Int) H M S = pM H M S t := by
  rw [inT_in _ _ _ _ (by omega) (by omega)]
  rw [show ((t : Int) / 3600) = ((t / 3600 : Nat) : Int) by omega, show ((t : Int) / 60 % 60) = ((t / 60 % 60 : Nat) : Int) by omega, show ((t : Int) % 60) = ((t % 60 : Nat) : Int) by omega]
  rw [inM_in _ _ (by omega), inM_in _ _ (by omega), inM_in _ _ (by omega)]
  unfold pM pT
  rw [hd_bit _ _ (by omega), hm_bit _ _ (by omega), hm_bit _ _ (by omega)]
theorem numsP_skip' (p : Nat → Bool) (j : Nat) : ∀ k, (∀ i, j ≤ i → i < j + k → p i = false) → numsP p (j + k) = numsP p j
  | 0, _ => rfl
  | k + 1, h => by rw [← Nat.add_assoc, numsP_no p (j + k) (h _ (by omega) (by omega)), numsP_skip' p j k fun i h1 h2 => h i h1 (by omega)]
theorem numsP_to (p : Nat → Bool) (j a : Nat) (hj : j ≤ a) (h : ∀ i, j ≤ i → i < a → p i = false) : numsP p a = numsP p j := by
  have := numsP_skip' p j (a - j) fun i h1 h2 => h i h1 (by omega)
  rwa [show j + (a - j) = a by omega] at this
/-- the last one told, ahead of a second -/
def LastOf (p : Nat → Bool) (A : Nat) (L : Int) : Prop := (A = 0 ∧ L = -1) ∨ (∃ l : Nat, A = l + 1 ∧ L = (l : Int) ∧ p l = true)
theorem LastOf.lt {p : Nat → Bool} {A : Nat} {L : Int} (h : LastOf p A L) : -1 ≤ L ∧ L < (A : Int) := by
  rcases h with ⟨h1, h2⟩ | ⟨l, h1, h2, _⟩ <;> omega
theorem LastOf.end {p : Nat → Bool} {A T : Nat} {L : Int} (h : LastOf p A L) (hT : T < 86400) (h1 : p T = true) (h2 : ∀ u, T < u → p u = false) (hn : NoNext p A) : L = (T : Int) ∧ 0 < (numsP p A).length := by
  have hTA : T < A := by
    rcases Nat.lt_or_ge T A with g | g
    · exact g
    · have := hn T g hT; rw [h1] at this; cases this
  rcases h with ⟨q1, _⟩ | ⟨l, q1, q2, q3⟩
  · omega
  · have hl : l ≤ T := by
      rcases Nat.lt_or_ge T l with g | g
      · have := h2 l g; rw [q3] at this; cases this
      · exact g
    refine ⟨by omega, ?_⟩
    rw [q1, numsP_yes p l q3, List.length_append]
    simp
theorem LastOf.none {p : Nat → Bool} {A : Nat} {L : Int} (h : LastOf p A L) (h0 : ∀ u, p u = false) : L = -1 ∧ (numsP p A).length = 0 := by
  rcases h with ⟨q1, q2⟩ | ⟨l, q1, q2, q3⟩
  · subst q1; exact ⟨q2, rfl⟩
  · rw [h0 l] at q3; cases q3
end Go.Proofs.YtjpdfbljhbgbcaaDoor
