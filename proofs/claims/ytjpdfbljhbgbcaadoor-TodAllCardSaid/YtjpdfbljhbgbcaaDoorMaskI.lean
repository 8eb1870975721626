/- The law MaskBack's own closure, and what All tells to it (layer 2). -/
import Derived.Test.YtjpdfbljhbgbcaaDoorMaskH
namespace Go.Proofs.YtjpdfbljhbgbcaaDoor
open Go.RowKit
set_option linter.unusedVariables false

def B1At (M : Nat → Bool) (g B : Nat) (w : World) (x : Value) (wr : World) : Prop := ∃ (j : Nat) (v : Value), j ≤ 64 ∧ x = .int .u64 (rest M j) ∧ wr.heap[g]? = some (.cells #[v] 26 (0, 0)) ∧ OwnI wr B v (numsP M j) ∧
  But (fun k => k = g ∨ B ≤ k) w wr
/-- the place where the first j numbers of a mask end -/
theorem above_rest (m : Nat) (j : Nat) : above m ((j : Int) - 1) = rest m.testBit j := by
  unfold above rest
  refine mk_congr fun i hi => ?_
  by_cases h : j ≤ i
  · rw [dec_t h, dec_t (show (j : Int) - 1 < (i : Int) by omega)]
  · rw [dec_n h, dec_n (show ¬ (j : Int) - 1 < (i : Int) by omega)]
theorem numsP_grow (p : Nat → Bool) (a : Nat) : ∀ n, a ≤ n → ∃ t, numsP p n = numsP p a ++ t
  | 0, h => by obtain rfl : a = 0 := by omega
               exact ⟨[], by rw [List.append_nil]⟩
  | n + 1, h => by
    by_cases e : a = n + 1
    · subst e; exact ⟨[], by rw [List.append_nil]⟩
    · obtain ⟨t, ht⟩ := numsP_grow p a n (by omega)
      cases hp : p n
      · exact ⟨t, by rw [numsP_no p n hp, ht]⟩
      · exact ⟨t ++ [(n : Int)], by rw [numsP_yes p n hp, ht, List.append_assoc]⟩
theorem at_end (M : Nat → Bool) (j : Nat) (hj : j ≤ 64) (h : (numsP M 64).length ≤ (numsP M j).length) : rest M j = 0 := by
  by_cases hx : rest M j = 0
  · exact hx
  · obtain ⟨h1, h2, h3, _⟩ := rest_step M j hx
    obtain ⟨t, ht⟩ := numsP_grow M (lo (rest M j) + 1) 64 (by omega)
    rw [ht, h3] at h
    simp at h
    omega
theorem not_end (M : Nat → Bool) (j : Nat) (hj : j ≤ 64) (h : (numsP M j).length < (numsP M 64).length) : rest M j ≠ 0 := fun h0 => by
  rw [rest_end M j hj h0] at h; omega
theorem nth_num (M : Nat → Bool) (j : Nat) (hx : rest M j ≠ 0) : (numsP M 64)[(numsP M j).length]?.getD 0 = ((lo (rest M j) : Nat) : Int) := by
  obtain ⟨h1, h2, h3, _⟩ := rest_step M j hx
  obtain ⟨t, ht⟩ := numsP_grow M (lo (rest M j) + 1) 64 (by omega)
  rw [ht, h3]
  simp
end Go.Proofs.YtjpdfbljhbgbcaaDoor
