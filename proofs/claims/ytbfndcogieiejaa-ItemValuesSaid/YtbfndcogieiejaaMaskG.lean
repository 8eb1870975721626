/- The numbers that are in all masks, one by one: plain words; the law's own closure (layer 2). -/
import Derived.Test.YtbfndcogieiejaaMaskF
import Derived.Test.YtbfndcogieiejaaMask5
namespace Go.Proofs.Ytbfndcogieiejaa
open Go.RowKit
set_option linter.unusedVariables false

theorem and_pred (k m i : Nat) : (2 ^ k * (2 * m + 1)).testBit i = (decide (k ≤ i) && (2 * m + 1).testBit (i - k)) ∧ (2 ^ k * (2 * m + 1) - 1).testBit i = if i < k then true else (2 * m).testBit (i - k) := by
  have h1 : 0 < 2 ^ k := Nat.pow_pos (by decide)
  constructor
  · rw [Nat.mul_comm, Nat.testBit_mul_two_pow]
  · rw [show 2 ^ k * (2 * m + 1) - 1 = 2 ^ k * (2 * m) + (2 ^ k - 1) by rw [Nat.mul_add, Nat.mul_one]; omega, Nat.testBit_two_pow_mul_add _ (by omega)]
    split
    · rw [Nat.testBit_two_pow_sub_one]; simp; assumption
    · rfl
theorem clr_bit (x i : Nat) (hx : x < 18446744073709551616) (hx0 : x ≠ 0) : (x &&& (x - 1)).testBit i = (x.testBit i && decide (lo x < i)) := by
  obtain ⟨m, hm, hk⟩ := Lib.ctzFrom_spec 64 x (by omega) hx
  have e : lo x = Lib.ctzFrom 64 x := by unfold lo Lib.ctz; rw [if_neg hx0]
  rw [e]
  generalize Lib.ctzFrom 64 x = k at hm hk
  subst hm
  obtain ⟨e1, e2⟩ := and_pred k m i
  rw [Nat.testBit_and, e1, e2]
  rcases Nat.lt_trichotomy i k with h | h | h
  · rw [dec_n (show ¬ k ≤ i by omega)]; simp
  · subst h
    rw [if_neg (by omega), Nat.sub_self]
    simp
  · rw [if_neg (by omega), dec_t (show k ≤ i by omega), dec_t h]
    obtain ⟨t, rfl⟩ : ∃ t, i = k + 1 + t := ⟨i - (k + 1), by omega⟩
    rw [show k + 1 + t - k = t + 1 by omega, Nat.testBit_succ, Nat.testBit_succ, show (2 * m + 1) / 2 = m by omega, show 2 * m / 2 = m by omega]
    simp
/-- the numbers from a place on -/
def rest (M : Nat → Bool) (j : Nat) : Nat := mk fun i => M i && decide (j ≤ i)
theorem rest_lt (M : Nat → Bool) (j : Nat) : rest M j < 18446744073709551616 := mk_lt _
theorem rest_bit (M : Nat → Bool) (j i : Nat) : (rest M j).testBit i = (decide (i < 64) && (M i && decide (j ≤ i))) := mk_test _ i
theorem rest_all (M : Nat → Bool) : rest M 0 = mk M := mk_congr fun i _ => by simp
theorem numsP_skip (p : Nat → Bool) (j : Nat) : ∀ a, j ≤ a → (∀ i, j ≤ i → i < a → p i = false) → numsP p a = numsP p j
  | 0, h, _ => by obtain rfl : j = 0 := by omega
                  rfl
  | a + 1, h, hp => by
    by_cases e : j = a + 1
    · subst e; rfl
    · rw [numsP_no p a (hp a (by omega) (by omega)), numsP_skip p j a (by omega) fun i h1 h2 => hp i h1 (by omega)]
theorem rest_end (M : Nat → Bool) (j : Nat) (hj : j ≤ 64) (h : rest M j = 0) : numsP M 64 = numsP M j := by
  refine numsP_skip M j 64 hj fun i h1 h2 => ?_
  have e := rest_bit M j i
  rw [h, Nat.zero_testBit, dec_t h1, dec_t h2] at e
  simpa using e.symm
theorem rest_step (M : Nat → Bool) (j : Nat) (h : rest M j ≠ 0) : j ≤ lo (rest M j) ∧ lo (rest M j) < 64 ∧ numsP M (lo (rest M j) + 1) = numsP M j ++ [((lo (rest M j) : Nat) : Int)] ∧
    rest M j &&& (rest M j - 1) = rest M (lo (rest M j) + 1) := by
  obtain ⟨h1, h2, h3⟩ := lo_spec (rest M j) (rest_lt M j) h
  have hc := fun i => clr_bit (rest M j) i (rest_lt M j) h
  have hand : rest M j &&& (rest M j - 1) < 18446744073709551616 := Nat.lt_of_le_of_lt Nat.and_le_left (rest_lt M j)
  generalize lo (rest M j) = a at h1 h2 h3 hc
  have e := rest_bit M j a
  rw [h2, dec_t h1] at e
  have hM : M a = true := by
    cases hh : M a
    · rw [hh] at e; simp at e
    · rfl
  have hja : j ≤ a := by
    rw [hM] at e
    simpa using e.symm
  refine ⟨hja, h1, ?_, ?_⟩
  · rw [numsP_yes M a hM, numsP_skip M j a hja]
    intro i hi1 hi2
    have e2 := rest_bit M j i
    rw [h3 i hi2, dec_t (show i < 64 by omega), dec_t hi1] at e2
    simpa using e2.symm
  · refine mk_eq _ hand fun i hi => ?_
    rw [hc i, rest_bit, dec_t hi]
    by_cases hai : a < i
    · rw [dec_t hai, dec_t (show j ≤ i by omega), dec_t (show a + 1 ≤ i by omega)]; simp
    · rw [dec_n hai, dec_n (show ¬ a + 1 ≤ i by omega)]; simp
theorem clr_key (x : Nat) (hx : x < 18446744073709551616) (hx0 : x ≠ 0) : bits BinOp.and IntKind.u64 (x : Int) (IntKind.u64.wrap ((x : Int) - 1)) = ((x &&& (x - 1) : Nat) : Int) := by
  have e1 : IntKind.u64.wrap ((x : Int) - 1) = ((x - 1 : Nat) : Int) := by rw [IntKind.wrap_u64]; omega
  rw [e1, u64_and_nat x _ hx (by omega)]
/-- as many of the first numbers as are wanted; 0 wants all -/
def capN (M : Nat → Bool) (mo n : Nat) : List Int := if mo = 0 then numsP M n else (numsP M n).take mo
theorem capN_no (M : Nat → Bool) (mo n : Nat) (h : M n = false) : capN M mo (n + 1) = capN M mo n := by unfold capN; rw [numsP_no M n h]
theorem capN_full (M : Nat → Bool) (mo n : Nat) (h0 : mo ≠ 0) (h : mo ≤ (capN M mo n).length) : capN M mo (n + 1) = capN M mo n := by
  cases hM : M n
  · exact capN_no M mo n hM
  · unfold capN at h ⊢
    rw [if_neg h0] at h ⊢
    rw [if_neg h0, numsP_yes M n hM, List.take_append_of_le_length]
    rw [List.length_take] at h
    omega
theorem capN_free (M : Nat → Bool) (mo n : Nat) (h : mo = 0 ∨ (capN M mo n).length < mo) : capN M mo n = numsP M n := by
  unfold capN at h ⊢
  split
  · rfl
  · rename_i h0
    rw [if_neg h0, List.length_take] at h
    exact List.take_of_length_le (by omega)
theorem capN_more (M : Nat → Bool) (mo n : Nat) (hM : M n = true) (h : mo = 0 ∨ (capN M mo n).length < mo) : capN M mo (n + 1) = capN M mo n ++ [(n : Int)] := by
  have e := capN_free M mo n h
  rw [e] at h ⊢
  rw [← numsP_yes M n hM]
  unfold capN
  split
  · rfl
  · rename_i h0
    refine List.take_of_length_le ?_
    rw [numsP_yes M n hM, List.length_append]
    simp; omega
theorem capN_stop (M : Nat → Bool) (mo : Nat) : ∀ n a, a ≤ n → (numsP M a).length = mo → mo ≠ 0 → capN M mo n = numsP M a
  | 0, a, h, hl, h0 => by
    obtain rfl : a = 0 := by omega
    unfold capN
    rw [if_neg h0]
    exact List.take_of_length_le (by omega)
  | n + 1, a, h, hl, h0 => by
    by_cases e : a = n + 1
    · subst e
      unfold capN
      rw [if_neg h0]
      exact List.take_of_length_le (by omega)
    · have ih := capN_stop M mo n a (by omega) hl h0
      rw [capN_full M mo n h0 (by rw [ih]; omega), ih]
theorem capN_le (M : Nat → Bool) (mo n : Nat) : (capN M mo n).length ≤ n := by
  have := numsP_le M n
  unfold capN
  split
  · exact this
  · rw [List.length_take]; omega
theorem OwnI.keep {w w' : World} {base : Nat} {v : Value} {zs : List Int} (h : OwnI w base v zs) (hk : ∀ k, base ≤ k → k < w.heap.size → w'.heap[k]? = w.heap[k]?) : OwnI w' base v zs := by
  obtain ⟨h1, h2⟩ := h
  refine ⟨h1, ?_⟩
  rcases h2 with h2 | ⟨g, cap, cur, hv, hg, hh, r⟩
  · exact .inl h2
  · exact .inr ⟨g, cap, cur, hv, hg, by rw [hk g hg (lt_of_block hh)]; exact hh, r⟩
end Go.Proofs.Ytbfndcogieiejaa
