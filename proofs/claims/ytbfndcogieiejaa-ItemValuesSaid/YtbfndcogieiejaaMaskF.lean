/- Contract of mask.Span, the walk of lives of layer 2, and of MaskSpans. -/
import Derived.Test.YtbfndcogieiejaaMaskE
import Derived.Test.YtbfndcogieiejaaOpen
namespace Go.Proofs.Ytbfndcogieiejaa
open Go.RowKit
set_option linter.unusedVariables false

theorem inS_iff (f t s : Int) (i : Nat) : inS f t s i = true ↔ (1 ≤ s ∧ f ≤ i ∧ (i : Int) ≤ t ∧ ((i : Int) - f) % s = 0) := by unfold inS; simp
/-- the numbers of a span below another one -/
def upto (f t s n : Int) (i : Nat) : Bool := inS f t s i && decide ((i : Int) < n)
theorem upto_end {f t s n : Int} (h : 64 ≤ n ∨ t < n) : mk (upto f t s n) = mk (inS f t s) := by
  apply mk_congr
  intro i hi
  unfold upto
  cases hs : inS f t s i
  · rfl
  · have h2 := (inS_iff f t s i).1 hs
    rw [dec_t (show (i : Int) < n by omega)]; rfl
theorem mod_step {n f s i : Int} (hs : 0 < s) (h1 : (n - f) % s = 0) (h2 : (i - f) % s = 0) (h3 : n ≤ i) (h4 : i < n + s) : i = n := by
  have e : (i - n) % s = 0 := by
    have : i - n = (i - f) - (n - f) := by omega
    rw [this]
    exact Int.emod_eq_zero_of_dvd (Int.dvd_sub (Int.dvd_of_emod_eq_zero h2) (Int.dvd_of_emod_eq_zero h1))
  rw [Int.emod_eq_of_lt (by omega) (by omega)] at e
  omega
theorem upto_step {f t s : Int} {j : Nat} (hs : 0 < s) (hf : f ≤ j) (ht : (j : Int) ≤ t) (hm : ((j : Int) - f) % s = 0) : mk (fun i => upto f t s j i || decide (i = j)) = mk (upto f t s (j + s)) := by
  apply mk_congr
  intro i _
  unfold upto
  cases h : inS f t s i
  · have : i ≠ j := by
      intro e
      subst e
      have := (inS_iff f t s i).2 ⟨by omega, hf, ht, hm⟩
      rw [h] at this; cases this
    rw [dec_n this]; rfl
  · have h2 := (inS_iff f t s i).1 h
    by_cases c : (i : Int) < j
    · rw [dec_t c, dec_t (show (i : Int) < j + s by omega)]; rfl
    · rw [dec_n c]
      by_cases c2 : (i : Int) < j + s
      · have := mod_step hs hm h2.2.2.2 (by omega) c2
        rw [dec_t (show i = j by omega), dec_t c2]; rfl
      · rw [dec_n (show ¬ i = j by omega), dec_n c2]; rfl
theorem upto_start (f t s g : Int) (hs : 0 < s) (hg : f ≤ g) (h : (g - f) % s = 0) (h2 : f = g ∨ (0 ≤ g ∧ g < s ∧ f < 0)) : mk (upto f t s g) = 0 := by
  rw [← mk_none]
  apply mk_congr
  intro i _
  unfold upto
  cases hi : inS f t s i
  · rfl
  · have h3 := (inS_iff f t s i).1 hi
    rw [dec_n]; · rfl
    intro hlt
    rcases h2 with h2 | ⟨a, b, c⟩
    · omega
    · have e : (g - i) % s = 0 := by
        have : g - (i : Int) = (g - f) - ((i : Int) - f) := by omega
        rw [this]
        exact Int.emod_eq_zero_of_dvd (Int.dvd_sub (Int.dvd_of_emod_eq_zero h) (Int.dvd_of_emod_eq_zero h3.2.2.2))
      rw [Int.emod_eq_of_lt (by omega) (by omega)] at e
      omega
def SpanRel (f t s : Int) (m i : Value) : Prop := ∃ n : Int, 0 ≤ n ∧ n ≤ 9223372036854775807 ∧ i = .int .i64 n ∧ m = .int .u64 (mk (upto f t s n) : Nat) ∧ Hid ((n - f) % s = 0 ∧ f ≤ n)
theorem mod_back (f s : Int) : (f % s - f) % s = 0 := by
  have e : f % s - f = s * (-(f / s)) := by
    have := Int.emod_add_mul_ediv f s
    rw [Int.mul_neg]; omega
  rw [e, Int.mul_emod_right]
end Go.Proofs.Ytbfndcogieiejaa
