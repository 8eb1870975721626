/- Seconds of the day that are of masks: the next one, the last one, how many; nothing of the program is spoken of. -/
import Derived.Test.YtjpdfbljhbgbcaaDoorMaskQ
import Derived.Test.YtjpdfbljhbgbcaaDoorTod
import Derived.Lib.BitFns
namespace Go.Proofs.YtjpdfbljhbgbcaaDoor
set_option linter.unusedVariables false

/-- a second, by its parts -/
def pT (a b c : Nat → Bool) (t : Nat) : Bool := a (t / 3600) && (b (t / 60 % 60) && c (t % 60))
/-- the next one from s on is t -/
def IsNext (p : Nat → Bool) (s t : Nat) : Prop := s ≤ t ∧ t < 86400 ∧ p t = true ∧ ∀ u, s ≤ u → u < t → p u = false
def NoNext (p : Nat → Bool) (s : Nat) : Prop := ∀ u, s ≤ u → u < 86400 → p u = false
theorem pT_at {a b c : Nat → Bool} {h m x : Nat} (hm : m < 60) (hx : x < 60) : pT a b c (3600 * h + 60 * m + x) = (a h && (b m && c x)) := by
  unfold pT
  rw [show (3600 * h + 60 * m + x) / 3600 = h by omega, show (3600 * h + 60 * m + x) / 60 % 60 = m by omega, show (3600 * h + 60 * m + x) % 60 = x by omega]
theorem pT_no_a {a b c : Nat → Bool} {t : Nat} (h : a (t / 3600) = false) : pT a b c t = false := by unfold pT; rw [h]; rfl
theorem pT_no_b {a b c : Nat → Bool} {t : Nat} (h : b (t / 60 % 60) = false) : pT a b c t = false := by unfold pT; rw [h]; cases a (t / 3600) <;> rfl
theorem pT_no_c {a b c : Nat → Bool} {t : Nat} (h : c (t % 60) = false) : pT a b c t = false := by unfold pT; rw [h]; cases a (t / 3600) <;> cases b (t / 60 % 60) <;> rfl
theorem next_c {a b c : Nat → Bool} {s x : Nat} (hs : s < 86400) (ha : a (s / 3600) = true) (hb : b (s / 60 % 60) = true) (hx : x < 60) (hc : c x = true) (hsx : s % 60 ≤ x) (hn : ∀ i, s % 60 ≤ i → i < x → c i = false) :
    IsNext (pT a b c) s (3600 * (s / 3600) + 60 * (s / 60 % 60) + x) := by
  refine ⟨by omega, by omega, ?_, fun u h1 h2 => ?_⟩
  · rw [pT_at (by omega) hx, ha, hb, hc]; rfl
  · exact pT_no_c (hn _ (by omega) (by omega))
theorem next_b {a b c : Nat → Bool} {s y z : Nat} (hs : s < 86400) (ha : a (s / 3600) = true) (hy : y < 60) (hb : b y = true) (hz : z < 60) (hc : c z = true) (hsy : s / 60 % 60 < y) (hnb : ∀ i, s / 60 % 60 < i → i < y → b i = false)
    (hnc : ∀ i, i < z → c i = false) (hr : b (s / 60 % 60) = true → ∀ i, s % 60 ≤ i → i < 60 → c i = false) :
    IsNext (pT a b c) s (3600 * (s / 3600) + 60 * y + z) := by
  refine ⟨by omega, by omega, ?_, fun u h1 h2 => ?_⟩
  · rw [pT_at hy hz, ha, hb, hc]; rfl
  · rcases Nat.lt_trichotomy (u / 60 % 60) y with h | h | h
    · by_cases e : u / 60 % 60 = s / 60 % 60
      · cases hbm : b (s / 60 % 60)
        · exact pT_no_b (by rw [e]; exact hbm)
        · exact pT_no_c (hr hbm _ (by omega) (by omega))
      · exact pT_no_b (hnb _ (by omega) h)
    · exact pT_no_c (hnc _ (by omega))
    · omega
theorem next_a {a b c : Nat → Bool} {s k y z : Nat} (hk : k < 24) (ha : a k = true) (hy : y < 60) (hb : b y = true) (hz : z < 60) (hc : c z = true) (hsk : s / 3600 < k) (hna : ∀ i, s / 3600 < i → i < k → a i = false)
    (hnb : ∀ i, i < y → b i = false) (hnc : ∀ i, i < z → c i = false) (hr : ∀ u, s ≤ u → u / 3600 = s / 3600 → pT a b c u = false) :
    IsNext (pT a b c) s (3600 * k + 60 * y + z) := by
  refine ⟨by omega, by omega, ?_, fun u h1 h2 => ?_⟩
  · rw [pT_at hy hz, ha, hb, hc]; rfl
  · rcases Nat.lt_trichotomy (u / 3600) k with h | h | h
    · by_cases e : u / 3600 = s / 3600
      · exact hr u h1 e
      · exact pT_no_a (hna _ (by omega) h)
    · rcases Nat.lt_trichotomy (u / 60 % 60) y with g | g | g
      · exact pT_no_b (hnb _ g)
      · exact pT_no_c (hnc _ (by omega))
      · omega
    · omega
theorem next_none {a b c : Nat → Bool} {s : Nat} (hna : ∀ i, s / 3600 < i → i < 24 → a i = false) (hr : ∀ u, s ≤ u → u / 3600 = s / 3600 → pT a b c u = false) : NoNext (pT a b c) s := by
  intro u h1 h2
  by_cases e : u / 3600 = s / 3600
  · exact hr u h1 e
  · exact pT_no_a (hna _ (by omega) (by omega))
theorem hour_a {a b c : Nat → Bool} {s : Nat} (h : a (s / 3600) = false) : ∀ u, s ≤ u → u / 3600 = s / 3600 → pT a b c u = false := fun u _ e => pT_no_a (by rw [e]; exact h)
theorem hour_b {a b c : Nat → Bool} {s : Nat} (hnb : ∀ i, s / 60 % 60 < i → i < 60 → b i = false) (hr : b (s / 60 % 60) = true → ∀ i, s % 60 ≤ i → i < 60 → c i = false) : ∀ u, s ≤ u → u / 3600 = s / 3600 → pT a b c u = false := by
  intro u h1 e
  by_cases g : u / 60 % 60 = s / 60 % 60
  · cases hbm : b (s / 60 % 60)
    · exact pT_no_b (by rw [g]; exact hbm)
    · exact pT_no_c (hr hbm _ (by omega) (by omega))
  · exact pT_no_b (hnb _ (by omega) (by omega))
theorem IsNext.unique {p : Nat → Bool} {s t t' : Nat} (h : IsNext p s t) (h' : IsNext p s t') : t = t' := by
  rcases Nat.lt_trichotomy t t' with g | g | g
  · have := h'.2.2.2 t h.1 g; rw [h.2.2.1] at this; cases this
  · exact g
  · have := h.2.2.2 t' h'.1 g; rw [h'.2.2.1] at this; cases this
theorem IsNext.some {p : Nat → Bool} {s t : Nat} (h : IsNext p s t) : ¬ NoNext p s := fun n => by have := n t h.1 h.2.1; rw [h.2.2.1] at this; cases this
/-- what lies above a number, of a mask -/
theorem above_bit (m : Nat) (n : Int) (i : Nat) : (above m n).testBit i = (decide (i < 64) && (m.testBit i && decide (n < i))) := mk_test _ i
theorem above_yes {m : Nat} {n : Int} (h : above m n ≠ 0) : lo (above m n) < 64 ∧ n < (lo (above m n) : Int) ∧ m.testBit (lo (above m n)) = true ∧ ∀ i : Nat, n < (i : Int) → i < lo (above m n) → m.testBit i = false := by
  obtain ⟨h1, h2, h3⟩ := lo_spec (above m n) (above_lt m n) h
  rw [above_bit, dec_t h1, Bool.true_and, Bool.and_eq_true, decide_eq_true_eq] at h2
  refine ⟨h1, h2.2, h2.1, fun i hi hl => ?_⟩
  have h4 := h3 i hl
  rw [above_bit, dec_t (by omega), dec_t hi, Bool.true_and, Bool.and_true] at h4
  exact h4
theorem above_no {m : Nat} {n : Int} (h : above m n = 0) : ∀ i : Nat, i < 64 → n < (i : Int) → m.testBit i = false := fun i hi hn => by
  have h4 : (above m n).testBit i = false := by rw [h, Nat.zero_testBit]
  rw [above_bit, dec_t hi, dec_t hn, Bool.true_and, Bool.and_true] at h4
  exact h4
/-- a mask of numbers below k -/
theorem mod_bit (m k i : Nat) : (m % 2 ^ k).testBit i = (decide (i < k) && m.testBit i) := Nat.testBit_mod_two_pow m k i
theorem mod_far {m k i : Nat} (h : (m % 2 ^ k).testBit i = true) : i < k := by
  rw [mod_bit, Bool.and_eq_true, decide_eq_true_eq] at h
  exact h.1
/-- how many -/
theorem numsP_mul (p : Nat → Bool) (q : Nat → Bool) (n c : Nat) (h1 : ∀ k, q k = true → (numsP (fun i => p (n * k + i)) n).length = c) (h0 : ∀ k, q k = false → (numsP (fun i => p (n * k + i)) n).length = 0) : ∀ k, (numsP p (n * k)).length = (numsP q k).length * c
  | 0 => by simp [numsP]
  | k + 1 => by
    rw [Nat.mul_succ, numsP_add, numsP_mul p q n c h1 h0 k]
    cases hq : q k
    · rw [numsP_no q k hq, h0 k hq]; rfl
    · rw [numsP_yes q k hq, h1 k hq, List.length_append, Nat.add_mul]; simp
theorem numsP_none (p : Nat → Bool) (n : Nat) (h : ∀ i, i < n → p i = false) : (numsP p n).length = 0 := by
  rw [numsP_congr n (q := fun _ => false) h]
  unfold numsP
  simp
theorem numsP_far (p : Nat → Bool) (n : Nat) (h : ∀ i, n ≤ i → p i = false) : ∀ k, (numsP p (n + k)).length = (numsP p n).length
  | 0 => rfl
  | k + 1 => by rw [← Nat.add_assoc, numsP_no p (n + k) (h _ (by omega)), numsP_far p n h k]
theorem count_T (a b c : Nat → Bool) : (numsP (pT a b c) 86400).length = (numsP a 24).length * (numsP b 60).length * (numsP c 60).length := by
  have hb : ∀ k, (numsP (fun t => b (t / 60) && c (t % 60)) (60 * k)).length = (numsP b k).length * (numsP c 60).length := by
    refine numsP_mul _ b 60 _ (fun k hk => ?_) (fun k hk => ?_)
    · refine congrArg List.length (numsP_congr 60 fun i hi => ?_)
      show (b ((60 * k + i) / 60) && c ((60 * k + i) % 60)) = c i
      rw [show (60 * k + i) / 60 = k by omega, show (60 * k + i) % 60 = i by omega, hk]; rfl
    · refine numsP_none _ 60 fun i hi => ?_
      show (b ((60 * k + i) / 60) && c ((60 * k + i) % 60)) = false
      rw [show (60 * k + i) / 60 = k by omega, hk]; rfl
  have ha := numsP_mul (pT a b c) a 3600 ((numsP b 60).length * (numsP c 60).length) (fun k hk => by
      rw [← hb 60]
      refine congrArg List.length (numsP_congr 3600 fun i hi => ?_)
      show pT a b c (3600 * k + i) = (b (i / 60) && c (i % 60))
      unfold pT
      rw [show (3600 * k + i) / 3600 = k by omega, show (3600 * k + i) / 60 % 60 = i / 60 by omega, show (3600 * k + i) % 60 = i % 60 by omega, hk]; rfl)
    (fun k hk => numsP_none _ 3600 fun i hi => pT_no_a (by rw [show (3600 * k + i) / 3600 = k by omega]; exact hk)) 24
  rw [show 3600 * 24 = 86400 from rfl] at ha
  rw [ha, Nat.mul_assoc]
/-- the greatest bit -/
theorem top_bit (x : Nat) (hx : x < 2 ^ 64) (h0 : x ≠ 0) : ∃ k, Lib.bitLen x = k + 1 ∧ x.testBit k = true ∧ ∀ i, k < i → x.testBit i = false := by
  have hl : x < 2 ^ (x.log2 + 1) := Nat.lt_log2_self
  have hg : 2 ^ x.log2 ≤ x := Nat.log2_self_le h0
  refine ⟨x.log2, ?_, ?_, fun i hi => ?_⟩
  · rw [Lib.bitLen_shift x.log2 x hg (by simpa using hx)]
    have h1 : x / 2 ^ x.log2 = 1 := by
      have a1 : 1 ≤ x / 2 ^ x.log2 := (Nat.le_div_iff_mul_le (Nat.pow_pos (by decide))).2 (by omega)
      have a2 : x / 2 ^ x.log2 < 2 := Nat.div_lt_of_lt_mul (by rw [Nat.pow_succ] at hl; omega)
      omega
    rw [h1]
    rfl
  · rw [Nat.testBit_log2 h0]
  · exact Nat.testBit_lt_two_pow (Nat.lt_of_lt_of_le hl (Nat.pow_le_pow_right (by decide) (by omega)))
theorem last_T {a b c : Nat → Bool} {x y z : Nat} (hx : x < 24) (hy : y < 60) (hz : z < 60) (ha : a x = true) (hb : b y = true) (hc : c z = true) (na : ∀ i, x < i → a i = false) (nb : ∀ i, y < i → b i = false) (nc : ∀ i, z < i → c i = false) :
    pT a b c (3600 * x + 60 * y + z) = true ∧ ∀ u, 3600 * x + 60 * y + z < u → pT a b c u = false := by
  refine ⟨by rw [pT_at hy hz, ha, hb, hc]; rfl, fun u hu => ?_⟩
  by_cases h1 : x < u / 3600
  · exact pT_no_a (na _ h1)
  · by_cases h2 : y < u / 60 % 60
    · exact pT_no_b (nb _ h2)
    · exact pT_no_c (nc _ (by omega))
end Go.Proofs.YtjpdfbljhbgbcaaDoor
