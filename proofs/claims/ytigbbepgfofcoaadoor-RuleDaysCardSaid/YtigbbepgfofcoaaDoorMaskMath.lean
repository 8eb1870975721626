/- Masks: numbers of 64 bits, bit by bit; plain words, nothing of the program is spoken of (layer 2). -/
import Derived.Test.YtigbbepgfofcoaaDoorBut
namespace Go.Proofs.YtigbbepgfofcoaaDoor
open Go.RowKit

/-- the bits p from the k-th on, of which n are left -/
def bv (p : Nat → Bool) : Nat → Nat → Nat
  | _, 0 => 0
  | k, n + 1 => (if p k = true then 1 else 0) + 2 * bv p (k + 1) n
theorem bv_lt (p : Nat → Bool) : ∀ n k, bv p k n < 2 ^ n
  | 0, _ => by simp [bv]
  | n + 1, k => by
    have := bv_lt p n (k + 1)
    unfold bv
    rw [Nat.pow_succ]
    split <;> omega
theorem bv_test (p : Nat → Bool) : ∀ n k i, (bv p k n).testBit i = (decide (i < n) && p (k + i))
  | 0, _, i => by simp [bv]
  | n + 1, k, 0 => by
    unfold bv
    rw [Nat.testBit_zero]
    cases p k <;> simp <;> omega
  | n + 1, k, i + 1 => by
    unfold bv
    rw [Nat.testBit_succ]
    have e : ((if p k = true then 1 else 0) + 2 * bv p (k + 1) n) / 2 = bv p (k + 1) n := by split <;> omega
    rw [e, bv_test p n (k + 1) i]
    rw [show k + 1 + i = k + (i + 1) by omega]
    simp
/-- the mask of the numbers below 64 of which p tells -/
def mk (p : Nat → Bool) : Nat := bv p 0 64
theorem mk_lt (p : Nat → Bool) : mk p < 18446744073709551616 := bv_lt p 64 0
theorem mk_test (p : Nat → Bool) (i : Nat) : (mk p).testBit i = (decide (i < 64) && p i) := by
  unfold mk; rw [bv_test, Nat.zero_add]
theorem test_far {m : Nat} (h : m < 18446744073709551616) (i : Nat) (hi : 64 ≤ i) : m.testBit i = false := by
  apply Nat.testBit_lt_two_pow
  exact Nat.lt_of_lt_of_le (show m < 2 ^ 64 from h) (Nat.pow_le_pow_right (by decide) hi)
theorem mk_eq {m : Nat} (p : Nat → Bool) (h : m < 18446744073709551616) (hb : ∀ i, i < 64 → m.testBit i = p i) : m = mk p := by
  apply Nat.eq_of_testBit_eq
  intro i
  rw [mk_test]
  by_cases hi : i < 64
  · rw [hb i hi]; simp [hi]
  · rw [test_far h i (by omega)]; simp [hi]
theorem mk_congr {p q : Nat → Bool} (h : ∀ i, i < 64 → p i = q i) : mk p = mk q := by
  apply mk_eq q (mk_lt p)
  intro i hi
  rw [mk_test, h i hi]; simp [hi]
theorem mk_none : mk (fun _ => false) = 0 := by decide
theorem mk_self (m : Nat) (h : m < 18446744073709551616) : mk (fun i => m.testBit i) = m := (mk_eq _ h fun _ _ => rfl).symm
theorem mk_or (p q : Nat → Bool) : mk p ||| mk q = mk (fun i => p i || q i) := by
  apply Nat.eq_of_testBit_eq
  intro i
  rw [Nat.testBit_or, mk_test, mk_test, mk_test]
  by_cases hi : i < 64 <;> simp [hi]
theorem mk_and (p q : Nat → Bool) : mk p &&& mk q = mk (fun i => p i && q i) := by
  apply Nat.eq_of_testBit_eq
  intro i
  rw [Nat.testBit_and, mk_test, mk_test, mk_test]
  by_cases hi : i < 64 <;> simp [hi]
theorem mk_one (n : Nat) (h : n < 64) : 2 ^ n = mk (fun i => decide (i = n)) := by
  apply mk_eq _ (show 2 ^ n < 2 ^ 64 from Nat.pow_lt_pow_right (by decide) h)
  intro i _
  rw [Nat.testBit_two_pow]
  by_cases e : n = i
  · simp [e]
  · simp [e, Ne.symm e]
theorem mk_put (p : Nat → Bool) (n : Nat) (h : n < 64) : mk p ||| 2 ^ n = mk (fun i => p i || decide (i = n)) := by
  rw [mk_one n h, mk_or]
theorem bv_congr {p q : Nat → Bool} : ∀ n k, (∀ i, k ≤ i → i < k + n → p i = q i) → bv p k n = bv q k n
  | 0, _, _ => rfl
  | n + 1, k, h => by
    unfold bv
    rw [h k (Nat.le_refl _) (by omega), bv_congr n (k + 1) fun i h1 h2 => h i (by omega) (by omega)]
theorem mk_bv (p : Nat → Bool) : mk p = bv p 0 64 := rfl
attribute [irreducible] mk
/-- is a number in a list? -/
def inL (l : List Int) (i : Nat) : Bool := decide ((i : Int) ∈ l)
/-- is a number of a span, steps apart? -/
def inS (f t s : Int) (i : Nat) : Bool := decide (1 ≤ s ∧ f ≤ i ∧ (i : Int) ≤ t ∧ ((i : Int) - f) % s = 0)
/-- is a number in a mask? -/
def inM (m : Nat) (n : Int) : Bool := decide (0 ≤ n ∧ n < 64) && m.testBit n.toNat
theorem inL_snoc (l : List Int) (x : Int) (i : Nat) : inL (l ++ [x]) i = (inL l i || decide ((i : Int) = x)) := by
  unfold inL
  simp
theorem mk_nil : mk (inL []) = 0 := by
  rw [← mk_none]
  exact mk_congr fun i _ => by unfold inL; simp
end Go.Proofs.YtigbbepgfofcoaaDoor
