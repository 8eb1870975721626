/- Sets of numbers below 400 as seven words; plain words, nothing of the program is spoken of (layer 4). -/
import Derived.Test.YtigbbepgfofcoaaDoorMaskA
namespace Go.Proofs.YtigbbepgfofcoaaDoor
open Go.RowKit
set_option linter.unusedVariables false

/-- the j-th word of a set -/
def wv (P : Nat → Bool) (j : Nat) : Nat := mk fun i => P (64 * j + i)
theorem wv_lt (P : Nat → Bool) (j : Nat) : wv P j < 18446744073709551616 := mk_lt _
theorem wv_test (P : Nat → Bool) (j i : Nat) : (wv P j).testBit i = (decide (i < 64) && P (64 * j + i)) := mk_test _ i
theorem wv_congr {P Q : Nat → Bool} {j : Nat} (h : ∀ i, i < 64 → P (64 * j + i) = Q (64 * j + i)) : wv P j = wv Q j := mk_congr h
theorem wv_inj {P Q : Nat → Bool} {j : Nat} (h : wv P j = wv Q j) (i : Nat) (hi : i < 64) : P (64 * j + i) = Q (64 * j + i) := by
  have e := congrArg (fun m => m.testBit i) h
  simp only [wv_test, decide_eq_true hi, Bool.true_and] at e
  exact e
/-- seven cells -/
def c7 (f : Nat → Nat) : Array Value := #[.int .u64 (f 0 : Nat), .int .u64 (f 1 : Nat), .int .u64 (f 2 : Nat), .int .u64 (f 3 : Nat), .int .u64 (f 4 : Nat), .int .u64 (f 5 : Nat), .int .u64 (f 6 : Nat)]
theorem c7_size (f : Nat → Nat) : (c7 f).size = 7 := rfl
theorem c7_get (f : Nat → Nat) (k : Nat) (h : k < 7) : (c7 f)[k]? = some (.int .u64 (f k : Nat)) := by
  match k, h with
  | 0, _ => rfl
  | 1, _ => rfl
  | 2, _ => rfl
  | 3, _ => rfl
  | 4, _ => rfl
  | 5, _ => rfl
  | 6, _ => rfl
theorem c7_set (f g : Nat → Nat) (k : Nat) (h : k < 7) (x : Nat) (hk : g k = x) (ho : ∀ j, j < 7 → j ≠ k → g j = f j) : (c7 f).setIfInBounds k (.int .u64 (x : Nat)) = c7 g := by
  have q0 := ho 0 (by omega)
  have q1 := ho 1 (by omega)
  have q2 := ho 2 (by omega)
  have q3 := ho 3 (by omega)
  have q4 := ho 4 (by omega)
  have q5 := ho 5 (by omega)
  have q6 := ho 6 (by omega)
  subst hk
  unfold c7
  match k, h with
  | 0, _ => simp [q1, q2, q3, q4, q5, q6]
  | 1, _ => simp [q0, q2, q3, q4, q5, q6]
  | 2, _ => simp [q0, q1, q3, q4, q5, q6]
  | 3, _ => simp [q0, q1, q2, q4, q5, q6]
  | 4, _ => simp [q0, q1, q2, q3, q5, q6]
  | 5, _ => simp [q0, q1, q2, q3, q4, q6]
  | 6, _ => simp [q0, q1, q2, q3, q4, q5]
theorem c7_congr {f g : Nat → Nat} (h : ∀ j, j < 7 → f j = g j) : c7 f = c7 g := by
  unfold c7
  rw [h 0 (by omega), h 1 (by omega), h 2 (by omega), h 3 (by omega), h 4 (by omega), h 5 (by omega), h 6 (by omega)]
/-- the set, as a value -/
def S7 (P : Nat → Bool) : Value := .agg (c7 (wv P))
theorem S7_congr {P Q : Nat → Bool} (h : ∀ i, i < 448 → P i = Q i) : S7 P = S7 Q := by
  unfold S7
  rw [c7_congr fun j hj => wv_congr fun i hi => h _ (by omega)]
/-- are two sets the same? -/
def same7 (P Q : Nat → Bool) : Bool := decide (wv P 0 = wv Q 0 ∧ wv P 1 = wv Q 1 ∧ wv P 2 = wv Q 2 ∧ wv P 3 = wv Q 3 ∧ wv P 4 = wv Q 4 ∧ wv P 5 = wv Q 5 ∧ wv P 6 = wv Q 6)
theorem same7_iff (P Q : Nat → Bool) : same7 P Q = true ↔ ∀ i, i < 448 → P i = Q i := by
  unfold same7
  rw [decide_eq_true_eq]
  constructor
  · rintro ⟨h0, h1, h2, h3, h4, h5, h6⟩ i hi
    have hj : i / 64 < 7 := by omega
    have e := wv_inj (P := P) (Q := Q) (j := i / 64) (by
      match i / 64, hj with
      | 0, _ => exact h0
      | 1, _ => exact h1
      | 2, _ => exact h2
      | 3, _ => exact h3
      | 4, _ => exact h4
      | 5, _ => exact h5
      | 6, _ => exact h6) (i % 64) (by omega)
    rwa [show 64 * (i / 64) + i % 64 = i by omega] at e
  · intro h
    exact ⟨wv_congr fun i hi => h _ (by omega), wv_congr fun i hi => h _ (by omega), wv_congr fun i hi => h _ (by omega), wv_congr fun i hi => h _ (by omega), wv_congr fun i hi => h _ (by omega), wv_congr fun i hi => h _ (by omega), wv_congr fun i hi => h _ (by omega)⟩
theorem same7_congr {P Q R S : Nat → Bool} (h : ∀ i, i < 448 → P i = R i) (h' : ∀ i, i < 448 → Q i = S i) : same7 P Q = same7 R S := by
  rw [Bool.eq_iff_iff, same7_iff, same7_iff]
  exact ⟨fun q i hi => by rw [← h i hi, ← h' i hi]; exact q i hi, fun q i hi => by rw [h i hi, h' i hi]; exact q i hi⟩
theorem same7_refl (P : Nat → Bool) : same7 P P = true := (same7_iff P P).2 fun _ _ => rfl
/-- what a set has of numbers that count -/
def clip (P : Nat → Bool) (i : Nat) : Bool := P i && decide (i < 400)
/-- the numbers of a list that count -/
def inW (l : List Int) (i : Nat) : Bool := inL l i && decide (i < 400)
def fullW (i : Nat) : Bool := decide (i < 400)
theorem inW_nil (i : Nat) : inW [] i = false := by unfold inW inL; simp
theorem inW_snoc (l : List Int) (n i : Nat) (hn : n < 400) : inW (l ++ [(n : Int)]) i = (inW l i || decide (i = n)) := by
  unfold inW
  rw [inL_snoc]
  by_cases e : i = n
  · subst e; simp [hn]
  · have : decide ((i : Int) = (n : Int)) = false := dec_n (by omega)
    rw [this]; simp [e]
theorem inW_skip (l : List Int) (x : Int) (i : Nat) (hx : x < 0 ∨ 400 ≤ x) : inW (l ++ [x]) i = inW l i := by
  unfold inW
  rw [inL_snoc]
  by_cases hi : i < 400
  · have : decide ((i : Int) = x) = false := dec_n (by omega)
    rw [this]; simp
  · simp [hi]
/-- one number more -/
theorem wv_put (P Q : Nat → Bool) (n : Nat) (hQ : ∀ i, Q i = (P i || decide (i = n))) : (∀ j, j ≠ n / 64 → wv Q j = wv P j) ∧ wv Q (n / 64) = mk (fun i => P (64 * (n / 64) + i) || decide (i = n % 64)) := by
  constructor
  · intro j hj
    exact wv_congr fun i hi => by rw [hQ, dec_n (show ¬ 64 * j + i = n by omega)]; simp
  · exact mk_congr fun i hi => by
      rw [hQ]
      congr 1
      rw [Bool.eq_iff_iff, decide_eq_true_eq, decide_eq_true_eq]
      omega
/-- the set of given words -/
def ofZ (zs : List Int) (i : Nat) : Bool := (zs[i / 64]?.getD 0).toNat.testBit (i % 64)
theorem ofZ_wv (zs : List Int) (j m : Nat) (h : zs[j]?.getD 0 = (m : Int)) (hm : m < 18446744073709551616) : wv (ofZ zs) j = m := by
  rw [← mk_self m hm]
  exact mk_congr fun i hi => by
    unfold ofZ
    rw [show (64 * j + i) / 64 = j by omega, show (64 * j + i) % 64 = i by omega, h]
    rfl
end Go.Proofs.YtigbbepgfofcoaaDoor
