/- How many bits a number has, byte by byte; the library's OnesCount64, mask.Len (layer 2). -/
import Derived.Test.YtbfndcogieiejaaDoorMaskD
namespace Go.Proofs.YtbfndcogieiejaaDoor
open Go.RowKit
set_option linter.unusedVariables false

def s1 (a : Nat) : Nat := (a / 2 &&& 85) + (a &&& 85)
def s2 (a : Nat) : Nat := (a / 4 &&& 51) + (a &&& 51)
def s3 (a : Nat) : Nat := (a / 16 + a) &&& 15
def s12 (a : Nat) : Nat := s2 (s1 a)
def pc (a : Nat) : Nat := s3 (s12 a)
def comb (f : Nat → Nat) : Nat → Nat → Nat
  | 0, _ => 0
  | n + 1, x => f (x % 256) + 256 * comb f n (x / 256)
def rep (m : Nat) : Nat → Nat
  | 0 => 0
  | n + 1 => m + 256 * rep m n
theorem comb_succ (f : Nat → Nat) (n x : Nat) : comb f (n + 1) x = f (x % 256) + 256 * comb f n (x / 256) := rfl
theorem rep_succ (m n : Nat) : rep m (n + 1) = m + 256 * rep m n := rfl
theorem and_split (a c y d : Nat) (ha : a < 256) (hc : c < 256) : (a + 256 * y) &&& (c + 256 * d) = (a &&& c) + 256 * (y &&& d) := by
  have h : (a &&& c) < 2 ^ 8 := Nat.lt_of_le_of_lt Nat.and_le_left ha
  apply Nat.eq_of_testBit_eq
  intro i
  rw [Nat.testBit_and, show a + 256 * y = 2 ^ 8 * y + a by omega, show c + 256 * d = 2 ^ 8 * d + c by omega, show (a &&& c) + 256 * (y &&& d) = 2 ^ 8 * (y &&& d) + (a &&& c) by omega,
    Nat.testBit_two_pow_mul_add _ ha, Nat.testBit_two_pow_mul_add _ hc, Nat.testBit_two_pow_mul_add _ h]
  split
  · rw [Nat.testBit_and]
  · rw [Nat.testBit_and]
set_option maxRecDepth 100000 in
theorem key1 : ∀ a, a < 256 → ∀ r, r < 2 → (a / 2 + 128 * r) &&& 85 = a / 2 &&& 85 := by decide +kernel
set_option maxRecDepth 100000 in
theorem key2 : ∀ a, a < 256 → ∀ r, r < 4 → (a / 4 + 64 * r) &&& 51 = a / 4 &&& 51 := by decide +kernel
set_option maxRecDepth 100000 in
theorem key3 : ∀ a, a < 256 → ∀ r, r < 5 → s12 a / 16 + 16 * r + s12 a < 256 ∧ (s12 a / 16 + 16 * r + s12 a) &&& 15 = pc a := by decide +kernel
set_option maxRecDepth 100000 in
theorem key4 : ∀ a, a < 256 → s1 a ≤ 170 ∧ s12 a ≤ 68 ∧ s12 a % 16 ≤ 4 ∧ pc a ≤ 8 ∧ (numsP (fun i => a.testBit i) 8).length = pc a := by decide +kernel
theorem step1 : ∀ n x, (x / 2 &&& rep 85 n) + (x &&& rep 85 n) = comb s1 n x
  | 0, x => by simp [rep, comb]
  | n + 1, x => by
    have ih := step1 n (x / 256)
    have e1 : x / 2 = (x % 256 / 2 + 128 * (x / 256 % 2)) + 256 * (x / 256 / 2) := by omega
    have e2 : x = x % 256 + 256 * (x / 256) := by omega
    have h := key1 (x % 256) (by omega) (x / 256 % 2) (by omega)
    rw [rep_succ, comb_succ, ← ih, show s1 (x % 256) = (x % 256 / 2 &&& 85) + (x % 256 &&& 85) from rfl]
    clear ih
    generalize hy : x / 256 = y at *
    generalize ha : x % 256 = a at *
    rw [e1, and_split _ _ _ _ (by omega) (by omega), h]
    conv => lhs; rhs; rw [e2]
    rw [and_split _ _ _ _ (by omega) (by omega)]
    omega
theorem step2 : ∀ n x, (x / 4 &&& rep 51 n) + (x &&& rep 51 n) = comb s2 n x
  | 0, x => by simp [rep, comb]
  | n + 1, x => by
    have ih := step2 n (x / 256)
    have e1 : x / 4 = (x % 256 / 4 + 64 * (x / 256 % 4)) + 256 * (x / 256 / 4) := by omega
    have e2 : x = x % 256 + 256 * (x / 256) := by omega
    have h := key2 (x % 256) (by omega) (x / 256 % 4) (by omega)
    rw [rep_succ, comb_succ, ← ih, show s2 (x % 256) = (x % 256 / 4 &&& 51) + (x % 256 &&& 51) from rfl]
    clear ih
    generalize hy : x / 256 = y at *
    generalize ha : x % 256 = a at *
    rw [e1, and_split _ _ _ _ (by omega) (by omega), h]
    conv => lhs; rhs; rw [e2]
    rw [and_split _ _ _ _ (by omega) (by omega)]
    omega
theorem comb_comb (f g : Nat → Nat) (hf : ∀ a, a < 256 → f a < 256) : ∀ n x, comb g n (comb f n x) = comb (fun a => g (f a)) n x
  | 0, x => rfl
  | n + 1, x => by
    have h := hf (x % 256) (by omega)
    have ih := comb_comb f g hf n (x / 256)
    rw [comb_succ, comb_succ f, comb_succ]
    generalize comb f n (x / 256) = t at ih ⊢
    rw [show (f (x % 256) + 256 * t) % 256 = f (x % 256) by omega, show (f (x % 256) + 256 * t) / 256 = t by omega, ih]
theorem comb_le (f : Nat → Nat) (M : Nat) (hf : ∀ a, a < 256 → f a ≤ M) : ∀ n x, comb f n x ≤ M * rep 1 n
  | 0, x => Nat.zero_le _
  | n + 1, x => by
    have h := hf (x % 256) (by omega)
    have ih := comb_le f M hf n (x / 256)
    rw [comb_succ, rep_succ]
    rw [Nat.mul_add, Nat.mul_one, Nat.mul_left_comm]
    omega
theorem comb_low (n x : Nat) : comb s12 n x % 16 ≤ 4 := by
  cases n with
  | zero => simp [comb]
  | succ n =>
    have h := (key4 (x % 256) (by omega)).2.2.1
    unfold comb
    omega
theorem step3 : ∀ n x, (comb s12 n x / 16 + comb s12 n x) &&& rep 15 n = comb pc n x
  | 0, x => by simp [rep, comb]
  | n + 1, x => by
    have ih := step3 n (x / 256)
    have hl := comb_low n (x / 256)
    have hk := key4 (x % 256) (by omega)
    obtain ⟨h1, h2⟩ := key3 (x % 256) (by omega) (comb s12 n (x / 256) % 16) (by omega)
    rw [rep_succ, comb_succ, comb_succ pc, ← ih, ← h2]
    generalize comb s12 n (x / 256) = t at *
    generalize s12 (x % 256) = a at *
    rw [show (a + 256 * t) / 16 + (a + 256 * t) = (a / 16 + 16 * (t % 16) + a) + 256 * (t / 16 + t) by omega, and_split _ _ _ _ (by omega) (by omega)]
theorem numsP_congr {p q : Nat → Bool} (k : Nat) (h : ∀ i, i < k → p i = q i) : numsP p k = numsP q k := by
  unfold numsP
  rw [List.filter_congr fun i hi => h i (List.mem_range.1 hi)]
theorem numsP_add (p : Nat → Bool) (a n : Nat) : (numsP p (a + n)).length = (numsP p a).length + (numsP (fun i => p (a + i)) n).length := by
  induction n with
  | zero => rfl
  | succ n ih =>
    rw [← Nat.add_assoc]
    cases h : p (a + n)
    · rw [numsP_no p (a + n) h, numsP_no (fun i => p (a + i)) n h, ih]
    · rw [numsP_yes p (a + n) h, numsP_yes (fun i => p (a + i)) n h, List.length_append, List.length_append, ih]
      simp; omega
/-- the bytes' counts together -/
def sumB : Nat → Nat → Nat
  | 0, _ => 0
  | n + 1, x => pc (x % 256) + sumB n (x / 256)
theorem count_bytes : ∀ n x, (numsP (fun i => x.testBit i) (8 * n)).length = sumB n x
  | 0, x => rfl
  | n + 1, x => by
    have ih := count_bytes n (x / 256)
    have hk := (key4 (x % 256) (by omega)).2.2.2.2
    rw [show 8 * (n + 1) = 8 + 8 * n by omega, numsP_add]
    unfold sumB
    rw [← ih, ← hk]
    congr 1
    · refine congrArg List.length (numsP_congr 8 fun i hi => ?_)
      rw [show 256 = 2 ^ 8 from rfl, Nat.testBit_mod_two_pow]
      simp [hi]
    · refine congrArg List.length (numsP_congr _ fun i hi => ?_)
      rw [show 256 = 2 ^ 8 from rfl, Nat.testBit_div_two_pow, Nat.add_comm]
theorem div1 (a b x : Nat) (h : a < 256) (e : x = a + 256 * b) : x / 256 = b := by
  rw [e, Nat.add_mul_div_left _ _ (by decide), Nat.div_eq_of_lt h, Nat.zero_add]
theorem div2 (a b x : Nat) (h : a < 65536) (e : x = a + 65536 * b) : x / 65536 = b := by
  rw [e, Nat.add_mul_div_left _ _ (by decide), Nat.div_eq_of_lt h, Nat.zero_add]
theorem div3 (a b x : Nat) (h : a < 4294967296) (e : x = a + 4294967296 * b) : x / 4294967296 = b := by
  rw [e, Nat.add_mul_div_left _ _ (by decide), Nat.div_eq_of_lt h, Nat.zero_add]
theorem fold1 (c0 c1 c2 r1 r2 r3 : Nat) (q1 : r1 = c1 + 256 * r2) (q2 : r2 = c2 + 256 * r3) : c0 + 256 * r1 + r1 = ((c0 + c1) + 256 * (c1 + c2)) + 65536 * (r2 + r3) := by
  subst q2; subst q1; omega
theorem fold2 (c2 c3 c4 r2 r3 r4 r5 : Nat) (q2 : r2 = c2 + 256 * r3) (q3 : r3 = c3 + 256 * r4) (q4 : r4 = c4 + 256 * r5) : r2 + r3 = ((c2 + c3) + 256 * (c3 + c4)) + 65536 * (r4 + r5) := by
  subst q4; subst q3; subst q2; omega
theorem fold3 (p0 p2 p4 u v w t : Nat) (a : u = p2 + 65536 * v) (b : v = p4 + 65536 * w) : p0 + 65536 * u + u = (p0 + p2 + 65536 * (p2 + p4)) + 4294967296 * (v + w) := by
  subst b; subst a; omega
theorem fold4 (c0 c1 c2 c3 c4 c5 c6 c7 k v : Nat) (h : c0 + (c1 + (c2 + (c3 + (c4 + (c5 + (c6 + c7)))))) < 128) (z : k = 2 * (c1 + c2) + 2 * (c3 + c4) + 512 * v) : (((c0 + c1) + 256 * (c1 + c2)) + ((c2 + c3) + 256 * (c3 + c4)) + 65536 * v) % 128 = (c0 + c1 + (c2 + c3)) % 128 := by
  omega
theorem fold5 (c0 c1 c2 c3 c4 c5 c6 c7 w : Nat) (hb : w = c6 + c7 + 256 * c7) (h : c0 + (c1 + (c2 + (c3 + (c4 + (c5 + (c6 + c7)))))) < 128) (A V : Nat) (ha : A % 128 = (c0 + c1 + (c2 + c3)) % 128) (hv : V = ((c4 + c5) + 256 * (c5 + c6)) + 65536 * w) :
    (A + 4294967296 * (V + w) + (V + w)) % 128 = c0 + (c1 + (c2 + (c3 + (c4 + (c5 + (c6 + c7)))))) := by
  subst hb; subst hv; omega
end Go.Proofs.YtbfndcogieiejaaDoor
