/- Contracts of bits.TrailingZeros64 over its table, of mask.Least and mask.Next (layer 2). -/
import Derived.Test.YtbfndcogieiejaaDoorMaskB
import Derived.Lib.TrailingZeros
import Derived.Laws.Bits64b
namespace Go.Proofs.YtbfndcogieiejaaDoor
open Go.RowKit
set_option linter.unusedVariables false

theorem tz_key (x a : Nat) (hx : x < 18446744073709551616) (hx0 : x ≠ 0) (hlow : x &&& (18446744073709551616 - x) = a) :
    IntKind.u64.wrap (bits BinOp.and IntKind.u64 (x : Int) (IntKind.u64.wrap (-(x : Int))) * 285870213051353865) / 288230376151711744 = ((a * 285870213051353865 % 18446744073709551616 / 288230376151711744 : Nat) : Int) := by
  have e1 : IntKind.u64.wrap (-(x : Int)) = ((18446744073709551616 - x : Nat) : Int) := by rw [IntKind.wrap_u64]; omega
  rw [e1, u64_and_nat x _ hx (by omega), hlow, IntKind.wrap_u64]
  omega
/-- the least number of a mask -/
def lo (x : Nat) : Nat := Lib.ctz 64 x
theorem lo_spec (x : Nat) (hx : x < 18446744073709551616) (hx0 : x ≠ 0) : lo x < 64 ∧ x.testBit (lo x) = true ∧ ∀ i, i < lo x → x.testBit i = false := by
  obtain ⟨m, hm, hk⟩ := Lib.ctzFrom_spec 64 x (by omega) hx
  have e : lo x = Lib.ctzFrom 64 x := by unfold lo Lib.ctz; rw [if_neg hx0]
  rw [e]
  generalize Lib.ctzFrom 64 x = k at hm hk
  refine ⟨hk, ?_, ?_⟩
  · rw [hm, Nat.mul_comm, Nat.testBit_mul_two_pow]
    simp [Nat.testBit_zero]
  · intro i hi
    rw [hm, Nat.mul_comm, Nat.testBit_mul_two_pow]
    rw [dec_n (show ¬ k ≤ i by omega)]; rfl
/-- what a mask tells as its least number -/
def leastV (x : Nat) : Value := if x = 0 then .tuple #[.int .i64 0, .bool false] else .tuple #[.int .i64 (lo x), .bool true]
/-- the numbers of a mask above another one -/
def above (m : Nat) (n : Int) : Nat := mk fun i => m.testBit i && decide (n < i)
theorem above_lt (m : Nat) (n : Int) : above m n < 18446744073709551616 := mk_lt _
theorem above_far (m : Nat) (n : Int) (h : 63 ≤ n) : above m n = 0 := by
  unfold above
  rw [mk_congr (q := fun _ => false) fun i hi => by rw [dec_n (by omega)]; simp]
  exact mk_none
theorem above_all (m : Nat) (n : Int) (hm : m < 18446744073709551616) (h : n < 0) : above m n = m := by
  unfold above
  rw [mk_congr (q := fun i => m.testBit i) fun i hi => by rw [dec_t (by omega)]; simp]
  exact mk_self m hm
theorem low_ones (n i : Nat) : (2 * 2 ^ n - 1).testBit i = decide (i ≤ n) := by
  rw [show 2 * 2 ^ n = 2 ^ (n + 1) by rw [Nat.pow_succ]; omega, Nat.testBit_two_pow_sub_one]
  by_cases h : i ≤ n
  · rw [dec_t h, dec_t (by omega)]
  · rw [dec_n h, dec_n (by omega)]
theorem clear_low (m n : Nat) (hm : m < 18446744073709551616) (hn : n < 63) :
    bits BinOp.andNot IntKind.u64 (m : Int) (IntKind.u64.wrap (IntKind.u64.wrap (2 * 2 ^ n) - 1)) = (above m n : Nat) := by
  have h2 : 2 * 2 ^ n < 18446744073709551616 := by
    have : 2 ^ (n + 1) < 2 ^ 64 := Nat.pow_lt_pow_right (by decide) (by omega)
    rw [Nat.pow_succ] at this
    omega
  have h1 : 0 < 2 ^ n := Nat.pow_pos (by decide)
  have e1 : IntKind.u64.wrap (IntKind.u64.wrap (2 * 2 ^ n) - 1) = ((2 * 2 ^ n - 1 : Nat) : Int) := by
    rw [IntKind.wrap_u64, IntKind.wrap_u64]
    rw [show (2 : Int) ^ n = ((2 ^ n : Nat) : Int) by push_cast; rfl]
    generalize (2 ^ n : Nat) = x at h2 h1 ⊢
    omega
  rw [e1, u64_andNot_nat m _ hm (by omega)]
  refine congrArg (fun x : Nat => (x : Int)) ?_
  unfold above
  refine mk_eq _ (Nat.lt_of_le_of_lt Nat.and_le_left hm) ?_
  · intro i hi
    rw [Nat.testBit_and]
    refine congrArg (fun b => m.testBit i && b) ?_
    rw [show 18446744073709551615 - (2 * 2 ^ n - 1) = 2 ^ 64 - ((2 * 2 ^ n - 1) + 1) by omega, Nat.testBit_two_pow_sub_succ (show 2 * 2 ^ n - 1 < 2 ^ 64 by omega), low_ones]
    rw [dec_t hi]
    by_cases h : i ≤ n
    · rw [dec_t h, dec_n (by omega)]; rfl
    · rw [dec_n h, dec_t (by omega)]; rfl
end Go.Proofs.YtbfndcogieiejaaDoor
