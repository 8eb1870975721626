/- Contracts of bits.TrailingZeros64 over its table, of mask.Least and mask.Next (layer 2). -/
import Derived.Test.YtjpdfbljhbgbcaaDoorMaskB
import Derived.Lib.TrailingZeros
import Derived.Laws.Bits64b
namespace Go.Proofs.YtjpdfbljhbgbcaaDoor
open Go.RowKit
set_option linter.unusedVariables false

/-- the library's table in its variable -/
def Tab (w : World) : Prop := ∀ j, j < 64 → w.cell? ⟨1, j, none⟩ = some (.int .u8 (Lib.deBruijn64tab.getD j 0 : Nat))
theorem Tab.below {w w' : World} (h : Tab w) (hb : Below w.heap.size w w') : Tab w' := by
  intro j hj
  have h1 := h j hj
  have hlt : 1 < w.heap.size := by
    rcases Nat.lt_or_ge 1 w.heap.size with h' | h'
    · exact h'
    · simp [World.cell?, Array.getElem?_eq_none h'] at h1
  rw [hb.cell (p := ⟨1, j, none⟩) hlt]
  exact h1
theorem Tab.quiet {w w' : World} (h : Tab w) (q : Quiet w w') : Tab w' := by obtain ⟨n, rfl⟩ := q; exact h
theorem Tab.lt {w : World} (h : Tab w) : 1 < w.heap.size := by
  have h1 := h 0 (by decide)
  rcases Nat.lt_or_ge 1 w.heap.size with h' | h'
  · exact h'
  · simp [World.cell?, Array.getElem?_eq_none h'] at h1
theorem tz_key (x a : Nat) (hx : x < 18446744073709551616) (hx0 : x ≠ 0) (hlow : x &&& (18446744073709551616 - x) = a) :
    IntKind.u64.wrap (bits BinOp.and IntKind.u64 (x : Int) (IntKind.u64.wrap (-(x : Int))) * 285870213051353865) / 288230376151711744 = ((a * 285870213051353865 % 18446744073709551616 / 288230376151711744 : Nat) : Int) := by
  have e1 : IntKind.u64.wrap (-(x : Int)) = ((18446744073709551616 - x : Nat) : Int) := by rw [IntKind.wrap_u64]; omega
  rw [e1, u64_and_nat x _ hx (by omega), hlow, IntKind.wrap_u64]
  omega
theorem tz_core (x k idx : Nat) (w : World) (hx0 : ((x : Int) == 0) = false)
    (key : IntKind.u64.wrap (bits BinOp.and IntKind.u64 (x : Int) (IntKind.u64.wrap (-(x : Int))) * 285870213051353865) / 288230376151711744 = (idx : Int))
    (hi : idx < 64) (hk : k < 64) (hcell : w.cell? ⟨1, idx, none⟩ = some (.int .u8 k)) :
    Calls Tryd.prog 58 #[.int .u64 x] w fun e w' => e = .returned (.int .i64 k) ∧ w = w' := by
  go_enter Tryd.func58, Tryd.ntmps58
  go_wp2_with (simp only [key])
  go_ret
  exact ⟨rfl, rfl⟩
/-- the least number of a mask -/
def lo (x : Nat) : Nat := Lib.ctz 64 x
theorem tz_any (x : Nat) (w : World) (hx : x < 18446744073709551616) (hx0 : x ≠ 0) (hT : Tab w) :
    Calls Tryd.prog 58 #[.int .u64 x] w fun e w' => e = .returned (.int .i64 (lo x)) ∧ w = w' := by
  obtain ⟨hlow, hk⟩ := Lib.lowest_bit 64 x hx0 hx
  obtain ⟨hi, htab⟩ := Lib.deBruijn64_at _ hk
  have hcell := hT _ hi
  rw [htab] at hcell
  exact tz_core x _ _ w (by rw [beq_eq_false_iff_ne]; omega) (tz_key x _ hx hx0 hlow) hi hk hcell
theorem lo_spec (x : Nat) (hx : x < 18446744073709551616) (hx0 : x ≠ 0) : lo x < 64 ∧ x.testBit (lo x) = true ∧ ∀ i, i < lo x → x.testBit i = false := by
  obtain ⟨m, hm, hk⟩ := Lib.ctzFrom_spec 64 x (by omega) hx
  have e : lo x = Lib.ctzFrom 64 x := by unfold lo Lib.ctz; rw [if_neg hx0]
  rw [e]
  generalize Lib.ctzFrom 64 x = k at hm hk
  refine ⟨hk, ?_, ?_⟩
  · rw [hm, Nat.mul_comm, Nat.testBit_mul_two_pow]
    simp [Nat.testBit_zero]
  · intro i hi
    rw [hm, Nat.mul_comm, Nat.testBit_mul_two_pow]
    rw [dec_n (show ¬ k ≤ i by omega)]; rfl
theorem least_yes (x : Nat) (w : World) (hx : x < 18446744073709551616) (hx0 : x ≠ 0) (hT : Tab w) :
    Calls Tryd.prog 42 #[.int .u64 x] w fun e w' => e = .returned (.tuple #[.int .i64 (lo x), .bool true]) ∧ w = w' := by
  have k := tz_any x w hx hx0 hT
  have d : ((x : Int) == 0) = false := by rw [beq_eq_false_iff_ne]; omega
  clear hT hx hx0
  go_enter Tryd.func42, Tryd.ntmps42
  go_wp2_with fail
  refine k.mono ?_
  rintro e w1 ⟨rfl, rfl⟩
  go_wp2
  go_ret2
  exact ⟨rfl, rfl⟩
theorem least_no (w : World) : Calls Tryd.prog 42 #[.int .u64 0] w fun e w' => e = .returned (.tuple #[.int .i64 0, .bool false]) ∧ w = w' := by
  go_enter Tryd.func42, Tryd.ntmps42
  go_wp2
  go_ret2
  exact ⟨rfl, rfl⟩
/-- what a mask tells as its least number -/
def leastV (x : Nat) : Value := if x = 0 then .tuple #[.int .i64 0, .bool false] else .tuple #[.int .i64 (lo x), .bool true]
theorem least_any (x : Nat) (w : World) (hx : x < 18446744073709551616) (hT : Tab w) : Calls Tryd.prog 42 #[.int .u64 x] w fun e w' => e = .returned (leastV x) ∧ w = w' := by
  unfold leastV
  by_cases h : x = 0
  · subst h; rw [if_pos rfl]; exact least_no w
  · rw [if_neg h]; exact least_yes x w hx h hT
/-- the numbers of a mask above another one -/
def above (m : Nat) (n : Int) : Nat := mk fun i => m.testBit i && decide (n < i)
theorem above_lt (m : Nat) (n : Int) : above m n < 18446744073709551616 := mk_lt _
theorem above_far (m : Nat) (n : Int) (h : 63 ≤ n) : above m n = 0 := by
  unfold above
  rw [mk_congr (q := fun _ => false) fun i hi => by rw [dec_n (by omega)]; simp]
  exact mk_none
theorem above_all (m : Nat) (n : Int) (hm : m < 18446744073709551616) (h : n < 0) : above m n = m := by
  unfold above
  rw [mk_congr (q := fun i => m.testBit i) fun i hi => by rw [dec_t (by omega)]; simp]
  exact mk_self m hm
theorem low_ones (n i : Nat) : (2 * 2 ^ n - 1).testBit i = decide (i ≤ n) := by
  rw [show 2 * 2 ^ n = 2 ^ (n + 1) by rw [Nat.pow_succ]; omega, Nat.testBit_two_pow_sub_one]
  by_cases h : i ≤ n
  · rw [dec_t h, dec_t (by omega)]
  · rw [dec_n h, dec_n (by omega)]
theorem clear_low (m n : Nat) (hm : m < 18446744073709551616) (hn : n < 63) :
    bits BinOp.andNot IntKind.u64 (m : Int) (IntKind.u64.wrap (IntKind.u64.wrap (2 * 2 ^ n) - 1)) = (above m n : Nat) := by
  have h2 : 2 * 2 ^ n < 18446744073709551616 := by
    have : 2 ^ (n + 1) < 2 ^ 64 := Nat.pow_lt_pow_right (by decide) (by omega)
    rw [Nat.pow_succ] at this
    omega
  have h1 : 0 < 2 ^ n := Nat.pow_pos (by decide)
  have e1 : IntKind.u64.wrap (IntKind.u64.wrap (2 * 2 ^ n) - 1) = ((2 * 2 ^ n - 1 : Nat) : Int) := by
    rw [IntKind.wrap_u64, IntKind.wrap_u64]
    rw [show (2 : Int) ^ n = ((2 ^ n : Nat) : Int) by push_cast; rfl]
    generalize (2 ^ n : Nat) = x at h2 h1 ⊢
    omega
  rw [e1, u64_andNot_nat m _ hm (by omega)]
  refine congrArg (fun x : Nat => (x : Int)) ?_
  unfold above
  refine mk_eq _ (Nat.lt_of_le_of_lt Nat.and_le_left hm) ?_
  · intro i hi
    rw [Nat.testBit_and]
    refine congrArg (fun b => m.testBit i && b) ?_
    rw [show 18446744073709551615 - (2 * 2 ^ n - 1) = 2 ^ 64 - ((2 * 2 ^ n - 1) + 1) by omega, Nat.testBit_two_pow_sub_succ (show 2 * 2 ^ n - 1 < 2 ^ 64 by omega), low_ones]
    rw [dec_t hi]
    by_cases h : i ≤ n
    · rw [dec_t h, dec_n (by omega)]; rfl
    · rw [dec_n h, dec_t (by omega)]; rfl
theorem next_any (m : Nat) (n : Int) (w : World) (hm : m < 18446744073709551616) (hn : I64 n) (hT : Tab w) :
    Calls Tryd.prog 63 #[.int .u64 m, .int .i64 n] w fun e w' => e = .returned (leastV (above m n)) ∧ w = w' := by
  by_cases h1 : 63 ≤ n
  · rw [above_far m n h1]
    have d := dec_t h1
    have HV := Lib.hid (show leastV 0 = .tuple #[.int .i64 0, .bool false] from rfl)
    rw [HV.out]
    clear h1
    go_enter Tryd.func63, Tryd.ntmps63
    go_wp2
    go_ret2
    exact ⟨rfl, rfl⟩
  · have d1 := dec_n h1
    have k := least_any (above m n) w (above_lt m n) hT
    have hz : ∃ a b : Value, leastV (above m n) = .tuple #[a, b] := by
      unfold leastV; split
      · exact ⟨_, _, rfl⟩
      · exact ⟨_, _, rfl⟩
    obtain ⟨a, b, hz⟩ := hz
    rw [hz] at k ⊢
    clear hz
    by_cases h2 : 0 ≤ n
    · have d2 := dec_t h2
      obtain ⟨j, rfl⟩ := Int.eq_ofNat_of_zero_le h2
      have HK := Lib.hid (clear_low m j hm (by omega))
      have i1 : (j : Int) < 64 := by omega
      have kk : Calls Tryd.prog 42 #[.int .u64 (bits BinOp.andNot IntKind.u64 (m : Int) (IntKind.u64.wrap (IntKind.u64.wrap (2 * 2 ^ j) - 1)))] w fun e w' => e = .returned (.tuple #[a, b]) ∧ w = w' := by rw [HK.out]; exact k
      clear h1 h2 hT k HK
      go_enter Tryd.func63, Tryd.ntmps63
      go_wp2_with fail
      refine kk.mono ?_
      rintro e w1 ⟨rfl, rfl⟩
      go_wp2
      go_ret2
      exact ⟨rfl, rfl⟩
    · have d2 := dec_n h2
      rw [above_all m n hm (by omega)] at k
      clear h1 h2 hT
      go_enter Tryd.func63, Tryd.ntmps63
      go_wp2_with fail
      refine k.mono ?_
      rintro e w1 ⟨rfl, rfl⟩
      go_wp2
      go_ret2
      exact ⟨rfl, rfl⟩
end Go.Proofs.YtjpdfbljhbgbcaaDoor
