/- Whether an Ord may be (layer 13). -/
import Derived.Test.YtbfndcogieiejaaDoorCmB
import Derived.Test.YtbfndcogieiejaaDoorWdP
import Derived.Laws.StructEq
namespace Go.Proofs.YtbfndcogieiejaaDoor
open Go.RowKit
set_option linter.unusedVariables false

def ordB (n : Int) (b : Bool) (D : Nat → Nat) : Bool := if n = 0 then !b && days8 D 0 else if n = 1 then days8 D 5 else if n = 2 then days8 D 53 else false
set_option maxHeartbeats 800000 in
set_option maxRecDepth 20000 in
theorem ord13_out (n : Int) (b : Bool) (D : Nat → Nat) (hc : (n = 0 ∧ b = true) ∨ n < 0 ∨ 2 < n) (w : World) : Calls Tryd.prog 28 #[ordV n b D] w fun e w' => e = .returned (.bool false) ∧ Below w.heap.size w w' := by
  have HB0 := Lib.hid (show Below w.heap.size w (w.alloc (.cells (ordC n b D) 25)) from (Below.refl _ _).alloc (Nat.le_refl _) _)
  unfold ordC at HB0
  unfold ordV ordC
  rcases hc with ⟨rfl, rfl⟩ | h | h
  · go_enter Tryd.func28, Tryd.ntmps28
    go_wp2
    go_ret
    exact ⟨rfl, HB0.out⟩
  · have d1 : decide (n < 0) = true := dec_t h
    have e0 : (n == 0) = false := by rw [beq_eq_false_iff_ne]; omega
    have e2 : (n == 2) = false := by rw [beq_eq_false_iff_ne]; omega
    clear h
    go_enter Tryd.func28, Tryd.ntmps28
    go_wp2
    go_ret
    exact ⟨rfl, HB0.out⟩
  · have d1 : decide (n < 0) = false := dec_n (by omega)
    have d2 : decide (2 < n) = true := dec_t h
    have e0 : (n == 0) = false := by rw [beq_eq_false_iff_ne]; omega
    have e2 : (n == 2) = false := by rw [beq_eq_false_iff_ne]; omega
    clear h
    go_enter Tryd.func28, Tryd.ntmps28
    go_wp2
    go_ret
    exact ⟨rfl, HB0.out⟩
theorem ord13_any (n : Int) (b : Bool) (D : Nat → Nat) (hD : ∀ i, D i < 18446744073709551616) (w : World) : Calls Tryd.prog 28 #[ordV n b D] w fun e w' => e = .returned (.bool (ordB n b D)) ∧ Below w.heap.size w w' := by
  unfold ordB
  by_cases h0 : n = 0
  · rw [if_pos h0]
    cases b
    · exact ord13_in n 0 false D (.inl ⟨h0, rfl, rfl⟩) hD w
    · exact ord13_out n true D (.inl ⟨h0, rfl⟩) w
  · rw [if_neg h0]
    by_cases h1 : n = 1
    · rw [if_pos h1]
      exact ord13_in n 5 b D (.inr (.inl ⟨h1, rfl⟩)) hD w
    · rw [if_neg h1]
      by_cases h2 : n = 2
      · rw [if_pos h2]
        exact ord13_in n 53 b D (.inr (.inr ⟨h2, rfl⟩)) hD w
      · rw [if_neg h2]
        exact ord13_out n b D (.inr (by omega)) w
theorem bits_none (m : Nat) (hm : m < 18446744073709551616) : bitsI m 1 0 = true ↔ m = 0 := by
  rw [bitsI_iff]
  constructor
  · intro h
    refine Nat.eq_of_testBit_eq fun i => ?_
    rw [Nat.zero_testBit]
    by_cases hi : i < 64
    · cases ht : m.testBit i
      · rfl
      · have := h i hi ht; omega
    · exact Nat.testBit_lt_two_pow (Nat.lt_of_lt_of_le (show m < 2 ^ 64 by omega) (Nat.pow_le_pow_right (by omega) (by omega)))
  · rintro rfl n _ ht
    rw [Nat.zero_testBit] at ht; cases ht
/-- is an Ord the one that says nothing? -/
theorem days8_zero (D : Nat → Nat) (hD : ∀ i, D i < 18446744073709551616) : days8 D 0 = decide (D 0 = 0 ∧ D 1 = 0 ∧ D 2 = 0 ∧ D 3 = 0 ∧ D 4 = 0 ∧ D 5 = 0 ∧ D 6 = 0 ∧ D 7 = 0) := by
  rw [Bool.eq_iff_iff, days8_iff, decide_eq_true_eq]
  constructor
  · rintro ⟨h, h2⟩
    exact ⟨h, (bits_none _ (hD _)).1 (h2 1 (by omega) (by omega)), (bits_none _ (hD _)).1 (h2 2 (by omega) (by omega)), (bits_none _ (hD _)).1 (h2 3 (by omega) (by omega)), (bits_none _ (hD _)).1 (h2 4 (by omega) (by omega)), (bits_none _ (hD _)).1 (h2 5 (by omega) (by omega)), (bits_none _ (hD _)).1 (h2 6 (by omega) (by omega)), (bits_none _ (hD _)).1 (h2 7 (by omega) (by omega))⟩
  · rintro ⟨h0, h1, h2, h3, h4, h5, h6, h7⟩
    refine ⟨h0, fun i hi1 hi2 => (bits_none _ (hD _)).2 ?_⟩
    match i, hi1, hi2 with
    | 1, _, _ => exact h1
    | 2, _, _ => exact h2
    | 3, _, _ => exact h3
    | 4, _, _ => exact h4
    | 5, _, _ => exact h5
    | 6, _, _ => exact h6
    | 7, _, _ => exact h7
theorem guard_ord : Tryd.prog.eqGuardType Tryd.prog.depth 25 = false := by kernel_rfl
theorem c8_get (D : Nat → Nat) (j : Nat) (hj : j < 8) : (c8 D)[j]? = some (.int .u64 (D j : Nat)) := by
  match j, hj with
  | 0, _ => rfl
  | 1, _ => rfl
  | 2, _ => rfl
  | 3, _ => rfl
  | 4, _ => rfl
  | 5, _ => rfl
  | 6, _ => rfl
  | 7, _ => rfl
theorem idx8 (D : Nat → Nat) (j : Nat) (hj : j < 8) (w : World) : (Instr.index 23 (.agg (c8 D)) (.int .i64 j)).run Tryd.prog w = .ok (.int .u64 (D j : Nat)) w := by
  have hu := Tryd.underlying23
  have he := Tryd.underlying22
  obtain ⟨i, hi⟩ := Option.isSome_iff_exists.1 (show (Tryd.prog.info? 22).isSome = true by kernel_rfl)
  have hs : i.size = 1 := by
    have h := show (Tryd.prog.info? 22).map (·.size) = some 1 by kernel_rfl
    rw [hi] at h
    simpa using h
  have hz := fun w => run_sizeOf (P := Tryd.prog) w hi
  have hn : 0 ≤ (j : Int) ∧ (j : Int) < 8 := by omega
  have hg := c8_get D j hj
  simp [Instr.index, run_underlying hu, asIntOf, hz, go_sem, part, isAgg, run_underlying he, Program.cellsOf, hi, hs, hg, hj]
set_option maxRecDepth 100000 in
theorem eq8z (a0 a1 a2 a3 a4 a5 a6 a7 : Nat) (w : World) : (Op.equalIn 9999 23 (.agg #[.int .u64 (a0 : Nat), .int .u64 (a1 : Nat), .int .u64 (a2 : Nat), .int .u64 (a3 : Nat), .int .u64 (a4 : Nat), .int .u64 (a5 : Nat), .int .u64 (a6 : Nat), .int .u64 (a7 : Nat)]) (.agg #[.int .u64 0, .int .u64 0, .int .u64 0, .int .u64 0, .int .u64 0, .int .u64 0, .int .u64 0, .int .u64 0])).run Tryd.prog w = .ok (decide (a0 = 0 ∧ a1 = 0 ∧ a2 = 0 ∧ a3 = 0 ∧ a4 = 0 ∧ a5 = 0 ∧ a6 = 0 ∧ a7 = 0)) w := by
  have u3 := Tryd.underlying22
  have hS := Tryd.underlying23
  obtain ⟨i, hi⟩ := Option.isSome_iff_exists.1 (show (Tryd.prog.info? 22).isSome = true by kernel_rfl)
  rw [show (9999 : Nat) = 9998 + 1 from rfl, run_equalIn_array w 9998 _ _ hS hi, show Tryd.prog.cellsOf 22 = 1 by kernel_rfl, show List.range 8 = [0, 1, 2, 3, 4, 5, 6, 7] by decide]
  have hc : ∀ a : Nat, (((a : Nat) : Int) == 0) = decide (a = 0) := fun a => by
    rw [Bool.eq_iff_iff, beq_iff_eq, decide_eq_true_eq]; omega
  simp only [Op.eqItems]
  go_simp
  repeat' split
  all_goals simp [*]
set_option maxRecDepth 100000 in
theorem eq_ord (n : Int) (b : Bool) (D : Nat → Nat) (w : World) : (Op.equalIn 10000 25 (.agg (ordC n b D)) (.agg #[.int .i64 0, .bool false, .int .u64 0, .int .u64 0, .int .u64 0, .int .u64 0, .int .u64 0, .int .u64 0, .int .u64 0, .int .u64 0])).run Tryd.prog w = .ok (decide (n = 0) && (!b && decide (D 0 = 0 ∧ D 1 = 0 ∧ D 2 = 0 ∧ D 3 = 0 ∧ D 4 = 0 ∧ D 5 = 0 ∧ D 6 = 0 ∧ D 7 = 0))) w := by
  have u3 := Tryd.underlying3
  have u4 := Tryd.underlying4
  have u5 := Tryd.underlying22
  have ha := Tryd.underlying23
  have hS : Tryd.prog.underlying 25 = some (.struct (Tryd.prog.fieldsOf 25)) := by kernel_rfl
  have hp : Tryd.prog.stoodInHeld 25 = false := by kernel_rfl
  obtain ⟨i, hi⟩ := Option.isSome_iff_exists.1 (show (Tryd.prog.info? 22).isSome = true by kernel_rfl)
  have hc : ∀ a : Nat, (((a : Nat) : Int) == 0) = decide (a = 0) := fun a => by
    rw [Bool.eq_iff_iff, beq_iff_eq, decide_eq_true_eq]; omega
  have hc2 : (n == 0) = decide (n = 0) := by
    rw [Bool.eq_iff_iff, beq_iff_eq, decide_eq_true_eq]
  rw [show (10000 : Nat) = 9999 + 1 from rfl, run_equalIn_agg w 9999 25 _ _ hS hp]
  simp only [Program.fieldsOf, Tryd.underlying25]
  unfold ordC
  go_simp
  rw [eq8z]
  by_cases h0 : n = 0
  · cases b
    · cases hd : decide (D 0 = 0 ∧ D 1 = 0 ∧ D 2 = 0 ∧ D 3 = 0 ∧ D 4 = 0 ∧ D 5 = 0 ∧ D 6 = 0 ∧ D 7 = 0)
      all_goals (simp at hd; simp [h0, Result.andThen_ok, hd]; try exact hd)
    · simp [h0]
  · simp [h0]
end Go.Proofs.YtbfndcogieiejaaDoor
