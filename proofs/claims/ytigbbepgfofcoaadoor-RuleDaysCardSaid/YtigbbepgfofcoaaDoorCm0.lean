/- The bits that a mask may have (layer 13). Whether an Ord may be, by the document (layer 13). Whether an Ord may be (layer 13). Whether an Ord may be (layer 13), second part. -/
import Derived.Test.YtigbbepgfofcoaaDoorMaskA
import Derived.Test.YtigbbepgfofcoaaDoorWdP
import Derived.Laws.StructEq
namespace Go.Proofs.YtigbbepgfofcoaaDoor
open Go.RowKit
set_option linter.unusedVariables false

/-- has a mask bits from lo to hi alone? -/
def bitsI (m : Nat) (lo hi : Int) : Bool := (List.range 64).all fun n => !m.testBit n || decide (lo ≤ (n : Int) ∧ (n : Int) ≤ hi)
theorem bitsI_iff {m : Nat} {lo hi : Int} : bitsI m lo hi = true ↔ ∀ n, n < 64 → m.testBit n = true → lo ≤ (n : Int) ∧ (n : Int) ≤ hi := by
  unfold bitsI
  rw [List.all_eq_true]
  constructor
  · intro h n hn ht
    have := h n (List.mem_range.2 hn)
    rw [ht] at this
    simpa using this
  · intro h n hn
    cases ht : m.testBit n
    · rfl
    · simpa using h n (List.mem_range.1 hn) ht
/-- what of a mask is beyond another one -/
def ovr (m b : Nat) : Nat := m &&& (18446744073709551615 - b)
theorem ovr_nat (m b : Nat) (hm : m < 18446744073709551616) (hb : b < 18446744073709551616) : bits BinOp.andNot IntKind.u64 (m : Int) (b : Int) = ((ovr m b : Nat) : Int) := u64_andNot_nat m b hm hb
theorem ovr_lt (m b : Nat) (hm : m < 18446744073709551616) : ovr m b < 18446744073709551616 := Nat.lt_of_le_of_lt Nat.and_le_left hm
theorem ovr_bit (m b : Nat) (hb : b < 18446744073709551616) (i : Nat) : (ovr m b).testBit i = (m.testBit i && (decide (i < 64) && !b.testBit i)) := by
  unfold ovr
  rw [Nat.testBit_and]
  rw [show 18446744073709551615 - b = 2 ^ 64 - (b + 1) by omega, Nat.testBit_two_pow_sub_succ (show b < 2 ^ 64 by omega)]
theorem ovr_zero (m b : Nat) (hm : m < 18446744073709551616) (hb : b < 18446744073709551616) (lo hi : Int) (h : ∀ n, n < 64 → b.testBit n = decide (lo ≤ (n : Int) ∧ (n : Int) ≤ hi)) : ovr m b = 0 ↔ bitsI m lo hi = true := by
  rw [bitsI_iff]
  constructor
  · intro h0 n hn ht
    have q := ovr_bit m b hb n
    rw [h0, Nat.zero_testBit, ht, decide_eq_true hn, h n hn] at q
    simpa using q
  · intro h1
    refine Nat.eq_of_testBit_eq fun i => ?_
    rw [ovr_bit m b hb i, Nat.zero_testBit]
    by_cases hi' : i < 64
    · rw [h i hi']
      cases ht : m.testBit i
      · rfl
      · rw [decide_eq_true (h1 i hi' ht)]; simp
    · rw [dec_n hi']; simp
theorem ovr_or (a b c : Nat) : ovr (a ||| b) c = ovr a c ||| ovr b c := by unfold ovr; exact Nat.and_or_distrib_right _ _ _
theorem or_zero (a b : Nat) : a ||| b = 0 ↔ a = 0 ∧ b = 0 := Nat.or_eq_zero_iff
/-- are the seven masks of a clause as they may be? -/
def masks7 (s m h mo d e wk : Nat) : Bool := bitsI s 0 59 && (bitsI m 0 59 && (bitsI h 0 23 && (bitsI mo 1 12 && (bitsI d 1 31 && (bitsI e 1 31 && bitsI wk 1 7)))))
def over7 (s m h mo d e wk : Nat) : Nat := ((((ovr (s ||| m) 1152921504606846975) ||| ovr h 16777215) ||| ovr mo 8190) ||| ovr (d ||| e) 4294967294) ||| ovr wk 254
theorem over7_zero (s m h mo d e wk : Nat) (h1 : s < 18446744073709551616) (h2 : m < 18446744073709551616) (h3 : h < 18446744073709551616) (h4 : mo < 18446744073709551616) (h5 : d < 18446744073709551616) (h6 : e < 18446744073709551616) (h7 : wk < 18446744073709551616) : over7 s m h mo d e wk = 0 ↔ masks7 s m h mo d e wk = true := by
  unfold over7 masks7
  simp only [ovr_or, or_zero, Bool.and_eq_true]
  rw [ovr_zero s _ h1 (by decide) 0 59 (by decide +kernel), ovr_zero m _ h2 (by decide) 0 59 (by decide +kernel), ovr_zero h _ h3 (by decide) 0 23 (by decide +kernel), ovr_zero mo _ h4 (by decide) 1 12 (by decide +kernel), ovr_zero d _ h5 (by decide) 1 31 (by decide +kernel), ovr_zero e _ h6 (by decide) 1 31 (by decide +kernel), ovr_zero wk _ h7 (by decide) 1 7 (by decide +kernel)]
  constructor
  · rintro ⟨⟨⟨⟨⟨a, b⟩, c⟩, d⟩, e, f⟩, g⟩
    exact ⟨a, b, c, d, e, f, g⟩
  · rintro ⟨a, b, c, d, e, f, g⟩
    exact ⟨⟨⟨⟨⟨a, b⟩, c⟩, d⟩, e, f⟩, g⟩
end Go.Proofs.YtigbbepgfofcoaaDoor
namespace Go.Proofs.YtigbbepgfofcoaaDoor
open Go.RowKit
set_option linter.unusedVariables false

/-- the eight words of an Ord -/
def c8 (D : Nat → Nat) : Array Value := #[.int .u64 (D 0 : Nat), .int .u64 (D 1 : Nat), .int .u64 (D 2 : Nat), .int .u64 (D 3 : Nat), .int .u64 (D 4 : Nat), .int .u64 (D 5 : Nat), .int .u64 (D 6 : Nat), .int .u64 (D 7 : Nat)]
def ordC (n : Int) (b : Bool) (D : Nat → Nat) : Array Value := #[.int .i64 n, .bool b, .int .u64 (D 0 : Nat), .int .u64 (D 1 : Nat), .int .u64 (D 2 : Nat), .int .u64 (D 3 : Nat), .int .u64 (D 4 : Nat), .int .u64 (D 5 : Nat), .int .u64 (D 6 : Nat), .int .u64 (D 7 : Nat)]
def ordV (n : Int) (b : Bool) (D : Nat → Nat) : Value := .agg (ordC n b D)
theorem ordC_get (n : Int) (b : Bool) (D : Nat → Nat) (j : Nat) (hj : j < 8) : (ordC n b D)[2 + j]? = some (.int .u64 (D j : Nat)) := by
  match j, hj with
  | 0, _ => rfl
  | 1, _ => rfl
  | 2, _ => rfl
  | 3, _ => rfl
  | 4, _ => rfl
  | 5, _ => rfl
  | 6, _ => rfl
  | 7, _ => rfl
def days8 (D : Nat → Nat) (hi : Int) : Bool := decide (D 0 = 0) && (List.range 8).all fun i => decide (i = 0) || bitsI (D i) 1 hi
theorem days8_iff {D : Nat → Nat} {hi : Int} : days8 D hi = true ↔ D 0 = 0 ∧ ∀ i, 1 ≤ i → i < 8 → bitsI (D i) 1 hi = true := by
  unfold days8
  rw [Bool.and_eq_true, decide_eq_true_eq, List.all_eq_true]
  refine and_congr_right fun _ => ⟨fun h i h1 h2 => ?_, fun h i hi' => ?_⟩
  · have := h i (List.mem_range.2 h2)
    rw [dec_n (show ¬ i = 0 by omega)] at this
    simpa using this
  · by_cases e : i = 0
    · rw [dec_t e]; rfl
    · rw [h i (by omega) (List.mem_range.1 hi')]; simp
theorem days8_no {D : Nat → Nat} {hi : Int} (h : ¬ (D 0 = 0 ∧ ∀ i, 1 ≤ i → i < 8 → bitsI (D i) 1 hi = true)) : days8 D hi = false := by
  cases e : days8 D hi
  · rfl
  · exact absurd (days8_iff.1 e) h
end Go.Proofs.YtigbbepgfofcoaaDoor
namespace Go.Proofs.YtigbbepgfofcoaaDoor
open Go.RowKit
set_option linter.unusedVariables false

def ordB (n : Int) (b : Bool) (D : Nat → Nat) : Bool := if n = 0 then !b && days8 D 0 else if n = 1 then days8 D 5 else if n = 2 then days8 D 53 else false
theorem bits_none (m : Nat) (hm : m < 18446744073709551616) : bitsI m 1 0 = true ↔ m = 0 := by
  rw [bitsI_iff]
  constructor
  · intro h
    refine Nat.eq_of_testBit_eq fun i => ?_
    rw [Nat.zero_testBit]
    by_cases hi : i < 64
    · cases ht : m.testBit i
      · rfl
      · have := h i hi ht; omega
    · exact Nat.testBit_lt_two_pow (Nat.lt_of_lt_of_le (show m < 2 ^ 64 by omega) (Nat.pow_le_pow_right (by omega) (by omega)))
  · rintro rfl n _ ht
    rw [Nat.zero_testBit] at ht; cases ht
/-- is an Ord the one that says nothing? -/
theorem days8_zero (D : Nat → Nat) (hD : ∀ i, D i < 18446744073709551616) : days8 D 0 = decide (D 0 = 0 ∧ D 1 = 0 ∧ D 2 = 0 ∧ D 3 = 0 ∧ D 4 = 0 ∧ D 5 = 0 ∧ D 6 = 0 ∧ D 7 = 0) := by
  rw [Bool.eq_iff_iff, days8_iff, decide_eq_true_eq]
  constructor
  · rintro ⟨h, h2⟩
    exact ⟨h, (bits_none _ (hD _)).1 (h2 1 (by omega) (by omega)), (bits_none _ (hD _)).1 (h2 2 (by omega) (by omega)), (bits_none _ (hD _)).1 (h2 3 (by omega) (by omega)), (bits_none _ (hD _)).1 (h2 4 (by omega) (by omega)), (bits_none _ (hD _)).1 (h2 5 (by omega) (by omega)), (bits_none _ (hD _)).1 (h2 6 (by omega) (by omega)), (bits_none _ (hD _)).1 (h2 7 (by omega) (by omega))⟩
  · rintro ⟨h0, h1, h2, h3, h4, h5, h6, h7⟩
    refine ⟨h0, fun i hi1 hi2 => (bits_none _ (hD _)).2 ?_⟩
    match i, hi1, hi2 with
    | 1, _, _ => exact h1
    | 2, _, _ => exact h2
    | 3, _, _ => exact h3
    | 4, _, _ => exact h4
    | 5, _, _ => exact h5
    | 6, _, _ => exact h6
    | 7, _, _ => exact h7
theorem guard_ord : Tryd.prog.eqGuardType Tryd.prog.depth 41 = false := by kernel_rfl
theorem c8_get (D : Nat → Nat) (j : Nat) (hj : j < 8) : (c8 D)[j]? = some (.int .u64 (D j : Nat)) := by
  match j, hj with
  | 0, _ => rfl
  | 1, _ => rfl
  | 2, _ => rfl
  | 3, _ => rfl
  | 4, _ => rfl
  | 5, _ => rfl
  | 6, _ => rfl
  | 7, _ => rfl
theorem idx8 (D : Nat → Nat) (j : Nat) (hj : j < 8) (w : World) : (Instr.index 39 (.agg (c8 D)) (.int .i64 j)).run Tryd.prog w = .ok (.int .u64 (D j : Nat)) w := by
  have hu := Tryd.underlying39
  have he := Tryd.underlying35
  obtain ⟨i, hi⟩ := Option.isSome_iff_exists.1 (show (Tryd.prog.info? 35).isSome = true by kernel_rfl)
  have hs : i.size = 1 := by
    have h := show (Tryd.prog.info? 35).map (·.size) = some 1 by kernel_rfl
    rw [hi] at h
    simpa using h
  have hz := fun w => run_sizeOf (P := Tryd.prog) w hi
  have hn : 0 ≤ (j : Int) ∧ (j : Int) < 8 := by omega
  have hg := c8_get D j hj
  simp [Instr.index, run_underlying hu, asIntOf, hz, go_sem, part, isAgg, run_underlying he, Program.cellsOf, hi, hs, hg, hj]
set_option maxRecDepth 100000 in
theorem eq8z (a0 a1 a2 a3 a4 a5 a6 a7 : Nat) (w : World) : (Op.equalIn 9999 39 (.agg #[.int .u64 (a0 : Nat), .int .u64 (a1 : Nat), .int .u64 (a2 : Nat), .int .u64 (a3 : Nat), .int .u64 (a4 : Nat), .int .u64 (a5 : Nat), .int .u64 (a6 : Nat), .int .u64 (a7 : Nat)]) (.agg #[.int .u64 0, .int .u64 0, .int .u64 0, .int .u64 0, .int .u64 0, .int .u64 0, .int .u64 0, .int .u64 0])).run Tryd.prog w = .ok (decide (a0 = 0 ∧ a1 = 0 ∧ a2 = 0 ∧ a3 = 0 ∧ a4 = 0 ∧ a5 = 0 ∧ a6 = 0 ∧ a7 = 0)) w := by
  have u3 := Tryd.underlying35
  have hS := Tryd.underlying39
  obtain ⟨i, hi⟩ := Option.isSome_iff_exists.1 (show (Tryd.prog.info? 35).isSome = true by kernel_rfl)
  rw [show (9999 : Nat) = 9998 + 1 from rfl, run_equalIn_array w 9998 _ _ hS hi, show Tryd.prog.cellsOf 35 = 1 by kernel_rfl, show List.range 8 = [0, 1, 2, 3, 4, 5, 6, 7] by decide]
  have hc : ∀ a : Nat, (((a : Nat) : Int) == 0) = decide (a = 0) := fun a => by
    rw [Bool.eq_iff_iff, beq_iff_eq, decide_eq_true_eq]; omega
  simp only [Op.eqItems]
  go_simp
  repeat' split
  all_goals simp [*]
set_option maxRecDepth 100000 in
theorem eq_ord (n : Int) (b : Bool) (D : Nat → Nat) (w : World) : (Op.equalIn 10000 41 (.agg (ordC n b D)) (.agg #[.int .i64 0, .bool false, .int .u64 0, .int .u64 0, .int .u64 0, .int .u64 0, .int .u64 0, .int .u64 0, .int .u64 0, .int .u64 0])).run Tryd.prog w = .ok (decide (n = 0) && (!b && decide (D 0 = 0 ∧ D 1 = 0 ∧ D 2 = 0 ∧ D 3 = 0 ∧ D 4 = 0 ∧ D 5 = 0 ∧ D 6 = 0 ∧ D 7 = 0))) w := by
  have u3 := Tryd.underlying3
  have u4 := Tryd.underlying4
  have u5 := Tryd.underlying35
  have ha := Tryd.underlying39
  have hS : Tryd.prog.underlying 41 = some (.struct (Tryd.prog.fieldsOf 41)) := by kernel_rfl
  have hp : Tryd.prog.stoodInHeld 41 = false := by kernel_rfl
  obtain ⟨i, hi⟩ := Option.isSome_iff_exists.1 (show (Tryd.prog.info? 35).isSome = true by kernel_rfl)
  have hc : ∀ a : Nat, (((a : Nat) : Int) == 0) = decide (a = 0) := fun a => by
    rw [Bool.eq_iff_iff, beq_iff_eq, decide_eq_true_eq]; omega
  have hc2 : (n == 0) = decide (n = 0) := by
    rw [Bool.eq_iff_iff, beq_iff_eq, decide_eq_true_eq]
  rw [show (10000 : Nat) = 9999 + 1 from rfl, run_equalIn_agg w 9999 41 _ _ hS hp]
  simp only [Program.fieldsOf, Tryd.underlying41]
  unfold ordC
  go_simp
  rw [eq8z]
  by_cases h0 : n = 0
  · cases b
    · cases hd : decide (D 0 = 0 ∧ D 1 = 0 ∧ D 2 = 0 ∧ D 3 = 0 ∧ D 4 = 0 ∧ D 5 = 0 ∧ D 6 = 0 ∧ D 7 = 0)
      all_goals (simp at hd; simp [h0, Result.andThen_ok, hd]; try exact hd)
    · simp [h0]
  · simp [h0]
end Go.Proofs.YtigbbepgfofcoaaDoor
namespace Go.Proofs.YtigbbepgfofcoaaDoor
open Go.RowKit
set_option linter.unusedVariables false
attribute [local go_sem] eq_ord guard_ord

end Go.Proofs.YtigbbepgfofcoaaDoor
