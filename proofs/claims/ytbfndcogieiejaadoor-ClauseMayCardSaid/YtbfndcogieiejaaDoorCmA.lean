/- The bits that a mask may have (layer 13). -/
import Derived.Test.YtbfndcogieiejaaDoorMaskA
namespace Go.Proofs.YtbfndcogieiejaaDoor
open Go.RowKit
set_option linter.unusedVariables false

/-- has a mask bits from lo to hi alone? -/
def bitsI (m : Nat) (lo hi : Int) : Bool := (List.range 64).all fun n => !m.testBit n || decide (lo ≤ (n : Int) ∧ (n : Int) ≤ hi)
theorem bitsI_iff {m : Nat} {lo hi : Int} : bitsI m lo hi = true ↔ ∀ n, n < 64 → m.testBit n = true → lo ≤ (n : Int) ∧ (n : Int) ≤ hi := by
  unfold bitsI
  rw [List.all_eq_true]
  constructor
  · intro h n hn ht
    have := h n (List.mem_range.2 hn)
    rw [ht] at this
    simpa using this
  · intro h n hn
    cases ht : m.testBit n
    · rfl
    · simpa using h n (List.mem_range.1 hn) ht
set_option maxHeartbeats 800000 in
set_option maxRecDepth 20000 in
theorem bits13_any (m : Nat) (lo hi : Int) (hm : m < 18446744073709551616) (w : World) : Calls Tryd.prog 27 #[.int .u64 m, .int .i64 lo, .int .i64 hi] w fun e w' => e = .returned (.bool (bitsI m lo hi)) ∧ w = w' := by
  have KH := Lib.hid (fun (n : Nat) (hn : n < 64) (b : Bool) (hb : m.testBit n = b) (W : World) => (show Calls Tryd.prog 40 #[.int .u64 m, .int .i64 (n : Int)] W fun e w' => e = .returned (.bool b) ∧ W = w' from hb ▸ inM_in m n hn ▸ rhas_any m n W hm))
  have HT := Lib.hid (show (∀ n, n < 64 → m.testBit n = true → lo ≤ (n : Int) ∧ (n : Int) ≤ hi) → bitsI m lo hi = true from fun h => bitsI_iff.2 h)
  have HF := Lib.hid (show ∀ n, n < 64 → m.testBit n = true → ¬ (lo ≤ (n : Int) ∧ (n : Int) ≤ hi) → bitsI m lo hi = false from fun n hn h1 h2 => by
    cases h : bitsI m lo hi
    · rfl
    · exact absurd (bitsI_iff.1 h n hn h1) h2)
  clear hm
  generalize bitsI m lo hi = bb at HT HF ⊢
  go_enter Tryd.func27, Tryd.ntmps27
  go_wp2
  go_loop [7] (fun i => ∃ j : Nat, j ≤ 64 ∧ i = .int .i64 j ∧ Hid (∀ n, n < j → m.testBit n = true → lo ≤ (n : Int) ∧ (n : Int) ≤ hi)) (fun i => 64 - (intOf i).toNat)
  case atStart => exact ⟨0, by omega, rfl, Lib.hid fun n h => by omega⟩
  case round =>
    obtain ⟨j, hj, rfl, HIN⟩ := hrel
    by_cases h : j < 64
    · have d0 : decide ((j : Int) < 64) = true := dec_t (by omega)
      cases hb : m.testBit j
      · have K := KH.out j h false hb
        have HN := Lib.hid (show ∀ n, n < j + 1 → m.testBit n = true → lo ≤ (n : Int) ∧ (n : Int) ≤ hi from fun n hn ht => by
          rcases Nat.lt_or_ge n j with g | g
          · exact HIN.out n g ht
          · obtain rfl : n = j := by omega
            rw [hb] at ht; cases ht)
        clear hb HIN
        go_wp2_with fail
        refine (K _).mono ?_
        rintro e w' ⟨rfl, rfl⟩
        go_wp2
        go_round
        case rel => exact ⟨j + 1, by omega, by go_num, HN⟩
        case measure => simp [intOf]; omega
      · have K := KH.out j h true hb
        by_cases h1 : (j : Int) < lo
        · have d1 : decide ((j : Int) < lo) = true := dec_t h1
          have HE := Lib.hid (HF.out j h hb (by omega))
          clear hb HIN h1
          go_wp2_with fail
          refine (K _).mono ?_
          rintro e w' ⟨rfl, rfl⟩
          go_wp2
          go_ret
          exact ⟨by rw [HE.out]; rfl, rfl⟩
        · have d1 : decide ((j : Int) < lo) = false := dec_n h1
          by_cases h2 : hi < (j : Int)
          · have d2 : decide (hi < (j : Int)) = true := dec_t h2
            have HE := Lib.hid (HF.out j h hb (by omega))
            clear hb HIN h1 h2
            go_wp2_with fail
            refine (K _).mono ?_
            rintro e w' ⟨rfl, rfl⟩
            go_wp2
            go_ret
            exact ⟨by rw [HE.out]; rfl, rfl⟩
          · have d2 : decide (hi < (j : Int)) = false := dec_n h2
            have HN := Lib.hid (show ∀ n, n < j + 1 → m.testBit n = true → lo ≤ (n : Int) ∧ (n : Int) ≤ hi from fun n hn ht => by
              rcases Nat.lt_or_ge n j with g | g
              · exact HIN.out n g ht
              · obtain rfl : n = j := by omega
                omega)
            clear hb HIN h1 h2
            go_wp2_with fail
            refine (K _).mono ?_
            rintro e w' ⟨rfl, rfl⟩
            go_wp2
            go_round
            case rel => exact ⟨j + 1, by omega, by go_num, HN⟩
            case measure => simp [intOf]; omega
    · have d0 : decide ((j : Int) < 64) = false := dec_n (by omega)
      have HE := Lib.hid (HT.out fun n hn ht => HIN.out n (by omega) ht)
      clear HIN
      go_wp2
      go_ret
      exact ⟨by rw [HE.out]; rfl, rfl⟩
/-- what of a mask is beyond another one -/
def ovr (m b : Nat) : Nat := m &&& (18446744073709551615 - b)
theorem ovr_nat (m b : Nat) (hm : m < 18446744073709551616) (hb : b < 18446744073709551616) : bits BinOp.andNot IntKind.u64 (m : Int) (b : Int) = ((ovr m b : Nat) : Int) := u64_andNot_nat m b hm hb
theorem ovr_lt (m b : Nat) (hm : m < 18446744073709551616) : ovr m b < 18446744073709551616 := Nat.lt_of_le_of_lt Nat.and_le_left hm
theorem ovr_bit (m b : Nat) (hb : b < 18446744073709551616) (i : Nat) : (ovr m b).testBit i = (m.testBit i && (decide (i < 64) && !b.testBit i)) := by
  unfold ovr
  rw [Nat.testBit_and]
  rw [show 18446744073709551615 - b = 2 ^ 64 - (b + 1) by omega, Nat.testBit_two_pow_sub_succ (show b < 2 ^ 64 by omega)]
theorem ovr_zero (m b : Nat) (hm : m < 18446744073709551616) (hb : b < 18446744073709551616) (lo hi : Int) (h : ∀ n, n < 64 → b.testBit n = decide (lo ≤ (n : Int) ∧ (n : Int) ≤ hi)) : ovr m b = 0 ↔ bitsI m lo hi = true := by
  rw [bitsI_iff]
  constructor
  · intro h0 n hn ht
    have q := ovr_bit m b hb n
    rw [h0, Nat.zero_testBit, ht, decide_eq_true hn, h n hn] at q
    simpa using q
  · intro h1
    refine Nat.eq_of_testBit_eq fun i => ?_
    rw [ovr_bit m b hb i, Nat.zero_testBit]
    by_cases hi' : i < 64
    · rw [h i hi']
      cases ht : m.testBit i
      · rfl
      · rw [decide_eq_true (h1 i hi' ht)]; simp
    · rw [dec_n hi']; simp
theorem ovr_or (a b c : Nat) : ovr (a ||| b) c = ovr a c ||| ovr b c := by unfold ovr; exact Nat.and_or_distrib_right _ _ _
theorem or_zero (a b : Nat) : a ||| b = 0 ↔ a = 0 ∧ b = 0 := Nat.or_eq_zero_iff
/-- are the seven masks of a clause as they may be? -/
def masks7 (s m h mo d e wk : Nat) : Bool := bitsI s 0 59 && (bitsI m 0 59 && (bitsI h 0 23 && (bitsI mo 1 12 && (bitsI d 1 31 && (bitsI e 1 31 && bitsI wk 1 7)))))
def over7 (s m h mo d e wk : Nat) : Nat := ((((ovr (s ||| m) 1152921504606846975) ||| ovr h 16777215) ||| ovr mo 8190) ||| ovr (d ||| e) 4294967294) ||| ovr wk 254
theorem over7_zero (s m h mo d e wk : Nat) (h1 : s < 18446744073709551616) (h2 : m < 18446744073709551616) (h3 : h < 18446744073709551616) (h4 : mo < 18446744073709551616) (h5 : d < 18446744073709551616) (h6 : e < 18446744073709551616) (h7 : wk < 18446744073709551616) : over7 s m h mo d e wk = 0 ↔ masks7 s m h mo d e wk = true := by
  unfold over7 masks7
  simp only [ovr_or, or_zero, Bool.and_eq_true]
  rw [ovr_zero s _ h1 (by decide) 0 59 (by decide +kernel), ovr_zero m _ h2 (by decide) 0 59 (by decide +kernel), ovr_zero h _ h3 (by decide) 0 23 (by decide +kernel), ovr_zero mo _ h4 (by decide) 1 12 (by decide +kernel), ovr_zero d _ h5 (by decide) 1 31 (by decide +kernel), ovr_zero e _ h6 (by decide) 1 31 (by decide +kernel), ovr_zero wk _ h7 (by decide) 1 7 (by decide +kernel)]
  constructor
  · rintro ⟨⟨⟨⟨⟨a, b⟩, c⟩, d⟩, e, f⟩, g⟩
    exact ⟨a, b, c, d, e, f, g⟩
  · rintro ⟨a, b, c, d, e, f, g⟩
    exact ⟨⟨⟨⟨⟨a, b⟩, c⟩, d⟩, e, f⟩, g⟩
end Go.Proofs.YtbfndcogieiejaaDoor
