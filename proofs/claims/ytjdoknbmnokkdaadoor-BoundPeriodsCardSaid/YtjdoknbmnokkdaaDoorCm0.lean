/- The bits that a mask may have (layer 13). Whether an Ord may be, by the document (layer 13). Whether an Ord may be (layer 13). Whether an Ord may be (layer 13), second part. -/
import Derived.Test.YtjdoknbmnokkdaaDoorMaskA
import Derived.Test.YtjdoknbmnokkdaaDoorWdP
import Derived.Laws.StructEq
namespace Go.Proofs.YtjdoknbmnokkdaaDoor
open Go.RowKit
set_option linter.unusedVariables false

/-- has a mask bits from lo to hi alone? -/
def bitsI (m : Nat) (lo hi : Int) : Bool := (List.range 64).all fun n => !m.testBit n || decide (lo ≤ (n : Int) ∧ (n : Int) ≤ hi)
theorem bitsI_iff {m : Nat} {lo hi : Int} : bitsI m lo hi = true ↔ ∀ n, n < 64 → m.testBit n = true → lo ≤ (n : Int) ∧ (n : Int) ≤ hi := by
  unfold bitsI
  rw [List.all_eq_true]
  constructor
  · intro h n hn ht
    have := h n (List.mem_range.2 hn)
    rw [ht] at this
    simpa using this
  · intro h n hn
    cases ht : m.testBit n
    · rfl
    · simpa using h n (List.mem_range.1 hn) ht
set_option maxHeartbeats 800000 in
set_option maxRecDepth 20000 in
theorem bits13_any (m : Nat) (lo hi : Int) (hm : m < 18446744073709551616) (w : World) : Calls Tryd.prog 146 #[.int .u64 m, .int .i64 lo, .int .i64 hi] w fun e w' => e = .returned (.bool (bitsI m lo hi)) ∧ w = w' := by
  have KH := Lib.hid (fun (n : Nat) (hn : n < 64) (b : Bool) (hb : m.testBit n = b) (W : World) => (show Calls Tryd.prog 30 #[.int .u64 m, .int .i64 (n : Int)] W fun e w' => e = .returned (.bool b) ∧ W = w' from hb ▸ inM_in m n hn ▸ rhas_any m n W hm))
  have HT := Lib.hid (show (∀ n, n < 64 → m.testBit n = true → lo ≤ (n : Int) ∧ (n : Int) ≤ hi) → bitsI m lo hi = true from fun h => bitsI_iff.2 h)
  have HF := Lib.hid (show ∀ n, n < 64 → m.testBit n = true → ¬ (lo ≤ (n : Int) ∧ (n : Int) ≤ hi) → bitsI m lo hi = false from fun n hn h1 h2 => by
    cases h : bitsI m lo hi
    · rfl
    · exact absurd (bitsI_iff.1 h n hn h1) h2)
  clear hm
  generalize bitsI m lo hi = bb at HT HF ⊢
  go_enter Tryd.func146, Tryd.ntmps146
  go_wp2
  go_loop [7] (fun i => ∃ j : Nat, j ≤ 64 ∧ i = .int .i64 j ∧ Hid (∀ n, n < j → m.testBit n = true → lo ≤ (n : Int) ∧ (n : Int) ≤ hi)) (fun i => 64 - (intOf i).toNat)
  case atStart => exact ⟨0, by omega, rfl, Lib.hid fun n h => by omega⟩
  case round =>
    obtain ⟨j, hj, rfl, HIN⟩ := hrel
    by_cases h : j < 64
    · have d0 : decide ((j : Int) < 64) = true := dec_t (by omega)
      cases hb : m.testBit j
      · have K := KH.out j h false hb
        have HN := Lib.hid (show ∀ n, n < j + 1 → m.testBit n = true → lo ≤ (n : Int) ∧ (n : Int) ≤ hi from fun n hn ht => by
          rcases Nat.lt_or_ge n j with g | g
          · exact HIN.out n g ht
          · obtain rfl : n = j := by omega
            rw [hb] at ht; cases ht)
        clear hb HIN
        go_wp2_with fail
        refine (K _).mono ?_
        rintro e w' ⟨rfl, rfl⟩
        go_wp2
        go_round
        case rel => exact ⟨j + 1, by omega, by go_num, HN⟩
        case measure => simp [intOf]; omega
      · have K := KH.out j h true hb
        by_cases h1 : (j : Int) < lo
        · have d1 : decide ((j : Int) < lo) = true := dec_t h1
          have HE := Lib.hid (HF.out j h hb (by omega))
          clear hb HIN h1
          go_wp2_with fail
          refine (K _).mono ?_
          rintro e w' ⟨rfl, rfl⟩
          go_wp2
          go_ret
          exact ⟨by rw [HE.out]; rfl, rfl⟩
        · have d1 : decide ((j : Int) < lo) = false := dec_n h1
          by_cases h2 : hi < (j : Int)
          · have d2 : decide (hi < (j : Int)) = true := dec_t h2
            have HE := Lib.hid (HF.out j h hb (by omega))
            clear hb HIN h1 h2
            go_wp2_with fail
            refine (K _).mono ?_
            rintro e w' ⟨rfl, rfl⟩
            go_wp2
            go_ret
            exact ⟨by rw [HE.out]; rfl, rfl⟩
          · have d2 : decide (hi < (j : Int)) = false := dec_n h2
            have HN := Lib.hid (show ∀ n, n < j + 1 → m.testBit n = true → lo ≤ (n : Int) ∧ (n : Int) ≤ hi from fun n hn ht => by
              rcases Nat.lt_or_ge n j with g | g
              · exact HIN.out n g ht
              · obtain rfl : n = j := by omega
                omega)
            clear hb HIN h1 h2
            go_wp2_with fail
            refine (K _).mono ?_
            rintro e w' ⟨rfl, rfl⟩
            go_wp2
            go_round
            case rel => exact ⟨j + 1, by omega, by go_num, HN⟩
            case measure => simp [intOf]; omega
    · have d0 : decide ((j : Int) < 64) = false := dec_n (by omega)
      have HE := Lib.hid (HT.out fun n hn ht => HIN.out n (by omega) ht)
      clear HIN
      go_wp2
      go_ret
      exact ⟨by rw [HE.out]; rfl, rfl⟩
/-- what of a mask is beyond another one -/
def ovr (m b : Nat) : Nat := m &&& (18446744073709551615 - b)
theorem ovr_nat (m b : Nat) (hm : m < 18446744073709551616) (hb : b < 18446744073709551616) : bits BinOp.andNot IntKind.u64 (m : Int) (b : Int) = ((ovr m b : Nat) : Int) := u64_andNot_nat m b hm hb
theorem ovr_lt (m b : Nat) (hm : m < 18446744073709551616) : ovr m b < 18446744073709551616 := Nat.lt_of_le_of_lt Nat.and_le_left hm
theorem ovr_bit (m b : Nat) (hb : b < 18446744073709551616) (i : Nat) : (ovr m b).testBit i = (m.testBit i && (decide (i < 64) && !b.testBit i)) := by
  unfold ovr
  rw [Nat.testBit_and]
  rw [show 18446744073709551615 - b = 2 ^ 64 - (b + 1) by omega, Nat.testBit_two_pow_sub_succ (show b < 2 ^ 64 by omega)]
theorem ovr_zero (m b : Nat) (hm : m < 18446744073709551616) (hb : b < 18446744073709551616) (lo hi : Int) (h : ∀ n, n < 64 → b.testBit n = decide (lo ≤ (n : Int) ∧ (n : Int) ≤ hi)) : ovr m b = 0 ↔ bitsI m lo hi = true := by
  rw [bitsI_iff]
  constructor
  · intro h0 n hn ht
    have q := ovr_bit m b hb n
    rw [h0, Nat.zero_testBit, ht, decide_eq_true hn, h n hn] at q
    simpa using q
  · intro h1
    refine Nat.eq_of_testBit_eq fun i => ?_
    rw [ovr_bit m b hb i, Nat.zero_testBit]
    by_cases hi' : i < 64
    · rw [h i hi']
      cases ht : m.testBit i
      · rfl
      · rw [decide_eq_true (h1 i hi' ht)]; simp
    · rw [dec_n hi']; simp
theorem ovr_or (a b c : Nat) : ovr (a ||| b) c = ovr a c ||| ovr b c := by unfold ovr; exact Nat.and_or_distrib_right _ _ _
theorem or_zero (a b : Nat) : a ||| b = 0 ↔ a = 0 ∧ b = 0 := Nat.or_eq_zero_iff
/-- are the seven masks of a clause as they may be? -/
def masks7 (s m h mo d e wk : Nat) : Bool := bitsI s 0 59 && (bitsI m 0 59 && (bitsI h 0 23 && (bitsI mo 1 12 && (bitsI d 1 31 && (bitsI e 1 31 && bitsI wk 1 7)))))
def over7 (s m h mo d e wk : Nat) : Nat := ((((ovr (s ||| m) 1152921504606846975) ||| ovr h 16777215) ||| ovr mo 8190) ||| ovr (d ||| e) 4294967294) ||| ovr wk 254
theorem over7_zero (s m h mo d e wk : Nat) (h1 : s < 18446744073709551616) (h2 : m < 18446744073709551616) (h3 : h < 18446744073709551616) (h4 : mo < 18446744073709551616) (h5 : d < 18446744073709551616) (h6 : e < 18446744073709551616) (h7 : wk < 18446744073709551616) : over7 s m h mo d e wk = 0 ↔ masks7 s m h mo d e wk = true := by
  unfold over7 masks7
  simp only [ovr_or, or_zero, Bool.and_eq_true]
  rw [ovr_zero s _ h1 (by decide) 0 59 (by decide +kernel), ovr_zero m _ h2 (by decide) 0 59 (by decide +kernel), ovr_zero h _ h3 (by decide) 0 23 (by decide +kernel), ovr_zero mo _ h4 (by decide) 1 12 (by decide +kernel), ovr_zero d _ h5 (by decide) 1 31 (by decide +kernel), ovr_zero e _ h6 (by decide) 1 31 (by decide +kernel), ovr_zero wk _ h7 (by decide) 1 7 (by decide +kernel)]
  constructor
  · rintro ⟨⟨⟨⟨⟨a, b⟩, c⟩, d⟩, e, f⟩, g⟩
    exact ⟨a, b, c, d, e, f, g⟩
  · rintro ⟨a, b, c, d, e, f, g⟩
    exact ⟨⟨⟨⟨⟨a, b⟩, c⟩, d⟩, e, f⟩, g⟩
end Go.Proofs.YtjdoknbmnokkdaaDoor
namespace Go.Proofs.YtjdoknbmnokkdaaDoor
open Go.RowKit
set_option linter.unusedVariables false

/-- the eight words of an Ord -/
def c8 (D : Nat → Nat) : Array Value := #[.int .u64 (D 0 : Nat), .int .u64 (D 1 : Nat), .int .u64 (D 2 : Nat), .int .u64 (D 3 : Nat), .int .u64 (D 4 : Nat), .int .u64 (D 5 : Nat), .int .u64 (D 6 : Nat), .int .u64 (D 7 : Nat)]
def ordC (n : Int) (b : Bool) (D : Nat → Nat) : Array Value := #[.int .i64 n, .bool b, .int .u64 (D 0 : Nat), .int .u64 (D 1 : Nat), .int .u64 (D 2 : Nat), .int .u64 (D 3 : Nat), .int .u64 (D 4 : Nat), .int .u64 (D 5 : Nat), .int .u64 (D 6 : Nat), .int .u64 (D 7 : Nat)]
def ordV (n : Int) (b : Bool) (D : Nat → Nat) : Value := .agg (ordC n b D)
theorem ordC_get (n : Int) (b : Bool) (D : Nat → Nat) (j : Nat) (hj : j < 8) : (ordC n b D)[2 + j]? = some (.int .u64 (D j : Nat)) := by
  match j, hj with
  | 0, _ => rfl
  | 1, _ => rfl
  | 2, _ => rfl
  | 3, _ => rfl
  | 4, _ => rfl
  | 5, _ => rfl
  | 6, _ => rfl
  | 7, _ => rfl
def days8 (D : Nat → Nat) (hi : Int) : Bool := decide (D 0 = 0) && (List.range 8).all fun i => decide (i = 0) || bitsI (D i) 1 hi
theorem days8_iff {D : Nat → Nat} {hi : Int} : days8 D hi = true ↔ D 0 = 0 ∧ ∀ i, 1 ≤ i → i < 8 → bitsI (D i) 1 hi = true := by
  unfold days8
  rw [Bool.and_eq_true, decide_eq_true_eq, List.all_eq_true]
  refine and_congr_right fun _ => ⟨fun h i h1 h2 => ?_, fun h i hi' => ?_⟩
  · have := h i (List.mem_range.2 h2)
    rw [dec_n (show ¬ i = 0 by omega)] at this
    simpa using this
  · by_cases e : i = 0
    · rw [dec_t e]; rfl
    · rw [h i (by omega) (List.mem_range.1 hi')]; simp
theorem days8_no {D : Nat → Nat} {hi : Int} (h : ¬ (D 0 = 0 ∧ ∀ i, 1 ≤ i → i < 8 → bitsI (D i) 1 hi = true)) : days8 D hi = false := by
  cases e : days8 D hi
  · rfl
  · exact absurd (days8_iff.1 e) h
set_option maxHeartbeats 1600000 in
set_option maxRecDepth 20000 in
theorem ord13_in (n hi : Int) (b : Bool) (D : Nat → Nat) (hc : (n = 0 ∧ b = false ∧ hi = 0) ∨ (n = 1 ∧ hi = 5) ∨ (n = 2 ∧ hi = 53)) (hD : ∀ i, D i < 18446744073709551616) (w : World) : Calls Tryd.prog 147 #[ordV n b D] w fun e w' => e = .returned (.bool (days8 D hi)) ∧ Below w.heap.size w w' := by
  have KB := Lib.hid (fun (j : Nat) (W : World) => bits13_any (D j) 1 hi (hD j) W)
  have HT := Lib.hid (show D 0 = 0 → (∀ i, 1 ≤ i → i < 8 → bitsI (D i) 1 hi = true) → days8 D hi = true from fun h1 h2 => days8_iff.2 ⟨h1, h2⟩)
  have HF0 := Lib.hid (show ¬ D 0 = 0 → days8 D hi = false from fun h => days8_no fun q => h q.1)
  have HF := Lib.hid (show ∀ i, 1 ≤ i → i < 8 → bitsI (D i) 1 hi = false → days8 D hi = false from fun i h1 h2 h3 => days8_no fun q => by rw [q.2 i h1 h2] at h3; cases h3)
  have HB0 := Lib.hid (show Below w.heap.size w (w.alloc (.cells (ordC n b D) 51)) from (Below.refl _ _).alloc (Nat.le_refl _) _)
  have HG0 := Lib.hid (blk_new w (.cells (ordC n b D) 51))
  have x0 := blk_cell HG0.out 0
  have x1 := blk_cell HG0.out 1
  have x2 := blk_cell HG0.out 2
  have HX := Lib.hid (fun (j : Nat) (hj : j < 8) => (blk_cell HG0.out (2 + j)).trans (ordC_get n b D j hj))
  rw [show (ordC n b D)[0]? = some (.int .i64 n) from rfl] at x0
  rw [show (ordC n b D)[1]? = some (.bool b) from rfl] at x1
  rw [show (ordC n b D)[2]? = some (.int .u64 (D 0 : Nat)) from rfl] at x2
  generalize days8 D hi = bb at HT HF HF0 ⊢
  obtain ⟨W0, hW0⟩ : ∃ W0, w.alloc (.cells (ordC n b D) 51) = W0 := ⟨_, rfl⟩
  rw [hW0] at HB0 HG0 x0 x1 x2 HX
  unfold ordV ordC
  unfold ordC at hW0
  clear hD
  by_cases h0 : D 0 = 0
  · have z0 : ((D 0 : Nat) : Int) = 0 := by omega
    rcases hc with ⟨rfl, rfl, rfl⟩ | ⟨rfl, rfl⟩ | ⟨rfl, rfl⟩
    · clear HF0
      have HT1 := Lib.hid (HT.out h0)
      rw [z0] at x2
      clear h0 z0 HT
      go_enter Tryd.func147, Tryd.ntmps147
      go_wp2_with fail
      try rw [hW0]
      clear hW0 x0 x1 x2
      go_loop [4] (fun i => ∃ j : Nat, 1 ≤ j ∧ j ≤ 8 ∧ i = .int .i64 j ∧ Hid (∀ k, 1 ≤ k → k < j → bitsI (D k) 1 0 = true)) (fun i => 8 - (intOf i).toNat)
      case atStart => exact ⟨1, by omega, by omega, rfl, Lib.hid fun k h1 h2 => by omega⟩
      case round =>
        obtain ⟨j, hj1, hj, rfl, HIN⟩ := hrel
        by_cases h : j < 8
        · have d0 : decide ((j : Int) < 8) = true := dec_t (by omega)
          have x := HX.out j h
          have d1 : decide ((j : Int) < 0) = false := dec_n (by omega)
          cases hb : bitsI (D j) 1 0
          · have HE := Lib.hid (HF.out j hj1 h hb)
            have K := KB.out j
            rw [hb] at K
            clear hb HIN
            go_wp2_with fail
            refine (K _).mono ?_
            rintro e w' ⟨rfl, rfl⟩
            go_wp2
            go_ret
            exact ⟨by rw [HE.out]; rfl, HB0.out⟩
          · have K := KB.out j
            rw [hb] at K
            have HN := Lib.hid (show ∀ k, 1 ≤ k → k < j + 1 → bitsI (D k) 1 0 = true from fun k h1 h2 => by
              rcases Nat.lt_or_ge k j with g | g
              · exact HIN.out k h1 g
              · obtain rfl : k = j := by omega
                exact hb)
            clear hb HIN
            go_wp2_with fail
            refine (K _).mono ?_
            rintro e w' ⟨rfl, rfl⟩
            go_wp2
            go_round
            case rel => exact ⟨j + 1, by omega, by omega, by go_num, HN⟩
            case measure => simp [intOf]; omega
        · have d0 : decide ((j : Int) < 8) = false := dec_n (by omega)
          have HE := Lib.hid (HT1.out fun k h1 h2 => HIN.out k h1 (by omega))
          clear HIN
          go_wp2
          go_ret
          exact ⟨by rw [HE.out]; rfl, HB0.out⟩
    · clear HF0
      have HT1 := Lib.hid (HT.out h0)
      rw [z0] at x2
      clear h0 z0 HT
      go_enter Tryd.func147, Tryd.ntmps147
      go_wp2_with fail
      try rw [hW0]
      clear hW0 x0 x1 x2
      go_loop [4] (fun i => ∃ j : Nat, 1 ≤ j ∧ j ≤ 8 ∧ i = .int .i64 j ∧ Hid (∀ k, 1 ≤ k → k < j → bitsI (D k) 1 5 = true)) (fun i => 8 - (intOf i).toNat)
      case atStart => exact ⟨1, by omega, by omega, rfl, Lib.hid fun k h1 h2 => by omega⟩
      case round =>
        obtain ⟨j, hj1, hj, rfl, HIN⟩ := hrel
        by_cases h : j < 8
        · have d0 : decide ((j : Int) < 8) = true := dec_t (by omega)
          have x := HX.out j h
          have d1 : decide ((j : Int) < 0) = false := dec_n (by omega)
          cases hb : bitsI (D j) 1 5
          · have HE := Lib.hid (HF.out j hj1 h hb)
            have K := KB.out j
            rw [hb] at K
            clear hb HIN
            go_wp2_with fail
            refine (K _).mono ?_
            rintro e w' ⟨rfl, rfl⟩
            go_wp2
            go_ret
            exact ⟨by rw [HE.out]; rfl, HB0.out⟩
          · have K := KB.out j
            rw [hb] at K
            have HN := Lib.hid (show ∀ k, 1 ≤ k → k < j + 1 → bitsI (D k) 1 5 = true from fun k h1 h2 => by
              rcases Nat.lt_or_ge k j with g | g
              · exact HIN.out k h1 g
              · obtain rfl : k = j := by omega
                exact hb)
            clear hb HIN
            go_wp2_with fail
            refine (K _).mono ?_
            rintro e w' ⟨rfl, rfl⟩
            go_wp2
            go_round
            case rel => exact ⟨j + 1, by omega, by omega, by go_num, HN⟩
            case measure => simp [intOf]; omega
        · have d0 : decide ((j : Int) < 8) = false := dec_n (by omega)
          have HE := Lib.hid (HT1.out fun k h1 h2 => HIN.out k h1 (by omega))
          clear HIN
          go_wp2
          go_ret
          exact ⟨by rw [HE.out]; rfl, HB0.out⟩
    · clear HF0
      have HT1 := Lib.hid (HT.out h0)
      rw [z0] at x2
      clear h0 z0 HT
      go_enter Tryd.func147, Tryd.ntmps147
      go_wp2_with fail
      try rw [hW0]
      clear hW0 x0 x1 x2
      go_loop [4] (fun i => ∃ j : Nat, 1 ≤ j ∧ j ≤ 8 ∧ i = .int .i64 j ∧ Hid (∀ k, 1 ≤ k → k < j → bitsI (D k) 1 53 = true)) (fun i => 8 - (intOf i).toNat)
      case atStart => exact ⟨1, by omega, by omega, rfl, Lib.hid fun k h1 h2 => by omega⟩
      case round =>
        obtain ⟨j, hj1, hj, rfl, HIN⟩ := hrel
        by_cases h : j < 8
        · have d0 : decide ((j : Int) < 8) = true := dec_t (by omega)
          have x := HX.out j h
          have d1 : decide ((j : Int) < 0) = false := dec_n (by omega)
          cases hb : bitsI (D j) 1 53
          · have HE := Lib.hid (HF.out j hj1 h hb)
            have K := KB.out j
            rw [hb] at K
            clear hb HIN
            go_wp2_with fail
            refine (K _).mono ?_
            rintro e w' ⟨rfl, rfl⟩
            go_wp2
            go_ret
            exact ⟨by rw [HE.out]; rfl, HB0.out⟩
          · have K := KB.out j
            rw [hb] at K
            have HN := Lib.hid (show ∀ k, 1 ≤ k → k < j + 1 → bitsI (D k) 1 53 = true from fun k h1 h2 => by
              rcases Nat.lt_or_ge k j with g | g
              · exact HIN.out k h1 g
              · obtain rfl : k = j := by omega
                exact hb)
            clear hb HIN
            go_wp2_with fail
            refine (K _).mono ?_
            rintro e w' ⟨rfl, rfl⟩
            go_wp2
            go_round
            case rel => exact ⟨j + 1, by omega, by omega, by go_num, HN⟩
            case measure => simp [intOf]; omega
        · have d0 : decide ((j : Int) < 8) = false := dec_n (by omega)
          have HE := Lib.hid (HT1.out fun k h1 h2 => HIN.out k h1 (by omega))
          clear HIN
          go_wp2
          go_ret
          exact ⟨by rw [HE.out]; rfl, HB0.out⟩
  · have HE := Lib.hid (HF0.out h0)
    have z0 : (((D 0 : Nat) : Int) != 0) = true := by rw [bne_iff_ne]; omega
    have z1 : (D 0 != 0) = true := by rw [bne_iff_ne]; omega
    clear HF0 h0 HT HF HX KB
    rcases hc with ⟨rfl, rfl, rfl⟩ | ⟨rfl, rfl⟩ | ⟨rfl, rfl⟩
    all_goals
      go_enter Tryd.func147, Tryd.ntmps147
      go_wp2
      go_ret
      exact ⟨by rw [HE.out]; rfl, HB0.out⟩
end Go.Proofs.YtjdoknbmnokkdaaDoor
namespace Go.Proofs.YtjdoknbmnokkdaaDoor
open Go.RowKit
set_option linter.unusedVariables false

def ordB (n : Int) (b : Bool) (D : Nat → Nat) : Bool := if n = 0 then !b && days8 D 0 else if n = 1 then days8 D 5 else if n = 2 then days8 D 53 else false
set_option maxHeartbeats 800000 in
set_option maxRecDepth 20000 in
theorem ord13_out (n : Int) (b : Bool) (D : Nat → Nat) (hc : (n = 0 ∧ b = true) ∨ n < 0 ∨ 2 < n) (w : World) : Calls Tryd.prog 147 #[ordV n b D] w fun e w' => e = .returned (.bool false) ∧ Below w.heap.size w w' := by
  have HB0 := Lib.hid (show Below w.heap.size w (w.alloc (.cells (ordC n b D) 51)) from (Below.refl _ _).alloc (Nat.le_refl _) _)
  unfold ordC at HB0
  unfold ordV ordC
  rcases hc with ⟨rfl, rfl⟩ | h | h
  · go_enter Tryd.func147, Tryd.ntmps147
    go_wp2
    go_ret
    exact ⟨rfl, HB0.out⟩
  · have d1 : decide (n < 0) = true := dec_t h
    have e0 : (n == 0) = false := by rw [beq_eq_false_iff_ne]; omega
    have e2 : (n == 2) = false := by rw [beq_eq_false_iff_ne]; omega
    clear h
    go_enter Tryd.func147, Tryd.ntmps147
    go_wp2
    go_ret
    exact ⟨rfl, HB0.out⟩
  · have d1 : decide (n < 0) = false := dec_n (by omega)
    have d2 : decide (2 < n) = true := dec_t h
    have e0 : (n == 0) = false := by rw [beq_eq_false_iff_ne]; omega
    have e2 : (n == 2) = false := by rw [beq_eq_false_iff_ne]; omega
    clear h
    go_enter Tryd.func147, Tryd.ntmps147
    go_wp2
    go_ret
    exact ⟨rfl, HB0.out⟩
theorem ord13_any (n : Int) (b : Bool) (D : Nat → Nat) (hD : ∀ i, D i < 18446744073709551616) (w : World) : Calls Tryd.prog 147 #[ordV n b D] w fun e w' => e = .returned (.bool (ordB n b D)) ∧ Below w.heap.size w w' := by
  unfold ordB
  by_cases h0 : n = 0
  · rw [if_pos h0]
    cases b
    · exact ord13_in n 0 false D (.inl ⟨h0, rfl, rfl⟩) hD w
    · exact ord13_out n true D (.inl ⟨h0, rfl⟩) w
  · rw [if_neg h0]
    by_cases h1 : n = 1
    · rw [if_pos h1]
      exact ord13_in n 5 b D (.inr (.inl ⟨h1, rfl⟩)) hD w
    · rw [if_neg h1]
      by_cases h2 : n = 2
      · rw [if_pos h2]
        exact ord13_in n 53 b D (.inr (.inr ⟨h2, rfl⟩)) hD w
      · rw [if_neg h2]
        exact ord13_out n b D (.inr (by omega)) w
theorem bits_none (m : Nat) (hm : m < 18446744073709551616) : bitsI m 1 0 = true ↔ m = 0 := by
  rw [bitsI_iff]
  constructor
  · intro h
    refine Nat.eq_of_testBit_eq fun i => ?_
    rw [Nat.zero_testBit]
    by_cases hi : i < 64
    · cases ht : m.testBit i
      · rfl
      · have := h i hi ht; omega
    · exact Nat.testBit_lt_two_pow (Nat.lt_of_lt_of_le (show m < 2 ^ 64 by omega) (Nat.pow_le_pow_right (by omega) (by omega)))
  · rintro rfl n _ ht
    rw [Nat.zero_testBit] at ht; cases ht
/-- is an Ord the one that says nothing? -/
theorem days8_zero (D : Nat → Nat) (hD : ∀ i, D i < 18446744073709551616) : days8 D 0 = decide (D 0 = 0 ∧ D 1 = 0 ∧ D 2 = 0 ∧ D 3 = 0 ∧ D 4 = 0 ∧ D 5 = 0 ∧ D 6 = 0 ∧ D 7 = 0) := by
  rw [Bool.eq_iff_iff, days8_iff, decide_eq_true_eq]
  constructor
  · rintro ⟨h, h2⟩
    exact ⟨h, (bits_none _ (hD _)).1 (h2 1 (by omega) (by omega)), (bits_none _ (hD _)).1 (h2 2 (by omega) (by omega)), (bits_none _ (hD _)).1 (h2 3 (by omega) (by omega)), (bits_none _ (hD _)).1 (h2 4 (by omega) (by omega)), (bits_none _ (hD _)).1 (h2 5 (by omega) (by omega)), (bits_none _ (hD _)).1 (h2 6 (by omega) (by omega)), (bits_none _ (hD _)).1 (h2 7 (by omega) (by omega))⟩
  · rintro ⟨h0, h1, h2, h3, h4, h5, h6, h7⟩
    refine ⟨h0, fun i hi1 hi2 => (bits_none _ (hD _)).2 ?_⟩
    match i, hi1, hi2 with
    | 1, _, _ => exact h1
    | 2, _, _ => exact h2
    | 3, _, _ => exact h3
    | 4, _, _ => exact h4
    | 5, _, _ => exact h5
    | 6, _, _ => exact h6
    | 7, _, _ => exact h7
theorem guard_ord : Tryd.prog.eqGuardType Tryd.prog.depth 51 = false := by kernel_rfl
theorem c8_get (D : Nat → Nat) (j : Nat) (hj : j < 8) : (c8 D)[j]? = some (.int .u64 (D j : Nat)) := by
  match j, hj with
  | 0, _ => rfl
  | 1, _ => rfl
  | 2, _ => rfl
  | 3, _ => rfl
  | 4, _ => rfl
  | 5, _ => rfl
  | 6, _ => rfl
  | 7, _ => rfl
theorem idx8 (D : Nat → Nat) (j : Nat) (hj : j < 8) (w : World) : (Instr.index 49 (.agg (c8 D)) (.int .i64 j)).run Tryd.prog w = .ok (.int .u64 (D j : Nat)) w := by
  have hu := Tryd.underlying49
  have he := Tryd.underlying24
  obtain ⟨i, hi⟩ := Option.isSome_iff_exists.1 (show (Tryd.prog.info? 24).isSome = true by kernel_rfl)
  have hs : i.size = 1 := by
    have h := show (Tryd.prog.info? 24).map (·.size) = some 1 by kernel_rfl
    rw [hi] at h
    simpa using h
  have hz := fun w => run_sizeOf (P := Tryd.prog) w hi
  have hn : 0 ≤ (j : Int) ∧ (j : Int) < 8 := by omega
  have hg := c8_get D j hj
  simp [Instr.index, run_underlying hu, asIntOf, hz, go_sem, part, isAgg, run_underlying he, Program.cellsOf, hi, hs, hg, hj]
set_option maxRecDepth 100000 in
theorem eq8z (a0 a1 a2 a3 a4 a5 a6 a7 : Nat) (w : World) : (Op.equalIn 9999 49 (.agg #[.int .u64 (a0 : Nat), .int .u64 (a1 : Nat), .int .u64 (a2 : Nat), .int .u64 (a3 : Nat), .int .u64 (a4 : Nat), .int .u64 (a5 : Nat), .int .u64 (a6 : Nat), .int .u64 (a7 : Nat)]) (.agg #[.int .u64 0, .int .u64 0, .int .u64 0, .int .u64 0, .int .u64 0, .int .u64 0, .int .u64 0, .int .u64 0])).run Tryd.prog w = .ok (decide (a0 = 0 ∧ a1 = 0 ∧ a2 = 0 ∧ a3 = 0 ∧ a4 = 0 ∧ a5 = 0 ∧ a6 = 0 ∧ a7 = 0)) w := by
  have u3 := Tryd.underlying24
  have hS := Tryd.underlying49
  obtain ⟨i, hi⟩ := Option.isSome_iff_exists.1 (show (Tryd.prog.info? 24).isSome = true by kernel_rfl)
  rw [show (9999 : Nat) = 9998 + 1 from rfl, run_equalIn_array w 9998 _ _ hS hi, show Tryd.prog.cellsOf 24 = 1 by kernel_rfl, show List.range 8 = [0, 1, 2, 3, 4, 5, 6, 7] by decide]
  have hc : ∀ a : Nat, (((a : Nat) : Int) == 0) = decide (a = 0) := fun a => by
    rw [Bool.eq_iff_iff, beq_iff_eq, decide_eq_true_eq]; omega
  simp only [Op.eqItems]
  go_simp
  repeat' split
  all_goals simp [*]
set_option maxRecDepth 100000 in
theorem eq_ord (n : Int) (b : Bool) (D : Nat → Nat) (w : World) : (Op.equalIn 10000 51 (.agg (ordC n b D)) (.agg #[.int .i64 0, .bool false, .int .u64 0, .int .u64 0, .int .u64 0, .int .u64 0, .int .u64 0, .int .u64 0, .int .u64 0, .int .u64 0])).run Tryd.prog w = .ok (decide (n = 0) && (!b && decide (D 0 = 0 ∧ D 1 = 0 ∧ D 2 = 0 ∧ D 3 = 0 ∧ D 4 = 0 ∧ D 5 = 0 ∧ D 6 = 0 ∧ D 7 = 0))) w := by
  have u3 := Tryd.underlying3
  have u4 := Tryd.underlying4
  have u5 := Tryd.underlying24
  have ha := Tryd.underlying49
  have hS : Tryd.prog.underlying 51 = some (.struct (Tryd.prog.fieldsOf 51)) := by kernel_rfl
  have hp : Tryd.prog.stoodInHeld 51 = false := by kernel_rfl
  obtain ⟨i, hi⟩ := Option.isSome_iff_exists.1 (show (Tryd.prog.info? 24).isSome = true by kernel_rfl)
  have hc : ∀ a : Nat, (((a : Nat) : Int) == 0) = decide (a = 0) := fun a => by
    rw [Bool.eq_iff_iff, beq_iff_eq, decide_eq_true_eq]; omega
  have hc2 : (n == 0) = decide (n = 0) := by
    rw [Bool.eq_iff_iff, beq_iff_eq, decide_eq_true_eq]
  rw [show (10000 : Nat) = 9999 + 1 from rfl, run_equalIn_agg w 9999 51 _ _ hS hp]
  simp only [Program.fieldsOf, Tryd.underlying51]
  unfold ordC
  go_simp
  rw [eq8z]
  by_cases h0 : n = 0
  · cases b
    · cases hd : decide (D 0 = 0 ∧ D 1 = 0 ∧ D 2 = 0 ∧ D 3 = 0 ∧ D 4 = 0 ∧ D 5 = 0 ∧ D 6 = 0 ∧ D 7 = 0)
      all_goals (simp at hd; simp [h0, Result.andThen_ok, hd]; try exact hd)
    · simp [h0]
  · simp [h0]
end Go.Proofs.YtjdoknbmnokkdaaDoor
namespace Go.Proofs.YtjdoknbmnokkdaaDoor
open Go.RowKit
set_option linter.unusedVariables false
attribute [local go_sem] eq_ord guard_ord

set_option maxHeartbeats 800000 in
set_option maxRecDepth 20000 in
theorem mayOrd_zero (b : Bool) (D : Nat → Nat) (hD : ∀ i, D i < 18446744073709551616) (w : World) : Calls Tryd.prog 140 #[ordV 0 b D] w fun e w' => e = .returned (.bool (!b && days8 D 0)) ∧ Below w.heap.size w w' := by
  have HB0 := Lib.hid (show Below w.heap.size w (w.alloc (.cells (ordC 0 b D) 51)) from (Below.refl _ _).alloc (Nat.le_refl _) _)
  rw [days8_zero D hD]
  have hgd := guard_ord
  have he := fun W => eq_ord 0 b D W
  unfold ordC at HB0 he
  unfold ordV ordC
  generalize decide (D 0 = 0 ∧ D 1 = 0 ∧ D 2 = 0 ∧ D 3 = 0 ∧ D 4 = 0 ∧ D 5 = 0 ∧ D 6 = 0 ∧ D 7 = 0) = z at he ⊢
  clear hD
  go_enter Tryd.func140, Tryd.ntmps140
  go_wp2
  go_ret
  exact ⟨rfl, HB0.out⟩
set_option maxHeartbeats 800000 in
set_option maxRecDepth 20000 in
theorem mayOrd_out (n : Int) (b : Bool) (D : Nat → Nat) (hc : ¬ (n = 0 ∨ n = 1 ∨ n = 2)) (w : World) : Calls Tryd.prog 140 #[ordV n b D] w fun e w' => e = .returned (.bool false) ∧ Below w.heap.size w w' := by
  have HB0 := Lib.hid (show Below w.heap.size w (w.alloc (.cells (ordC n b D) 51)) from (Below.refl _ _).alloc (Nat.le_refl _) _)
  unfold ordC at HB0
  unfold ordV ordC
  have e0 : (n == 0) = false := by rw [beq_eq_false_iff_ne]; omega
  have e1 : (n == 1) = false := by rw [beq_eq_false_iff_ne]; omega
  have e2 : (n == 2) = false := by rw [beq_eq_false_iff_ne]; omega
  clear hc
  go_enter Tryd.func140, Tryd.ntmps140
  go_wp2
  go_ret
  exact ⟨rfl, HB0.out⟩
set_option maxHeartbeats 1600000 in
set_option maxRecDepth 20000 in
theorem mayOrd_1 (b : Bool) (D : Nat → Nat) (hD : ∀ i, D i < 18446744073709551616) (w : World) : Calls Tryd.prog 140 #[ordV 1 b D] w fun e w' => e = .returned (.bool (days8 D 5)) ∧ Below w.heap.size w w' := by
  have HT := Lib.hid (show D 0 = 0 → (∀ i, 1 ≤ i → i < 8 → bitsI (D i) 1 5 = true) → days8 D 5 = true from fun h1 h2 => days8_iff.2 ⟨h1, h2⟩)
  have HF0 := Lib.hid (show ¬ D 0 = 0 → days8 D 5 = false from fun h => days8_no fun q => h q.1)
  have HF := Lib.hid (show ∀ i, 1 ≤ i → i < 8 → ¬ bitsI (D i) 1 5 = true → days8 D 5 = false from fun i h1 h2 h3 => days8_no fun q => h3 (q.2 i h1 h2))
  have HB0 := Lib.hid (show Below w.heap.size w (w.alloc (.cells (ordC 1 b D) 51)) from (Below.refl _ _).alloc (Nat.le_refl _) _)
  have HG := Lib.hid (fun (j : Nat) (hj : j < 8) W => idx8 D j hj W)
  have HO := Lib.hid (fun (j : Nat) => ovr_zero (D j) 62 (hD j) (by decide) 1 5 (by decide +kernel))
  have HN := Lib.hid (fun (j : Nat) => show bits BinOp.andNot IntKind.u64 (D j : Int) 62 = ((ovr (D j) 62 : Nat) : Int) from ovr_nat (D j) 62 (hD j) (by decide))
  generalize days8 D 5 = bb at HT HF HF0 ⊢
  unfold ordC at HB0
  unfold c8 at HG
  unfold ordV ordC
  clear hD
  go_enter Tryd.func140, Tryd.ntmps140
  go_wp2
  go_loop [19] (fun i => ∃ j : Nat, j ≤ 8 ∧ i = .int .i64 j ∧ Hid (∀ k, k < j → (k = 0 → D 0 = 0) ∧ (1 ≤ k → bitsI (D k) 1 5 = true))) (fun i => 8 - (intOf i).toNat)
  case atStart => exact ⟨0, by omega, rfl, Lib.hid fun k h1 => by omega⟩
  case round =>
    obtain ⟨j, hj, rfl, HIN⟩ := hrel
    by_cases h : j < 8
    · have d0 : decide ((j : Int) < 8) = true := dec_t (by omega)
      have hg := HG.out j h
      have ho := HN.out j
      by_cases hz : ovr (D j) 62 = 0
      · rw [hz] at ho
        have hbt := (HO.out j).1 hz
        by_cases hj0 : j = 0
        · have e0 : ((j : Int) == 0) = true := by rw [beq_iff_eq]; omega
          by_cases hd : D 0 = 0
          · have e1 : ((D j : Int) != 0) = false := by rw [bne_eq_false_iff_eq, hj0]; omega
            have HNX := Lib.hid (show ∀ k, k < j + 1 → (k = 0 → D 0 = 0) ∧ (1 ≤ k → bitsI (D k) 1 5 = true) from fun k h1 => ⟨fun _ => hd, fun h2 => by omega⟩)
            clear hz hbt hj0 hd HIN
            go_wp2
            go_round
            case rel => exact ⟨j + 1, by omega, by go_num, HNX⟩
            case measure => simp [intOf]; omega
          · have e1 : ((D j : Int) != 0) = true := by rw [bne_iff_ne, hj0]; omega
            have HE := Lib.hid (HF0.out hd)
            clear hz hbt hj0 hd HIN
            go_wp2
            go_ret
            exact ⟨by rw [HE.out]; rfl, HB0.out⟩
        · have e0 : ((j : Int) == 0) = false := by rw [beq_eq_false_iff_ne]; omega
          have HNX := Lib.hid (show ∀ k, k < j + 1 → (k = 0 → D 0 = 0) ∧ (1 ≤ k → bitsI (D k) 1 5 = true) from fun k h1 => by
            rcases Nat.lt_or_ge k j with g | g
            · exact HIN.out k g
            · obtain rfl : k = j := by omega
              exact ⟨fun q => absurd q hj0, fun _ => hbt⟩)
          clear hz hbt hj0 HIN
          go_wp2
          go_round
          case rel => exact ⟨j + 1, by omega, by go_num, HNX⟩
          case measure => simp [intOf]; omega
      · have HE := Lib.hid (show bb = false by
          by_cases hj0 : j = 0
          · subst hj0
            refine HF0.out fun q => hz ?_
            rw [q]; exact Nat.zero_and _
          · exact HF.out j (by omega) h fun q => hz ((HO.out j).2 q))
        have e1 : (((ovr (D j) 62 : Nat) : Int) != 0) = true := by rw [bne_iff_ne]; omega
        generalize ovr (D j) 62 = x at ho e1 hz
        clear hz HIN
        go_wp2
        go_ret
        exact ⟨by rw [HE.out]; rfl, HB0.out⟩
    · have d0 : decide ((j : Int) < 8) = false := dec_n (by omega)
      have HE := Lib.hid (HT.out ((HIN.out 0 (by omega)).1 rfl) fun k h1 h2 => (HIN.out k (by omega)).2 h1)
      clear HIN
      go_wp2
      go_ret
      exact ⟨by rw [HE.out]; rfl, HB0.out⟩
set_option maxHeartbeats 1600000 in
set_option maxRecDepth 20000 in
theorem mayOrd_2 (b : Bool) (D : Nat → Nat) (hD : ∀ i, D i < 18446744073709551616) (w : World) : Calls Tryd.prog 140 #[ordV 2 b D] w fun e w' => e = .returned (.bool (days8 D 53)) ∧ Below w.heap.size w w' := by
  have HT := Lib.hid (show D 0 = 0 → (∀ i, 1 ≤ i → i < 8 → bitsI (D i) 1 53 = true) → days8 D 53 = true from fun h1 h2 => days8_iff.2 ⟨h1, h2⟩)
  have HF0 := Lib.hid (show ¬ D 0 = 0 → days8 D 53 = false from fun h => days8_no fun q => h q.1)
  have HF := Lib.hid (show ∀ i, 1 ≤ i → i < 8 → ¬ bitsI (D i) 1 53 = true → days8 D 53 = false from fun i h1 h2 h3 => days8_no fun q => h3 (q.2 i h1 h2))
  have HB0 := Lib.hid (show Below w.heap.size w (w.alloc (.cells (ordC 2 b D) 51)) from (Below.refl _ _).alloc (Nat.le_refl _) _)
  have HG := Lib.hid (fun (j : Nat) (hj : j < 8) W => idx8 D j hj W)
  have HO := Lib.hid (fun (j : Nat) => ovr_zero (D j) 18014398509481982 (hD j) (by decide) 1 53 (by decide +kernel))
  have HN := Lib.hid (fun (j : Nat) => show bits BinOp.andNot IntKind.u64 (D j : Int) 18014398509481982 = ((ovr (D j) 18014398509481982 : Nat) : Int) from ovr_nat (D j) 18014398509481982 (hD j) (by decide))
  generalize days8 D 53 = bb at HT HF HF0 ⊢
  unfold ordC at HB0
  unfold c8 at HG
  unfold ordV ordC
  clear hD
  go_enter Tryd.func140, Tryd.ntmps140
  go_wp2
  go_loop [19] (fun i => ∃ j : Nat, j ≤ 8 ∧ i = .int .i64 j ∧ Hid (∀ k, k < j → (k = 0 → D 0 = 0) ∧ (1 ≤ k → bitsI (D k) 1 53 = true))) (fun i => 8 - (intOf i).toNat)
  case atStart => exact ⟨0, by omega, rfl, Lib.hid fun k h1 => by omega⟩
  case round =>
    obtain ⟨j, hj, rfl, HIN⟩ := hrel
    by_cases h : j < 8
    · have d0 : decide ((j : Int) < 8) = true := dec_t (by omega)
      have hg := HG.out j h
      have ho := HN.out j
      by_cases hz : ovr (D j) 18014398509481982 = 0
      · rw [hz] at ho
        have hbt := (HO.out j).1 hz
        by_cases hj0 : j = 0
        · have e0 : ((j : Int) == 0) = true := by rw [beq_iff_eq]; omega
          by_cases hd : D 0 = 0
          · have e1 : ((D j : Int) != 0) = false := by rw [bne_eq_false_iff_eq, hj0]; omega
            have HNX := Lib.hid (show ∀ k, k < j + 1 → (k = 0 → D 0 = 0) ∧ (1 ≤ k → bitsI (D k) 1 53 = true) from fun k h1 => ⟨fun _ => hd, fun h2 => by omega⟩)
            clear hz hbt hj0 hd HIN
            go_wp2
            go_round
            case rel => exact ⟨j + 1, by omega, by go_num, HNX⟩
            case measure => simp [intOf]; omega
          · have e1 : ((D j : Int) != 0) = true := by rw [bne_iff_ne, hj0]; omega
            have HE := Lib.hid (HF0.out hd)
            clear hz hbt hj0 hd HIN
            go_wp2
            go_ret
            exact ⟨by rw [HE.out]; rfl, HB0.out⟩
        · have e0 : ((j : Int) == 0) = false := by rw [beq_eq_false_iff_ne]; omega
          have HNX := Lib.hid (show ∀ k, k < j + 1 → (k = 0 → D 0 = 0) ∧ (1 ≤ k → bitsI (D k) 1 53 = true) from fun k h1 => by
            rcases Nat.lt_or_ge k j with g | g
            · exact HIN.out k g
            · obtain rfl : k = j := by omega
              exact ⟨fun q => absurd q hj0, fun _ => hbt⟩)
          clear hz hbt hj0 HIN
          go_wp2
          go_round
          case rel => exact ⟨j + 1, by omega, by go_num, HNX⟩
          case measure => simp [intOf]; omega
      · have HE := Lib.hid (show bb = false by
          by_cases hj0 : j = 0
          · subst hj0
            refine HF0.out fun q => hz ?_
            rw [q]; exact Nat.zero_and _
          · exact HF.out j (by omega) h fun q => hz ((HO.out j).2 q))
        have e1 : (((ovr (D j) 18014398509481982 : Nat) : Int) != 0) = true := by rw [bne_iff_ne]; omega
        generalize ovr (D j) 18014398509481982 = x at ho e1 hz
        clear hz HIN
        go_wp2
        go_ret
        exact ⟨by rw [HE.out]; rfl, HB0.out⟩
    · have d0 : decide ((j : Int) < 8) = false := dec_n (by omega)
      have HE := Lib.hid (HT.out ((HIN.out 0 (by omega)).1 rfl) fun k h1 h2 => (HIN.out k (by omega)).2 h1)
      clear HIN
      go_wp2
      go_ret
      exact ⟨by rw [HE.out]; rfl, HB0.out⟩
theorem mayOrd_any (n : Int) (b : Bool) (D : Nat → Nat) (hD : ∀ i, D i < 18446744073709551616) (w : World) : Calls Tryd.prog 140 #[ordV n b D] w fun e w' => e = .returned (.bool (ordB n b D)) ∧ Below w.heap.size w w' := by
  unfold ordB
  by_cases h0 : n = 0
  · rw [if_pos h0, h0]; exact mayOrd_zero b D hD w
  · rw [if_neg h0]
    by_cases h1 : n = 1
    · rw [if_pos h1, h1]; exact mayOrd_1 b D hD w
    · rw [if_neg h1]
      by_cases h2 : n = 2
      · rw [if_pos h2, h2]; exact mayOrd_2 b D hD w
      · rw [if_neg h2]; exact mayOrd_out n b D (by omega) w
end Go.Proofs.YtjdoknbmnokkdaaDoor
