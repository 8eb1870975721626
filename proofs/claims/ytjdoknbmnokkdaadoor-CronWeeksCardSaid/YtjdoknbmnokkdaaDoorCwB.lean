/- The weekdays of items: cron.Weekdays and the document's own (layer 24). -/
import Derived.Test.YtjdoknbmnokkdaaDoorCwA
import Derived.Test.YtjdoknbmnokkdaaDoorCrA
import Derived.Test.YtjdoknbmnokkdaaDoorMask5
namespace Go.Proofs.YtjdoknbmnokkdaaDoor
open Go.RowKit
set_option linter.unusedVariables false

theorem in_vals24 (lo hi : Int) (qs : List Q4) (j : Nat) (h : lo ≤ (j : Int)) : qs.any (inQ lo hi (j : Int)) = valsP lo hi qs j := by
  unfold valsP
  rw [dec_t h]; rfl
/-- is a number one of the items of a week? -/
def wkQ (qs : List Q4) (j : Nat) : Bool := qs.any (inQ 0 7 (j : Int))
def wkF (Q : Nat → Bool) (i : Nat) : Bool := decide (1 ≤ i ∧ i < 8) && (Q i || (decide (i = 7) && Q 0))
theorem vals_len (qs : List Q4) : (valsL 0 7 qs).length ≤ 1000000 := by
  have e : valsL 0 7 qs = numsP (valsP 0 7 qs) 8 := rfl
  rw [e]
  exact Nat.le_trans (numsP_le _ _) (by decide)
theorem vals_in (qs : List Q4) (i : Nat) : inL (valsL 0 7 qs) i = (decide (i < 8) && wkQ qs i) := by
  have e : valsL 0 7 qs = numsP (valsP 0 7 qs) 8 := rfl
  unfold inL wkQ
  rw [e, in_vals24 0 7 qs i (by omega)]
  by_cases h : i < 8
  · rw [dec_t h, Bool.true_and]
    cases hv : valsP 0 7 qs i
    · refine dec_n fun hm => ?_
      obtain ⟨j, _, h2, h3⟩ := mem_numsP.1 hm
      obtain rfl : i = j := by omega
      rw [hv] at h2; cases h2
    · exact dec_t (mem_numsP.2 ⟨i, h, hv, rfl⟩)
  · rw [dec_n h, Bool.false_and]
    refine dec_n fun hm => ?_
    obtain ⟨j, h1, _, h3⟩ := mem_numsP.1 hm
    omega
theorem or_natW (a b : Nat) (ha : a < 18446744073709551616) (hb : b < 18446744073709551616) : bits BinOp.or IntKind.u64 ((a : Nat) : Int) ((b : Nat) : Int) = ((a ||| b : Nat) : Int) := u64_or_nat a b ha hb
theorem andNot_natW (a b : Nat) (ha : a < 18446744073709551616) (hb : b < 18446744073709551616) : bits BinOp.andNot IntKind.u64 ((a : Nat) : Int) ((b : Nat) : Int) = ((a &&& (18446744073709551615 - b) : Nat) : Int) := u64_andNot_nat a b ha hb
theorem inL_one (x : Nat) (i : Nat) : inL [(x : Int)] i = decide (i = x) := by
  unfold inL
  exact decide_eq_decide.2 (by rw [List.mem_singleton]; omega)
/-- bit 0 goes to bit 7 -/
theorem wk_yes (qs : List Q4) (h : wkQ qs 0 = true) : (mk (inL (valsL 0 7 qs)) ||| mk (inL [7])) &&& (18446744073709551615 - mk (inL [0])) = mk (wkF (wkQ qs)) := by
  have e0 : mk (inL [(0 : Int)]) = 1 := (mk_congr fun i _ => inL_one 0 i).trans (mk_one 0 (by decide)).symm
  rw [e0]
  refine mk_eq _ (Nat.lt_of_le_of_lt Nat.and_le_left (by rw [mk_or]; exact mk_lt _)) fun i hi => ?_
  rw [mk_or, Nat.testBit_and, mk_test, show 18446744073709551615 - 1 = 2 ^ 64 - (1 + 1) by omega, Nat.testBit_two_pow_sub_succ (by decide), dec_t hi, vals_in, show ([7] : List Int) = [((7 : Nat) : Int)] from rfl, inL_one]
  unfold wkF
  rw [h]
  by_cases h0 : i = 0
  · subst h0; simp
  · have t1 : (1 : Nat).testBit i = false := by
      rw [show (1 : Nat) = 2 ^ 0 from rfl, Nat.testBit_two_pow]; exact dec_n (by omega)
    rw [t1]
    by_cases h7 : i = 7
    · subst h7; simp
    · by_cases h8 : i < 8
      · rw [dec_t h8, dec_n h7, dec_t (show 1 ≤ i ∧ i < 8 by omega)]; simp
      · rw [dec_n h8, dec_n h7, dec_n (show ¬ (1 ≤ i ∧ i < 8) by omega)]; simp
theorem wk_no (qs : List Q4) (h : wkQ qs 0 = false) : mk (inL (valsL 0 7 qs)) &&& (18446744073709551615 - mk (inL [0])) = mk (wkF (wkQ qs)) := by
  have e0 : mk (inL [(0 : Int)]) = 1 := (mk_congr fun i _ => inL_one 0 i).trans (mk_one 0 (by decide)).symm
  rw [e0]
  refine mk_eq _ (Nat.lt_of_le_of_lt Nat.and_le_left (mk_lt _)) fun i hi => ?_
  rw [Nat.testBit_and, mk_test, show 18446744073709551615 - 1 = 2 ^ 64 - (1 + 1) by omega, Nat.testBit_two_pow_sub_succ (by decide), dec_t hi, vals_in]
  unfold wkF
  rw [h]
  by_cases h0 : i = 0
  · subst h0; simp
  · have t1 : (1 : Nat).testBit i = false := by
      rw [show (1 : Nat) = 2 ^ 0 from rfl, Nat.testBit_two_pow]; exact dec_n (by omega)
    rw [t1]
    by_cases h8 : i < 8
    · rw [dec_t h8, dec_t (show 1 ≤ i ∧ i < 8 by omega)]; simp
    · rw [dec_n h8, dec_n (show ¬ (1 ≤ i ∧ i < 8) by omega)]; simp
theorem wk_bit0 (qs : List Q4) : inM (mk (inL (valsL 0 7 qs))) 0 = wkQ qs 0 := by
  show inM _ ((0 : Nat) : Int) = _
  rw [inM_in _ 0 (by decide), mk_test, vals_in]; simp
/-- the document's list of the weekdays below n -/
def wl (Q : Nat → Bool) (n : Nat) : List Int := ((List.range n).filter Q).map fun i : Nat => if i = 0 then 7 else (i : Int)
theorem wl_no (Q : Nat → Bool) (k : Nat) (h : Q k = false) : wl Q (k + 1) = wl Q k := by
  unfold wl; rw [List.range_succ, List.filter_append]; simp [h]
theorem wl_yes (Q : Nat → Bool) (k : Nat) (h : Q k = true) : wl Q (k + 1) = wl Q k ++ [if k = 0 then 7 else (k : Int)] := by
  unfold wl; rw [List.range_succ, List.filter_append]; simp [h]
theorem wl_len (Q : Nat → Bool) (k : Nat) : (wl Q k).length ≤ k := by
  unfold wl
  rw [List.length_map]
  exact Nat.le_trans (List.length_filter_le _ _) (by simp)
theorem wl_mk (Q : Nat → Bool) : mk (inL (wl Q 8)) = mk (wkF Q) := by
  refine mk_congr fun i _ => ?_
  unfold inL wkF
  have hm : ((i : Int) ∈ wl Q 8) ↔ ((1 ≤ i ∧ i < 8) ∧ (Q i = true ∨ (i = 7 ∧ Q 0 = true))) := by
    unfold wl
    simp only [List.mem_map, List.mem_filter, List.mem_range]
    constructor
    · rintro ⟨j, ⟨h1, h2⟩, h3⟩
      by_cases h0 : j = 0
      · subst h0
        rw [if_pos rfl] at h3
        obtain rfl : i = 7 := by omega
        exact ⟨by omega, .inr ⟨rfl, h2⟩⟩
      · rw [if_neg h0] at h3
        obtain rfl : i = j := by omega
        exact ⟨by omega, .inl h2⟩
    · rintro ⟨h1, h2 | ⟨h2, h3⟩⟩
      · exact ⟨i, ⟨h1.2, h2⟩, by rw [if_neg (by omega)]⟩
      · subst h2
        exact ⟨0, ⟨by omega, h3⟩, by simp⟩
  rw [decide_eq_decide.2 hm, Bool.decide_and, Bool.decide_or, Bool.decide_and]
  simp
theorem wk_even (Q : Nat → Bool) : mk (wkF Q) % 2 = 0 := by
  have q : (mk (wkF Q)).testBit 0 = false := by rw [mk_test]; rfl
  rw [Nat.testBit_zero] at q
  have := decide_eq_false_iff_not.1 q
  omega
theorem wk_small (Q : Nat → Bool) : mk (wkF Q) < 256 := by
  refine Nat.lt_pow_two_of_testBit (n := 8) _ fun i hi => ?_
  rw [mk_test]
  unfold wkF
  rw [dec_n (show ¬ (1 ≤ i ∧ i < 8) by omega)]; simp
theorem wk_some (qs : List Q4) (h : rightB 0 7 200 qs = true) : mk (wkF (wkQ qs)) ≠ 0 := by
  unfold rightB at h
  simp only [Bool.and_eq_true, decide_eq_true_eq, List.all_eq_true] at h
  obtain ⟨h1, _, h3⟩ := h
  obtain ⟨q, hq⟩ : ∃ q, q ∈ qs := ⟨qs[0], List.getElem_mem (by omega)⟩
  have hm := h3 q hq
  obtain ⟨b1, b2, b3, b4, _⟩ := nb_bd 0 7 q hm
  obtain ⟨n, hn⟩ := Int.eq_ofNat_of_zero_le b1
  have hin : wkQ qs n = true := by
    unfold wkQ
    rw [List.any_eq_true]
    refine ⟨q, hq, ?_⟩
    unfold inQ hitZ
    rw [hm, ← hn, dec_t ⟨Int.le_refl _, b2, by simp⟩]
    rfl
  intro h0
  have ht : (mk (wkF (wkQ qs))).testBit (if n = 0 then 7 else n) = true := by
    rw [mk_test]
    unfold wkF
    by_cases hz : n = 0
    · subst hz
      rw [if_pos rfl, hin]; simp
    · rw [if_neg hz, hin, dec_t (show n < 64 by omega), dec_t (show 1 ≤ n ∧ n < 8 by omega)]; rfl
  rw [h0, Nat.zero_testBit] at ht
  cases ht
set_option maxHeartbeats 800000 in
set_option maxRecDepth 20000 in
theorem cweek_any (A : Option Addr) (c : Nat) (qs : List Q4) (w : World) (hl : qs.length ≤ 1000000) (hq : ItemsAt w A qs) (hT : TabCr w) :
    Calls Tryd.prog 10 #[.slice A qs.length c] w fun e w' => e = .returned (.int .u64 (mk (wkF (wkQ qs)) : Nat)) ∧ Below w.heap.size w w' := by
  have KB := boundsCr_any 4 (by decide) w hT
  have KM := Lib.hid (fun W h => imask_any 0 7 A c qs W hl h (vals_len qs))
  have KH := Lib.hid (fun W => has_any (mk (inL (valsL 0 7 qs))) 0 W (mk_lt _))
  rw [wk_bit0] at KH
  have KO7 := Lib.hid (fun W => of_any (some ⟨W.heap.size, 0, none⟩) 1 [7] (W.alloc (.cells #[.int .i64 7] 3)) (show 1 ≤ 1000000 by omega) (ints_new .i64 W [7] _ 3 rfl))
  have KO0 := Lib.hid (fun W => of_any (some ⟨W.heap.size, 0, none⟩) 1 [0] (W.alloc (.cells #[.int .i64 0] 3)) (show 1 ≤ 1000000 by omega) (ints_new .i64 W [0] _ 3 rfl))
  have o1 := or_natW (mk (inL (valsL 0 7 qs))) (mk (inL [7])) (mk_lt _) (mk_lt _)
  have o2 := andNot_natW (mk (inL (valsL 0 7 qs)) ||| mk (inL [7])) (mk (inL [0])) (by rw [mk_or]; exact mk_lt _) (mk_lt _)
  have o3 := andNot_natW (mk (inL (valsL 0 7 qs))) (mk (inL [0])) (mk_lt _) (mk_lt _)
  have HY := Lib.hid (wk_yes qs)
  have HNO := Lib.hid (wk_no qs)
  generalize mk (inL (valsL 0 7 qs)) = m at *
  generalize mk (inL [7]) = m7 at *
  generalize mk (inL [0]) = m1 at *
  generalize mk (wkF (wkQ qs)) = r at *
  have HQ := Lib.hid hq
  have HB0 := Lib.hid (Below.refl w.heap.size w)
  clear hq hT hl
  go_enter Tryd.func10, Tryd.ntmps10
  go_wp2_with fail
  refine KB.mono ?_
  rintro e w1 ⟨rfl, n, rfl⟩
  have hb1 := below_draws w.heap.size w n
  have HB1 := Lib.hid hb1
  have K := KM.out (w.drewN n) (HQ.out.below hb1)
  clear hb1 KB HB0
  generalize w.drewN n = v1 at HB1 K ⊢
  show _
  unfold bdCr
  go_wp2_with fail
  refine K.mono ?_
  rintro e w2 ⟨rfl, hb2⟩
  have HB2 := Lib.hid (HB1.out.trans (hb2.mono HB1.out.size))
  clear hb2 K
  go_wp2_with fail
  refine (KH.out _).mono ?_
  rintro e w3 ⟨rfl, rfl⟩
  cases h0 : wkQ qs 0
  · have HE := Lib.hid (HNO.out h0)
    have HBA := Lib.hid (HB2.out.alloc HB2.out.size (.cells #[.int .i64 0] 3))
    clear h0 HY HNO KH
    go_wp2_with fail
    refine (KO0.out _).mono ?_
    rintro e w4 ⟨rfl, rfl⟩
    go_wp2
    go_ret
    exact ⟨by rw [← HE.out]; rfl, HBA.out⟩
  · have HE := Lib.hid (HY.out h0)
    have HBA := Lib.hid (HB2.out.alloc HB2.out.size (.cells #[.int .i64 7] 3))
    have HBC := Lib.hid (HBA.out.alloc HBA.out.size (.cells #[.int .i64 0] 3))
    clear h0 HY HNO KH
    go_wp2_with fail
    refine (KO7.out _).mono ?_
    rintro e w4 ⟨rfl, rfl⟩
    generalize w2.alloc (.cells #[.int .i64 7] 3) = w5 at HBA HBC ⊢
    go_wp2_with fail
    refine (KO0.out _).mono ?_
    rintro e w6 ⟨rfl, rfl⟩
    go_wp2
    go_ret
    exact ⟨by rw [← HE.out]; rfl, HBC.out⟩
set_option maxHeartbeats 1600000 in
set_option maxRecDepth 20000 in
theorem rweek_any (A : Option Addr) (c : Nat) (qs : List Q4) (w : World) (hl : qs.length ≤ 1000000) (hq : ItemsAt w A qs) :
    Calls Tryd.prog 12 #[.slice A qs.length c] w fun e w' => e = .returned (.int .u64 (mk (wkF (wkQ qs)) : Nat)) ∧ Below w.heap.size w w' := by
  have KI := Lib.hid (fun (n : Nat) (h : n < 8) (W : World) (hb : Below w.heap.size w W) => show Calls Tryd.prog 45 #[.slice A qs.length c, .int .i64 0, .int .i64 7, .int .i64 n] W fun e w' => e = .returned (.bool (wkQ qs n)) ∧ Below W.heap.size W w' from riin_any 0 7 n A c qs W hl (hq.below hb) (by omega) (by omega))
  have HR := Lib.hid (wl_mk (wkQ qs))
  generalize mk (wkF (wkQ qs)) = r at HR ⊢
  generalize wkQ qs = Q at KI HR
  obtain ⟨i0, hi', hz0, hz1, hz2⟩ := info_parts info_int
  clear hl hq
  go_enter Tryd.func12, Tryd.ntmps12
  go_wp2
  go_loopw [3, 4] (fun v i wr => ∃ j : Nat, j ≤ 8 ∧ i = .int .i64 j ∧ OwnI wr w.heap.size v (wl Q j) ∧ Below w.heap.size w wr) (fun _ i _ => 8 - (intOf i).toNat)
  case atStart => exact ⟨0, by omega, rfl, OwnI.nil _ _, Below.refl _ _⟩
  case round =>
    obtain ⟨j, hj, rfl, hown, hb⟩ := hrel
    have HB := Lib.hid hb
    have HO := Lib.hid hown
    clear hb hown
    by_cases h1 : j < 8
    · have d1 : decide (j < 8) = true := dec_t h1
      have d1' : decide ((j : Int) < 8) = true := dec_t (by omega)
      have K := KI.out j h1 wr HB.out
      have hw1 : IntKind.i64.wrap ((j : Int) + 1) = (j : Int) + 1 := IntWalk.i64_in _ ⟨by omega, by omega⟩
      have HNO := Lib.hid (wl_no Q j)
      have HYES := Lib.hid (wl_yes Q j)
      have HLE := Lib.hid (wl_len Q j)
      have HN := Lib.hid (show j < 8 from h1)
      clear hj h1
      cases hbit : Q j
      · rw [hbit] at K
        have HT := Lib.hid (HNO.out hbit)
        clear hbit
        go_wp2_with fail
        refine (K).mono ?_
        rintro e w1 ⟨rfl, hb1⟩
        have HB1 := Lib.hid (HB.out.trans (hb1.mono HB.out.size))
        have HO1 := Lib.hid (HO.out.below hb1)
        clear hb1
        go_wp2
        go_roundw
        case rel => exact ⟨j + 1, by have := HN.out; omega, by go_num, by rw [HT.out]; exact HO1.out, HB1.out⟩
        case measure =>
          have := HN.out
          simp [intOf]; omega
      · rw [hbit] at K
        have HT := Lib.hid (HYES.out hbit)
        clear hbit
        by_cases hz : j = 0
        · have e0 : ((j : Int) == 0) = true := by simp [hz]
          have e1 : (j == 0) = true := by simp [hz]
          rw [if_pos hz] at HT
          have HJ := Lib.hid hz
          clear hz
          go_wp2_with fail
          refine (K).mono ?_
          rintro e w1 ⟨rfl, hb1⟩
          have HB1 := Lib.hid (HB.out.trans (hb1.mono HB.out.size))
          have HO1 := Lib.hid (HO.out.below hb1)
          have HZ := Lib.hid HB1.out.size
          clear hb1
          go_wp2_with ((at_builtin; refine wpList_append_own _ rfl _ _ 34 rfl w.heap.size 3 i0 (.int .i64 0) 1 8 Tryd.underlying34 hi' hz0 hz1 hz2 rfl (by decide) _ _ _ rfl (World.ownsRow.alloc HO1.out _) ⟨w1.heap.size, 0, none⟩ 1 1 [.int .i64 7] rfl rfl ?e1 ?e2 ?e3 ?e4 ?e5 ?_))
          case e1 =>
            intro j u hj
            cases j with
            | zero => cases hj; exact cell_new _ _ _ 0
            | succ j => cases hj
          case e2 => simp [Value.oneCell']
          case e3 => have := HN.out; have := HLE.out; unfold maxLen; omega
          case e4 => have := HN.out; have := HLE.out; omega
          case e5 => have := HZ.out; simp; omega
          intro v' w2 hown1 hgrow _
          have HO2 := Lib.hid (OwnI.snoc hown1)
          have HB2 := Lib.hid (Below.grown (HB1.out.alloc HZ.out (.cells #[.int .i64 7] 3)) hgrow (by have := HZ.out; simp; omega) (own_block HO1.out))
          clear hown1 hgrow
          go_wp2
          go_roundw
          case rel => exact ⟨j + 1, by have := HN.out; omega, by go_num, by rw [HT.out]; exact HO2.out, HB2.out⟩
          case measure =>
            have := HN.out
            simp [intOf]; omega
        · have e0 : ((j : Int) == 0) = false := by rw [beq_eq_false_iff_ne]; omega
          have e1 : (j == 0) = false := by rw [beq_eq_false_iff_ne]; exact hz
          rw [if_neg hz] at HT
          have HJ := Lib.hid hz
          clear hz
          go_wp2_with fail
          refine (K).mono ?_
          rintro e w1 ⟨rfl, hb1⟩
          have HB1 := Lib.hid (HB.out.trans (hb1.mono HB.out.size))
          have HO1 := Lib.hid (HO.out.below hb1)
          have HZ := Lib.hid HB1.out.size
          clear hb1
          go_wp2_with ((at_builtin; refine wpList_append_own _ rfl _ _ 34 rfl w.heap.size 3 i0 (.int .i64 0) 1 8 Tryd.underlying34 hi' hz0 hz1 hz2 rfl (by decide) _ _ _ rfl (World.ownsRow.alloc HO1.out _) ⟨w1.heap.size, 0, none⟩ 1 1 [.int .i64 (j : Int)] rfl rfl ?e1 ?e2 ?e3 ?e4 ?e5 ?_))
          case e1 =>
            intro j u hj
            cases j with
            | zero => cases hj; exact cell_new _ _ _ 0
            | succ j => cases hj
          case e2 => simp [Value.oneCell']
          case e3 => have := HN.out; have := HLE.out; unfold maxLen; omega
          case e4 => have := HN.out; have := HLE.out; omega
          case e5 => have := HZ.out; simp; omega
          intro v' w2 hown1 hgrow _
          have HO2 := Lib.hid (OwnI.snoc hown1)
          have HB2 := Lib.hid (Below.grown (HB1.out.alloc HZ.out (.cells #[.int .i64 (j : Int)] 3)) hgrow (by have := HZ.out; simp; omega) (own_block HO1.out))
          clear hown1 hgrow
          go_wp2
          go_roundw
          case rel => exact ⟨j + 1, by have := HN.out; omega, by go_num, by rw [HT.out]; exact HO2.out, HB2.out⟩
          case measure =>
            have := HN.out
            simp [intOf]; omega
    · obtain rfl : j = 8 := by omega
      obtain ⟨B, d, rfl, hin⟩ := HO.out.ints
      have HI := Lib.hid hin
      have HLE := Lib.hid (wl_len Q 8)
      have KO := Lib.hid (rof_any B d (wl Q 8) wr (by have := HLE.out; omega) HI.out)
      rw [HR.out] at KO
      clear hin HO h1 hj
      go_wp2_with fail
      refine KO.out.mono ?_
      rintro e w1 ⟨rfl, rfl⟩
      go_wp2
      go_ret
      exact ⟨rfl, HB.out⟩
end Go.Proofs.YtjdoknbmnokkdaaDoor
