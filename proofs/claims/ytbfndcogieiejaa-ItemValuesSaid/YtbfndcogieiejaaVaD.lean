/- The numbers of items, by the document (layer 12). -/
import Derived.Test.YtbfndcogieiejaaVaC
namespace Go.Proofs.Ytbfndcogieiejaa
open Go.RowKit
set_option linter.unusedVariables false

theorem in_vals (lo hi : Int) (qs : List Q4) (j : Nat) (h : lo ≤ (j : Int)) : qs.any (inQ lo hi (j : Int)) = valsP lo hi qs j := by
  unfold valsP
  rw [dec_t h]; rfl
theorem in_none (lo hi n : Int) (qs : List Q4) (h : fieldB lo hi = false) : qs.any (inQ lo hi n) = false := by
  rw [List.any_eq_false]
  intro q _ hc
  unfold inQ at hc
  rw [Bool.and_eq_true] at hc
  have h2 := hc.1
  unfold mayB at h2
  rw [decide_eq_true_eq] at h2
  unfold fieldB at h
  rw [decide_eq_false_iff_not] at h
  exact h h2.1
theorem vals_low (lo hi : Int) (qs : List Q4) (L : Nat) (h : lo = (L : Int)) : numsP (valsP lo hi qs) L = [] := numsP_low _ _ fun j hj => by
  unfold valsP
  rw [dec_n (show ¬ lo ≤ (j : Int) by omega)]; rfl
set_option maxHeartbeats 3200000 in
set_option maxRecDepth 20000 in
theorem rvalues_any (lo hi : Int) (A : Option Addr) (c : Nat) (qs : List Q4) (w : World) (hl : qs.length ≤ 1000000) (hq : ItemsAt w A qs) :
    Calls Try.prog 10 #[.slice A qs.length c, .int .i64 lo, .int .i64 hi] w fun e w' => ∃ B d, e = .returned (.slice B (valsL lo hi qs).length d) ∧ Ints .i64 w' B (valsL lo hi qs) ∧ Below w.heap.size w w' ∧ (valsL lo hi qs).length ≤ d := by
  have HL := Lib.hid (show valsL lo hi qs = if fieldB lo hi = true then numsP (valsP lo hi qs) (hi.toNat + 1) else [] from rfl)
  generalize valsL lo hi qs = zs at HL ⊢
  have HQ := Lib.hid hq
  have KI := Lib.hid (fun (n : Int) (W : World) (hb : Below w.heap.size w W) h1 h2 => riin_any lo hi n A c qs W hl (hq.below hb) h1 h2)
  clear hl hq
  cases hfb : fieldB lo hi
  · have HIN := Lib.hid (fun n => in_none lo hi n qs hfb)
    rw [hfb] at HL
    obtain rfl : zs = [] := HL.out
    clear HL hfb HQ
    obtain ⟨m0, hm0, hm1⟩ : ∃ m0 : Int, (if lo > 0 then lo else 0) = m0 ∧ 0 ≤ m0 := by
      by_cases h : lo > 0
      · exact ⟨lo, if_pos h, by omega⟩
      · exact ⟨0, if_neg h, by omega⟩
    go_enter Try.func10, Try.ntmps10
    go_wp2
    go_loopw [7, 8] (fun v i wr => ∃ n : Int, i = .int .i64 n ∧ 0 ≤ n ∧ v = .slice none 0 0 ∧ Below w.heap.size w wr) (fun _ i _ => 10000 - (intOf i).toNat)
    case atStart => exact ⟨m0, rfl, hm1, rfl, Below.refl _ _⟩
    case round =>
      obtain ⟨n, rfl, hn, rfl, hb⟩ := hrel
      have HB := Lib.hid hb
      clear hb
      by_cases h1 : n ≤ hi
      · have d1 := dec_t h1
        by_cases h2 : n ≤ 9999
        · have d2 := dec_t h2
          have K := KI.out n wr HB.out (by omega) (by omega)
          rw [HIN.out n] at K
          have hw1 : IntKind.i64.wrap (n + 1) = n + 1 := IntWalk.i64_in _ ⟨by omega, by omega⟩
          have HN := Lib.hid (And.intro hn h2)
          clear hn h2 h1
          go_wp2_with fail
          refine (K).mono ?_
          rintro e w1 ⟨rfl, hb1⟩
          have HB1 := Lib.hid (HB.out.trans (hb1.mono HB.out.size))
          clear hb1
          go_wp2
          go_roundw
          case rel => exact ⟨n + 1, by go_num, by have := HN.out; omega, rfl, HB1.out⟩
          case measure =>
            have := HN.out
            simp [intOf]; omega
        · have d2 := dec_n h2
          clear h1 h2 hn
          go_wp2
          go_ret
          exact ⟨none, 0, rfl, fun k hk => absurd hk (Nat.not_lt_zero k), HB.out, Nat.le_refl _⟩
      · have d1 := dec_n h1
        clear h1 hn
        go_wp2
        go_ret
        exact ⟨none, 0, rfl, fun k hk => absurd hk (Nat.not_lt_zero k), HB.out, Nat.le_refl _⟩
  · have HVL := Lib.hid (fun L h => vals_low lo hi qs L h)
    have HPV := Lib.hid (fun j h => in_vals lo hi qs j h)
    rw [hfb, if_pos rfl] at HL
    unfold fieldB at hfb
    rw [decide_eq_true_eq] at hfb
    obtain ⟨b1, b2, b3⟩ := hfb
    generalize valsP lo hi qs = P at HL HVL HPV
    obtain ⟨L, rfl⟩ := Int.eq_ofNat_of_zero_le b1
    obtain ⟨H, rfl⟩ := Int.eq_ofNat_of_zero_le (show 0 ≤ hi by omega)
    have hm0 : (if (L : Int) > 0 then (L : Int) else 0) = (L : Int) := by split <;> omega
    have hm1 : (if 0 < L then (L : Int) else 0) = (L : Int) := by split <;> omega
    have hm2 : (if 0 < (L : Int) then (L : Int) else 0) = (L : Int) := by split <;> omega
    have HLH := Lib.hid (show L ≤ H ∧ H ≤ 9999 from ⟨by omega, by omega⟩)
    have HZS := Lib.hid (show zs = numsP P (H + 1) from HL.out)
    have HL0 := Lib.hid (HVL.out L rfl)
    obtain ⟨i0, hi', hz0, hz1, hz2⟩ := info_parts info_int
    clear b1 b2 b3 HL HVL HQ
    go_enter Try.func10, Try.ntmps10
    go_wp2
    go_loopw [7, 8] (fun v i wr => ∃ j : Nat, L ≤ j ∧ j ≤ H + 1 ∧ i = .int .i64 j ∧ OwnI wr w.heap.size v (numsP P j) ∧ Below w.heap.size w wr) (fun _ i _ => 10000 - (intOf i).toNat)
    case atStart => exact ⟨L, Nat.le_refl _, by have := HLH.out; omega, rfl, by rw [HL0.out]; exact OwnI.nil _ _, Below.refl _ _⟩
    case round =>
      obtain ⟨j, hj0, hj1, rfl, hown, hb⟩ := hrel
      have HB := Lib.hid hb
      have HO := Lib.hid hown
      clear hb hown
      have hle := HLH.out.2
      by_cases h1 : (j : Int) ≤ (H : Int)
      · have d1 : decide (j ≤ H) = true := dec_t (by omega)
        have d2 := dec_t (show (j : Int) ≤ 9999 by omega)
        have d2' := dec_t (show j ≤ 9999 by omega)
        have K := KI.out (j : Int) wr HB.out (by omega) (by omega)
        rw [HPV.out j (by omega)] at K
        have hw1 : IntKind.i64.wrap ((j : Int) + 1) = (j : Int) + 1 := IntWalk.i64_in _ ⟨by omega, by omega⟩
        have hw2 : IntKind.i64.wrap (j : Int) = (j : Int) := IntWalk.i64_in _ ⟨by omega, by omega⟩
        have HNO := Lib.hid (numsP_no P j)
        have HYES := Lib.hid (numsP_yes P j)
        have HLE := Lib.hid (numsP_le P j)
        have HN := Lib.hid (show j ≤ H ∧ L ≤ j ∧ H ≤ 9999 from ⟨by omega, hj0, hle⟩)
        clear hj0 hj1 h1 hle
        cases hbit : P j
        · rw [hbit] at K
          have HT := Lib.hid (HNO.out hbit)
          clear hbit
          go_wp2_with fail
          refine (K).mono ?_
          rintro e w1 ⟨rfl, hb1⟩
          have HB1 := Lib.hid (HB.out.trans (hb1.mono HB.out.size))
          have HO1 := Lib.hid (HO.out.below hb1)
          clear hb1
          go_wp2
          go_roundw
          case rel => exact ⟨j + 1, by have := HN.out; omega, by have := HN.out; omega, by go_num, by rw [HT.out]; exact HO1.out, HB1.out⟩
          case measure =>
            have := HN.out
            simp [intOf]; omega
        · rw [hbit] at K
          have HT := Lib.hid (HYES.out hbit)
          clear hbit
          go_wp2_with fail
          refine (K).mono ?_
          rintro e w1 ⟨rfl, hb1⟩
          have HB1 := Lib.hid (HB.out.trans (hb1.mono HB.out.size))
          have HO1 := Lib.hid (HO.out.below hb1)
          have HZ := Lib.hid HB1.out.size
          clear hb1
          go_wp2_with ((at_builtin; refine wpList_append_own _ rfl _ _ 32 rfl w.heap.size 3 i0 (.int .i64 0) 1 8 Try.underlying32 hi' hz0 hz1 hz2 rfl (by decide) _ _ _ rfl (World.ownsRow.alloc HO1.out _) ⟨w1.heap.size, 0, none⟩ 1 1 [.int .i64 (j : Int)] rfl rfl ?e1 ?e2 ?e3 ?e4 ?e5 ?_))
          case e1 =>
            intro j u hj
            cases j with
            | zero => cases hj; exact cell_new _ _ _ 0
            | succ j => cases hj
          case e2 => simp [Value.oneCell']
          case e3 => have := HN.out; have := HLE.out; unfold maxLen; omega
          case e4 => have := HN.out; have := HLE.out; omega
          case e5 => have := HZ.out; simp; omega
          intro v' w2 hown1 hgrow _
          have HO2 := Lib.hid (OwnI.snoc hown1)
          have HB2 := Lib.hid (Below.grown (HB1.out.alloc HZ.out (.cells #[.int .i64 (j : Int)] 3)) hgrow (by have := HZ.out; simp; omega) (own_block HO1.out))
          clear hown1 hgrow
          go_wp2
          go_roundw
          case rel => exact ⟨j + 1, by have := HN.out; omega, by have := HN.out; omega, by go_num, by rw [HT.out]; exact HO2.out, HB2.out⟩
          case measure =>
            have := HN.out
            simp [intOf]; omega
      · obtain rfl : j = H + 1 := by omega
        obtain ⟨B, d, rfl, hin, hcap⟩ := HO.out.ints3
        have HI := Lib.hid hin
        have HCP := Lib.hid hcap
        have HZ2 := Lib.hid HZS.out
        have d1 : decide (((H + 1 : Nat) : Int) ≤ (H : Int)) = false := dec_n h1
        have d1' : decide (H + 1 ≤ H) = false := dec_n (by omega)
        clear hin hcap HO HZS h1 hj0 hj1 hle
        go_wp2
        go_ret
        exact ⟨B, d, by rw [HZ2.out]; rfl, by rw [HZ2.out]; exact HI.out, HB.out, by rw [HZ2.out]; exact HCP.out⟩
end Go.Proofs.Ytbfndcogieiejaa
