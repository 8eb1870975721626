/- The walk of MaskNext (layer 2). -/
import Derived.Test.YtjlieamjlelipaaDoorMaskW
import Derived.Test.YtjlieamjlelipaaDoorWalk02
import Derived.Test.YtjlieamjlelipaaDoorOpen
namespace Go.Proofs.YtjlieamjlelipaaDoor
open Go.RowKit
set_option linter.unusedVariables false

def NOut (m : Nat) (n t : Int) (W : World) (v i : Value) (wr : World) : Prop := ∃ k : Nat, k ≤ 64 ∧ i = .int .i64 k ∧ OwnI wr W.heap.size v (numsP (lack m n t) k) ∧ Below W.heap.size W wr
/-- what Least and Next tell, and what the law's own loop finds, in one of three ways -/
structure Way (m : Nat) (n : Int) (v1 : Int) (b1 : Bool) (v2 : Int) (b2 : Bool) (wn : Int) : Prop where
  least : leastV m = .tuple #[.int .i64 v1, .bool b1]
  next : leastV (above m n) = .tuple #[.int .i64 v2, .bool b2]
  want : wantL n (-1) (numsP m.testBit 64) = wn
  len : b1 = decide (0 < (numsP m.testBit 64).length)
  first : b1 = true → (numsP m.testBit 64)[0]?.getD 0 = v1
  none1 : b1 = false → v1 = 0
  is : b2 = decide (0 ≤ wn)
  eq : b2 = true → v2 = wn
  none2 : b2 = false → v2 = 0
theorem way (m : Nat) (n : Int) (hm : m < 18446744073709551616) : ∃ v1 b1 v2 b2 wn, Way m n v1 b1 v2 b2 wn := by
  have hr : rest m.testBit 0 = m := by rw [rest_all, mk_self m hm]
  obtain ⟨w1, w2⟩ := want_above m n
  have hL : ∃ v1 b1, leastV m = .tuple #[.int .i64 v1, .bool b1] ∧ b1 = decide (0 < (numsP m.testBit 64).length) ∧ (b1 = true → (numsP m.testBit 64)[0]?.getD 0 = v1) ∧ (b1 = false → v1 = 0) := by
    by_cases h : m = 0
    · refine ⟨0, false, by unfold leastV; rw [if_pos h], ?_, (fun h => by cases h), fun _ => rfl⟩
      have e := rest_end m.testBit 0 (by omega) (by rw [hr]; exact h)
      rw [e]; rfl
    · have hx : rest m.testBit 0 ≠ 0 := by rw [hr]; exact h
      have e := nth_num m.testBit 0 hx
      rw [hr] at e
      refine ⟨(lo m : Nat), true, by unfold leastV; rw [if_neg h], ?_, fun _ => e, fun h => by cases h⟩
      symm
      refine dec_t ?_
      rcases Nat.eq_zero_or_pos (numsP m.testBit 64).length with h0 | h0
      · exact absurd (at_end m.testBit 0 (by omega) (by rw [h0]; exact Nat.zero_le _)) hx
      · exact h0
  obtain ⟨v1, b1, l1, l2, l3, l4⟩ := hL
  by_cases h : above m n = 0
  · exact ⟨v1, b1, 0, false, -1, l1, by rw [h]; rfl, w1 h, l2, l3, l4, by decide, (fun h => by cases h), fun _ => rfl⟩
  · exact ⟨v1, b1, (lo (above m n) : Nat), true, (lo (above m n) : Nat), l1, by unfold leastV; rw [if_neg h], w2 h, l2, l3, l4, (dec_t (by omega)).symm, fun _ => rfl, fun h => by cases h⟩
set_option maxHeartbeats 3200000 in
set_option maxRecDepth 100000 in
theorem mnext_in (m : Nat) (n t : Int) (w : World) (hm : m < 18446744073709551616) (hn : I64 n) (hT : Tab w) :
    Calls Tryd.prog 4 #[.int .u64 m, .int .i64 n, .int .i64 t] w fun e w' => e = .returned (.bool true) ∧ Below w.heap.size w w' := by
  obtain ⟨i0, hi, hz0, hz1, hz2⟩ := info_parts info_int
  obtain ⟨v1, b1, v2, b2, wn, W⟩ := way m n hm
  have K1 := rlist_any m w hm
  have HT := Lib.hid hT
  have HW := Lib.hid W
  have KL := fun (w2 : World) (h : Tab w2) => least_any m w2 hm h
  have KN := fun (w2 : World) (h : Tab w2) => next_any m n w2 hm hn h
  rw [W.least] at KL
  rw [W.next] at KN
  have KE := fun (w2 : World) => mlen_any m w2 hm
  have KH := fun (k : Nat) (h : k < 64) (w2 : World) => rhas_any m k w2 hm
  have KW := fun (w2 : World) => without_any m n t w2 hm hn
  have hLl := numsP_le m.testBit 64
  clear hT W
  go_enter Tryd.func4, Tryd.ntmps4
  go_wp2_with fail
  refine K1.mono ?_
  rintro e w1 ⟨A1, c1, rfl, hin, hb1⟩
  have HI := Lib.hid hin
  have HB1 := Lib.hid hb1
  have ht1 := HT.out.below hb1
  clear hin hb1 K1
  go_wp2_with fail
  refine (KL w1 ht1).mono ?_
  rintro e w2 ⟨rfl, rfl⟩
  go_wp2_with fail
  refine (KN w1 ht1).mono ?_
  rintro e w2 ⟨rfl, rfl⟩
  go_wp2
  have HT1 := Lib.hid ht1
  clear ht1 KL KN
  go_loop [12, 13] (fun x i => ∃ k : Nat, k ≤ (numsP m.testBit 64).length ∧ i = .int .i64 ((k : Int) - 1) ∧ x = .int .i64 (wantL n (-1) ((numsP m.testBit 64).drop k))) (fun _ i => (intOf i + 1).toNat)
  case atStart => exact ⟨(numsP m.testBit 64).length, Nat.le_refl _, by first | rfl | (congr 1; exact IntWalk.i64_in _ ⟨by omega, by omega⟩), by rw [List.drop_length]; rfl⟩
  case round =>
    obtain ⟨k, hk, rfl, rfl⟩ := hrel
    by_cases h0 : k = 0
    · subst h0
      rw [List.drop_zero, HW.out.want]
      have hlen := HW.out.len
      have his := HW.out.is
      have hl1 := HW.out.first
      have hl2 := HW.out.none1
      have hs1 := HW.out.eq
      have hs2 := HW.out.none2
      have hd1 : (((numsP m.testBit 64).length : Int) == ((numsP m.testBit 64).length : Int)) = true := by rw [beq_iff_eq]
      have hd2 : (((numsP m.testBit 64).length : Int) != ((numsP m.testBit 64).length : Int)) = false := by rw [bne_eq_false_iff_eq]
      cases b1
      · have q0 : ¬ 0 < (numsP m.testBit 64).length := of_decide_eq_false hlen.symm
        have q1 : decide ((0 : Int) < ((numsP m.testBit 64).length : Int)) = false := dec_n (by omega)
        have q2 : decide (0 < (numsP m.testBit 64).length) = false := dec_n q0
        obtain rfl : v1 = 0 := hl2 rfl
        cases b2
        · have r0 : ¬ 0 ≤ wn := of_decide_eq_false his.symm
          have r1 : decide (0 ≤ wn) = false := dec_n r0
          obtain rfl : v2 = 0 := hs2 rfl
          clear hlen his hl1 hl2 hs1 hs2 r0
          go_wp2_with fail
          refine (KE w1).mono ?_
          rintro e w3 ⟨rfl, rfl⟩
          go_wp2
          clear hd1 hd2
          go_loopw [14, 15] (fun v i wr => NOut m n t w1 v i wr) (fun _ i _ => 64 - (intOf i).toNat)
          case atStart => exact ⟨0, by omega, rfl, OwnI.nil _ _, Below.refl _ _⟩
          case round =>
            obtain ⟨k, hk, rfl, hown, hb⟩ := hrel
            have HO := Lib.hid hown
            have HB := Lib.hid hb
            clear hown hb
            by_cases hlt : k < 64
            · have hcl := numsP_le (lack m n t) k
              have KH1 := KH k hlt wr
              rw [inM_in m k hlt] at KH1
              have HLK := Lib.hid (show lack m n t k = (decide (n ≤ (k : Int)) && decide ((k : Int) ≤ t) && !m.testBit k) from rfl)
              have HNo := Lib.hid (numsP_no (lack m n t) k)
              have HYes := Lib.hid (numsP_yes (lack m n t) k)
              by_cases g1 : n ≤ (k : Int)
              · have d1 := dec_t g1
                by_cases g2 : (k : Int) ≤ t
                · have d2 := dec_t g2
                  cases hbit : m.testBit k
                  · have HS := Lib.hid (HYes.out (by rw [HLK.out, d1, d2, hbit]; rfl))
                    rw [hbit] at KH1
                    clear hbit g1 g2
                    go_wp2_with fail
                    refine KH1.mono ?_
                    rintro e w5 ⟨rfl, rfl⟩
                    go_wp2_with ((at_builtin; refine wpList_append_own _ rfl _ _ 22 rfl w1.heap.size 3 i0 (.int .i64 0) 1 8 Tryd.underlying22 hi hz0 hz1 hz2 rfl (by decide) _ _ _ rfl (World.ownsRow.alloc HO.out _) ⟨wr.heap.size, 0, none⟩ 1 1 [.int .i64 (k : Int)] rfl rfl ?n1 ?n2 ?n3 ?n4 ?n5 ?_))
                    case n1 =>
                      intro j u hj
                      cases j with
                      | zero => cases hj; exact cell_new _ _ _ 0
                      | succ j => cases hj
                    case n2 => simp [Value.oneCell']
                    case n3 => unfold maxLen; omega
                    case n4 => omega
                    case n5 => have := HB.out.size; simp; omega
                    intro v' w4 hown4 hgrow _
                    have HO4 := Lib.hid (OwnI.snoc hown4)
                    have HB4 := Lib.hid (Below.grown (HB.out.alloc HB.out.size (.cells #[.int .i64 (k : Int)] 3)) hgrow (by have := HB.out.size; simp; omega) (own_block HO.out))
                    clear hown4 hgrow
                    go_wp2
                    go_roundw
                    case rel => exact ⟨k + 1, by omega, by go_num, by rw [HS.out]; exact HO4.out, HB4.out⟩
                    case measure => simp [intOf]; omega
                  · have HS := Lib.hid (HNo.out (by rw [HLK.out, hbit]; simp))
                    rw [hbit] at KH1
                    clear hbit g1 g2
                    go_wp2_with fail
                    refine KH1.mono ?_
                    rintro e w5 ⟨rfl, rfl⟩
                    go_wp2
                    go_roundw
                    case rel => exact ⟨k + 1, by omega, by go_num, by rw [HS.out]; exact HO.out, HB.out⟩
                    case measure => simp [intOf]; omega
                · have d2 := dec_n g2
                  have HS := Lib.hid (HNo.out (by rw [HLK.out, d2]; simp))
                  clear g1 g2
                  go_wp2
                  go_roundw
                  case rel => exact ⟨k + 1, by omega, by go_num, by rw [HS.out]; exact HO.out, HB.out⟩
                  case measure => simp [intOf]; omega
              · have d1 := dec_n g1
                have HS := Lib.hid (HNo.out (by rw [HLK.out, d1]; rfl))
                clear g1
                go_wp2
                go_roundw
                case rel => exact ⟨k + 1, by omega, by go_num, by rw [HS.out]; exact HO.out, HB.out⟩
                case measure => simp [intOf]; omega
            · obtain rfl : k = 64 := by omega
              have hcl := numsP_le (lack m n t) 64
              obtain ⟨A9, c9, hv9, hi9⟩ := HO.out.ints
              subst hv9
              have KO := rof_any A9 c9 (numsP (lack m n t) 64) wr (by omega) hi9
              rw [mk_nums] at KO
              have KW1 := KW wr
              generalize mk (lack m n t) = X at KO KW1
              have hX : ((X : Int) == (X : Int)) = true := by rw [beq_iff_eq]
              clear hi9 KW
              go_wp2_with fail
              refine KW1.mono ?_
              rintro e w5 ⟨rfl, rfl⟩
              go_wp2_with fail
              refine KO.mono ?_
              rintro e w6 ⟨rfl, rfl⟩
              have KV := lives02_any wr (HT1.out.below HB.out)
              go_wp2_with fail
              refine KV.mono ?_
              rintro e w7 ⟨rfl, hb7⟩
              go_wp2
              go_ret
              exact ⟨rfl, (HB1.out.trans (HB.out.mono HB1.out.size)).trans (hb7.mono (Nat.le_trans HB1.out.size HB.out.size))⟩
        · have r0 : 0 ≤ wn := of_decide_eq_true his.symm
          have r1 : decide (0 ≤ wn) = true := dec_t r0
          obtain rfl : v2 = wn := hs1 rfl
          have r2 : (v2 == v2) = true := by rw [beq_iff_eq]
          have r3 : (v2 != v2) = false := by rw [bne_eq_false_iff_eq]
          clear hlen his hl1 hl2 hs1 hs2 r0
          go_wp2_with fail
          refine (KE w1).mono ?_
          rintro e w3 ⟨rfl, rfl⟩
          go_wp2
          clear hd1 hd2
          go_loopw [14, 15] (fun v i wr => NOut m n t w1 v i wr) (fun _ i _ => 64 - (intOf i).toNat)
          case atStart => exact ⟨0, by omega, rfl, OwnI.nil _ _, Below.refl _ _⟩
          case round =>
            obtain ⟨k, hk, rfl, hown, hb⟩ := hrel
            have HO := Lib.hid hown
            have HB := Lib.hid hb
            clear hown hb
            by_cases hlt : k < 64
            · have hcl := numsP_le (lack m n t) k
              have KH1 := KH k hlt wr
              rw [inM_in m k hlt] at KH1
              have HLK := Lib.hid (show lack m n t k = (decide (n ≤ (k : Int)) && decide ((k : Int) ≤ t) && !m.testBit k) from rfl)
              have HNo := Lib.hid (numsP_no (lack m n t) k)
              have HYes := Lib.hid (numsP_yes (lack m n t) k)
              by_cases g1 : n ≤ (k : Int)
              · have d1 := dec_t g1
                by_cases g2 : (k : Int) ≤ t
                · have d2 := dec_t g2
                  cases hbit : m.testBit k
                  · have HS := Lib.hid (HYes.out (by rw [HLK.out, d1, d2, hbit]; rfl))
                    rw [hbit] at KH1
                    clear hbit g1 g2
                    go_wp2_with fail
                    refine KH1.mono ?_
                    rintro e w5 ⟨rfl, rfl⟩
                    go_wp2_with ((at_builtin; refine wpList_append_own _ rfl _ _ 22 rfl w1.heap.size 3 i0 (.int .i64 0) 1 8 Tryd.underlying22 hi hz0 hz1 hz2 rfl (by decide) _ _ _ rfl (World.ownsRow.alloc HO.out _) ⟨wr.heap.size, 0, none⟩ 1 1 [.int .i64 (k : Int)] rfl rfl ?n1 ?n2 ?n3 ?n4 ?n5 ?_))
                    case n1 =>
                      intro j u hj
                      cases j with
                      | zero => cases hj; exact cell_new _ _ _ 0
                      | succ j => cases hj
                    case n2 => simp [Value.oneCell']
                    case n3 => unfold maxLen; omega
                    case n4 => omega
                    case n5 => have := HB.out.size; simp; omega
                    intro v' w4 hown4 hgrow _
                    have HO4 := Lib.hid (OwnI.snoc hown4)
                    have HB4 := Lib.hid (Below.grown (HB.out.alloc HB.out.size (.cells #[.int .i64 (k : Int)] 3)) hgrow (by have := HB.out.size; simp; omega) (own_block HO.out))
                    clear hown4 hgrow
                    go_wp2
                    go_roundw
                    case rel => exact ⟨k + 1, by omega, by go_num, by rw [HS.out]; exact HO4.out, HB4.out⟩
                    case measure => simp [intOf]; omega
                  · have HS := Lib.hid (HNo.out (by rw [HLK.out, hbit]; simp))
                    rw [hbit] at KH1
                    clear hbit g1 g2
                    go_wp2_with fail
                    refine KH1.mono ?_
                    rintro e w5 ⟨rfl, rfl⟩
                    go_wp2
                    go_roundw
                    case rel => exact ⟨k + 1, by omega, by go_num, by rw [HS.out]; exact HO.out, HB.out⟩
                    case measure => simp [intOf]; omega
                · have d2 := dec_n g2
                  have HS := Lib.hid (HNo.out (by rw [HLK.out, d2]; simp))
                  clear g1 g2
                  go_wp2
                  go_roundw
                  case rel => exact ⟨k + 1, by omega, by go_num, by rw [HS.out]; exact HO.out, HB.out⟩
                  case measure => simp [intOf]; omega
              · have d1 := dec_n g1
                have HS := Lib.hid (HNo.out (by rw [HLK.out, d1]; rfl))
                clear g1
                go_wp2
                go_roundw
                case rel => exact ⟨k + 1, by omega, by go_num, by rw [HS.out]; exact HO.out, HB.out⟩
                case measure => simp [intOf]; omega
            · obtain rfl : k = 64 := by omega
              have hcl := numsP_le (lack m n t) 64
              obtain ⟨A9, c9, hv9, hi9⟩ := HO.out.ints
              subst hv9
              have KO := rof_any A9 c9 (numsP (lack m n t) 64) wr (by omega) hi9
              rw [mk_nums] at KO
              have KW1 := KW wr
              generalize mk (lack m n t) = X at KO KW1
              have hX : ((X : Int) == (X : Int)) = true := by rw [beq_iff_eq]
              clear hi9 KW
              go_wp2_with fail
              refine KW1.mono ?_
              rintro e w5 ⟨rfl, rfl⟩
              go_wp2_with fail
              refine KO.mono ?_
              rintro e w6 ⟨rfl, rfl⟩
              have KV := lives02_any wr (HT1.out.below HB.out)
              go_wp2_with fail
              refine KV.mono ?_
              rintro e w7 ⟨rfl, hb7⟩
              go_wp2
              go_ret
              exact ⟨rfl, (HB1.out.trans (HB.out.mono HB1.out.size)).trans (hb7.mono (Nat.le_trans HB1.out.size HB.out.size))⟩
      · have q0 : 0 < (numsP m.testBit 64).length := of_decide_eq_true hlen.symm
        have q1 : decide ((0 : Int) < ((numsP m.testBit 64).length : Int)) = true := dec_t (by omega)
        have q2 : decide (0 < (numsP m.testBit 64).length) = true := dec_t q0
        have q3 : (0 : Int) < ((numsP m.testBit 64).length : Int) := by omega
        obtain ⟨b, off, rfl, _, cell⟩ := HI.out 0 q0
        rw [hl1 rfl, Nat.add_zero] at cell
        have q4 : (v1 == v1) = true := by rw [beq_iff_eq]
        have q5 : (v1 != v1) = false := by rw [bne_eq_false_iff_eq]
        cases b2
        · have r0 : ¬ 0 ≤ wn := of_decide_eq_false his.symm
          have r1 : decide (0 ≤ wn) = false := dec_n r0
          obtain rfl : v2 = 0 := hs2 rfl
          clear hlen his hl1 hl2 hs1 hs2 r0
          go_wp2_with fail
          refine (KE w1).mono ?_
          rintro e w3 ⟨rfl, rfl⟩
          go_wp2
          clear hd1 hd2
          go_loopw [14, 15] (fun v i wr => NOut m n t w1 v i wr) (fun _ i _ => 64 - (intOf i).toNat)
          case atStart => exact ⟨0, by omega, rfl, OwnI.nil _ _, Below.refl _ _⟩
          case round =>
            obtain ⟨k, hk, rfl, hown, hb⟩ := hrel
            have HO := Lib.hid hown
            have HB := Lib.hid hb
            clear hown hb
            by_cases hlt : k < 64
            · have hcl := numsP_le (lack m n t) k
              have KH1 := KH k hlt wr
              rw [inM_in m k hlt] at KH1
              have HLK := Lib.hid (show lack m n t k = (decide (n ≤ (k : Int)) && decide ((k : Int) ≤ t) && !m.testBit k) from rfl)
              have HNo := Lib.hid (numsP_no (lack m n t) k)
              have HYes := Lib.hid (numsP_yes (lack m n t) k)
              by_cases g1 : n ≤ (k : Int)
              · have d1 := dec_t g1
                by_cases g2 : (k : Int) ≤ t
                · have d2 := dec_t g2
                  cases hbit : m.testBit k
                  · have HS := Lib.hid (HYes.out (by rw [HLK.out, d1, d2, hbit]; rfl))
                    rw [hbit] at KH1
                    clear hbit g1 g2
                    go_wp2_with fail
                    refine KH1.mono ?_
                    rintro e w5 ⟨rfl, rfl⟩
                    go_wp2_with ((at_builtin; refine wpList_append_own _ rfl _ _ 22 rfl w1.heap.size 3 i0 (.int .i64 0) 1 8 Tryd.underlying22 hi hz0 hz1 hz2 rfl (by decide) _ _ _ rfl (World.ownsRow.alloc HO.out _) ⟨wr.heap.size, 0, none⟩ 1 1 [.int .i64 (k : Int)] rfl rfl ?n1 ?n2 ?n3 ?n4 ?n5 ?_))
                    case n1 =>
                      intro j u hj
                      cases j with
                      | zero => cases hj; exact cell_new _ _ _ 0
                      | succ j => cases hj
                    case n2 => simp [Value.oneCell']
                    case n3 => unfold maxLen; omega
                    case n4 => omega
                    case n5 => have := HB.out.size; simp; omega
                    intro v' w4 hown4 hgrow _
                    have HO4 := Lib.hid (OwnI.snoc hown4)
                    have HB4 := Lib.hid (Below.grown (HB.out.alloc HB.out.size (.cells #[.int .i64 (k : Int)] 3)) hgrow (by have := HB.out.size; simp; omega) (own_block HO.out))
                    clear hown4 hgrow
                    go_wp2
                    go_roundw
                    case rel => exact ⟨k + 1, by omega, by go_num, by rw [HS.out]; exact HO4.out, HB4.out⟩
                    case measure => simp [intOf]; omega
                  · have HS := Lib.hid (HNo.out (by rw [HLK.out, hbit]; simp))
                    rw [hbit] at KH1
                    clear hbit g1 g2
                    go_wp2_with fail
                    refine KH1.mono ?_
                    rintro e w5 ⟨rfl, rfl⟩
                    go_wp2
                    go_roundw
                    case rel => exact ⟨k + 1, by omega, by go_num, by rw [HS.out]; exact HO.out, HB.out⟩
                    case measure => simp [intOf]; omega
                · have d2 := dec_n g2
                  have HS := Lib.hid (HNo.out (by rw [HLK.out, d2]; simp))
                  clear g1 g2
                  go_wp2
                  go_roundw
                  case rel => exact ⟨k + 1, by omega, by go_num, by rw [HS.out]; exact HO.out, HB.out⟩
                  case measure => simp [intOf]; omega
              · have d1 := dec_n g1
                have HS := Lib.hid (HNo.out (by rw [HLK.out, d1]; rfl))
                clear g1
                go_wp2
                go_roundw
                case rel => exact ⟨k + 1, by omega, by go_num, by rw [HS.out]; exact HO.out, HB.out⟩
                case measure => simp [intOf]; omega
            · obtain rfl : k = 64 := by omega
              have hcl := numsP_le (lack m n t) 64
              obtain ⟨A9, c9, hv9, hi9⟩ := HO.out.ints
              subst hv9
              have KO := rof_any A9 c9 (numsP (lack m n t) 64) wr (by omega) hi9
              rw [mk_nums] at KO
              have KW1 := KW wr
              generalize mk (lack m n t) = X at KO KW1
              have hX : ((X : Int) == (X : Int)) = true := by rw [beq_iff_eq]
              clear hi9 KW
              go_wp2_with fail
              refine KW1.mono ?_
              rintro e w5 ⟨rfl, rfl⟩
              go_wp2_with fail
              refine KO.mono ?_
              rintro e w6 ⟨rfl, rfl⟩
              have KV := lives02_any wr (HT1.out.below HB.out)
              go_wp2_with fail
              refine KV.mono ?_
              rintro e w7 ⟨rfl, hb7⟩
              go_wp2
              go_ret
              exact ⟨rfl, (HB1.out.trans (HB.out.mono HB1.out.size)).trans (hb7.mono (Nat.le_trans HB1.out.size HB.out.size))⟩
        · have r0 : 0 ≤ wn := of_decide_eq_true his.symm
          have r1 : decide (0 ≤ wn) = true := dec_t r0
          obtain rfl : v2 = wn := hs1 rfl
          have r2 : (v2 == v2) = true := by rw [beq_iff_eq]
          have r3 : (v2 != v2) = false := by rw [bne_eq_false_iff_eq]
          clear hlen his hl1 hl2 hs1 hs2 r0
          go_wp2_with fail
          refine (KE w1).mono ?_
          rintro e w3 ⟨rfl, rfl⟩
          go_wp2
          clear hd1 hd2
          go_loopw [14, 15] (fun v i wr => NOut m n t w1 v i wr) (fun _ i _ => 64 - (intOf i).toNat)
          case atStart => exact ⟨0, by omega, rfl, OwnI.nil _ _, Below.refl _ _⟩
          case round =>
            obtain ⟨k, hk, rfl, hown, hb⟩ := hrel
            have HO := Lib.hid hown
            have HB := Lib.hid hb
            clear hown hb
            by_cases hlt : k < 64
            · have hcl := numsP_le (lack m n t) k
              have KH1 := KH k hlt wr
              rw [inM_in m k hlt] at KH1
              have HLK := Lib.hid (show lack m n t k = (decide (n ≤ (k : Int)) && decide ((k : Int) ≤ t) && !m.testBit k) from rfl)
              have HNo := Lib.hid (numsP_no (lack m n t) k)
              have HYes := Lib.hid (numsP_yes (lack m n t) k)
              by_cases g1 : n ≤ (k : Int)
              · have d1 := dec_t g1
                by_cases g2 : (k : Int) ≤ t
                · have d2 := dec_t g2
                  cases hbit : m.testBit k
                  · have HS := Lib.hid (HYes.out (by rw [HLK.out, d1, d2, hbit]; rfl))
                    rw [hbit] at KH1
                    clear hbit g1 g2
                    go_wp2_with fail
                    refine KH1.mono ?_
                    rintro e w5 ⟨rfl, rfl⟩
                    go_wp2_with ((at_builtin; refine wpList_append_own _ rfl _ _ 22 rfl w1.heap.size 3 i0 (.int .i64 0) 1 8 Tryd.underlying22 hi hz0 hz1 hz2 rfl (by decide) _ _ _ rfl (World.ownsRow.alloc HO.out _) ⟨wr.heap.size, 0, none⟩ 1 1 [.int .i64 (k : Int)] rfl rfl ?n1 ?n2 ?n3 ?n4 ?n5 ?_))
                    case n1 =>
                      intro j u hj
                      cases j with
                      | zero => cases hj; exact cell_new _ _ _ 0
                      | succ j => cases hj
                    case n2 => simp [Value.oneCell']
                    case n3 => unfold maxLen; omega
                    case n4 => omega
                    case n5 => have := HB.out.size; simp; omega
                    intro v' w4 hown4 hgrow _
                    have HO4 := Lib.hid (OwnI.snoc hown4)
                    have HB4 := Lib.hid (Below.grown (HB.out.alloc HB.out.size (.cells #[.int .i64 (k : Int)] 3)) hgrow (by have := HB.out.size; simp; omega) (own_block HO.out))
                    clear hown4 hgrow
                    go_wp2
                    go_roundw
                    case rel => exact ⟨k + 1, by omega, by go_num, by rw [HS.out]; exact HO4.out, HB4.out⟩
                    case measure => simp [intOf]; omega
                  · have HS := Lib.hid (HNo.out (by rw [HLK.out, hbit]; simp))
                    rw [hbit] at KH1
                    clear hbit g1 g2
                    go_wp2_with fail
                    refine KH1.mono ?_
                    rintro e w5 ⟨rfl, rfl⟩
                    go_wp2
                    go_roundw
                    case rel => exact ⟨k + 1, by omega, by go_num, by rw [HS.out]; exact HO.out, HB.out⟩
                    case measure => simp [intOf]; omega
                · have d2 := dec_n g2
                  have HS := Lib.hid (HNo.out (by rw [HLK.out, d2]; simp))
                  clear g1 g2
                  go_wp2
                  go_roundw
                  case rel => exact ⟨k + 1, by omega, by go_num, by rw [HS.out]; exact HO.out, HB.out⟩
                  case measure => simp [intOf]; omega
              · have d1 := dec_n g1
                have HS := Lib.hid (HNo.out (by rw [HLK.out, d1]; rfl))
                clear g1
                go_wp2
                go_roundw
                case rel => exact ⟨k + 1, by omega, by go_num, by rw [HS.out]; exact HO.out, HB.out⟩
                case measure => simp [intOf]; omega
            · obtain rfl : k = 64 := by omega
              have hcl := numsP_le (lack m n t) 64
              obtain ⟨A9, c9, hv9, hi9⟩ := HO.out.ints
              subst hv9
              have KO := rof_any A9 c9 (numsP (lack m n t) 64) wr (by omega) hi9
              rw [mk_nums] at KO
              have KW1 := KW wr
              generalize mk (lack m n t) = X at KO KW1
              have hX : ((X : Int) == (X : Int)) = true := by rw [beq_iff_eq]
              clear hi9 KW
              go_wp2_with fail
              refine KW1.mono ?_
              rintro e w5 ⟨rfl, rfl⟩
              go_wp2_with fail
              refine KO.mono ?_
              rintro e w6 ⟨rfl, rfl⟩
              have KV := lives02_any wr (HT1.out.below HB.out)
              go_wp2_with fail
              refine KV.mono ?_
              rintro e w7 ⟨rfl, hb7⟩
              go_wp2
              go_ret
              exact ⟨rfl, (HB1.out.trans (HB.out.mono HB1.out.size)).trans (hb7.mono (Nat.le_trans HB1.out.size HB.out.size))⟩
    · obtain ⟨q, rfl⟩ : ∃ q, k = q + 1 := ⟨k - 1, by omega⟩
      obtain ⟨b, off, rfl, _, cell⟩ := HI.out q (by omega)
      have hd := drop_step (numsP m.testBit 64) q (by omega)
      have HD := Lib.hid (show wantL n (-1) ((numsP m.testBit 64).drop q) = if n < (numsP m.testBit 64)[q]?.getD 0 then (numsP m.testBit 64)[q]?.getD 0 else wantL n (-1) ((numsP m.testBit 64).drop (q + 1)) by rw [hd]; rfl)
      have e1 : (((q + 1 : Nat) : Int) - 1) = (q : Int) := by omega
      rw [e1]
      have i1 : (q : Int) < ((numsP m.testBit 64).length : Int) := by omega
      have i2 : (0 : Int) ≤ (q : Int) := by omega
      have d0 : decide ((0 : Int) ≤ (q : Int)) = true := dec_t i2
      clear hd e1
      generalize (numsP m.testBit 64)[q]?.getD 0 = z at cell HD
      by_cases hz : n < z
      · have dz := dec_t hz
        have HD2 := Lib.hid (show wantL n (-1) ((numsP m.testBit 64).drop q) = z by rw [HD.out, if_pos hz])
        clear hz
        go_wp2
        go_round
        case rel => exact ⟨q, by omega, by first | rfl | go_num, by rw [HD2.out]⟩
        case measure => simp [intOf]
      · have dz := dec_n hz
        have HD2 := Lib.hid (show wantL n (-1) ((numsP m.testBit 64).drop q) = wantL n (-1) ((numsP m.testBit 64).drop (q + 1)) by rw [HD.out, if_neg hz])
        clear hz
        go_wp2
        go_round
        case rel => exact ⟨q, by omega, by first | rfl | go_num, by rw [HD2.out]⟩
        case measure => simp [intOf]
theorem maskNext_walk (m n t : Int) (w : World) (wm : (Lit.int .u64 m).wf = true) (wn : (Lit.int .i64 n).wf = true) (wt : (Lit.int .i64 t).wf = true) (hT : Tab w) :
    Calls Tryd.prog 4 #[.int .u64 m, .int .i64 n, .int .i64 t] w fun e w' => e = .returned (.bool true) ∧ Below w.heap.size w w' := by
  obtain ⟨M, rfl, hM⟩ := wf_u64 wm
  exact mnext_in M n t w (by omega) (wf_i64 wn) hT
end Go.Proofs.YtjlieamjlelipaaDoor
