/- Contract of the document's Check of an event (layer 28). -/
import Derived.Test.YtjgifiaokmmjfaaDoorClC
import Derived.Test.YtjgifiaokmmjfaaDoorItmB
namespace Go.Proofs.YtjgifiaokmmjfaaDoor
open Go.RowKit
set_option linter.unusedVariables false

theorem rmost_any (f : Nat) (w : World) : Calls Tryd.prog 36 #[.int .i64 (f : Int)] w fun e w' => e = .returned (.int .i64 (mostCl f : Nat)) ∧ w = w' := by
  by_cases h : f = 1
  · have e1 : ((f : Int) == 1) = true := by rw [beq_iff_eq]; omega
    rw [show mostCl f = 400 from if_pos h]
    go_enter Tryd.func36, Tryd.ntmps36
    go_wp2
    go_ret
    exact ⟨rfl, rfl⟩
  · have e1 : ((f : Int) == 1) = false := by rw [beq_eq_false_iff_ne]; omega
    rw [show mostCl f = 64 from if_neg h]
    go_enter Tryd.func36, Tryd.ntmps36
    go_wp2
    go_ret
    exact ⟨rfl, rfl⟩
set_option maxHeartbeats 6400000 in
set_option maxRecDepth 20000 in
theorem rcheckCl_all (bk : Bool) (A : Nat → Option Addr) (c : Nat → Nat) (L : Nat → List Q4) (w : World) (hL : Lists 7 w A c L) :
    Calls Tryd.prog 25 #[vCl bk A c L] w fun e w' => e = .returned (.tuple #[.int .i64 (chkGo (fun f => chkCl f (L f)) 0 7).1, .int .i64 (chkGo (fun f => chkCl f (L f)) 0 7).2]) ∧ Below w.heap.size w w' := by
  have HL := Lib.hid hL
  clear hL
  have KF := Lib.hid (fun f hf W => rfieldCl_any f hf bk A c L W)
  have KB := Lib.hid (fun f hf W => rboundsCl_any f hf W)
  have KM := Lib.hid (fun q lo hi W => rimay_any q lo hi W)
  have KMo := Lib.hid (fun f W => rmost_any f W)
  obtain ⟨E, hE⟩ : ∃ E : Nat → Int, ∀ f, chkCl f (L f) = E f := ⟨fun f => chkCl f (L f), fun _ => rfl⟩
  have HEE := Lib.hid (show ∀ f, E f = if (L f).length = 0 then (if f = 0 then 0 else 11) else if mostCl f < (L f).length then 5 else if (L f).all (okCl f (L f).length) then 0 else 1 from fun f => by rw [← hE]; rfl)
  have HEQ := Lib.hid (show (fun f => chkCl f (L f)) = E from funext hE)
  rw [HEQ.out]
  clear hE
  have HG0 := Lib.hid (blk_new w (.cells #[.slice (A 0) (L 0).length (c 0), .slice (A 1) (L 1).length (c 1), .slice (A 2) (L 2).length (c 2), .slice (A 3) (L 3).length (c 3), .bool bk, .slice (A 4) (L 4).length (c 4), .slice (A 5) (L 5).length (c 5), .slice (A 6) (L 6).length (c 6)] 40))
  have HB0 := Lib.hid (show Below w.heap.size w (w.alloc (.cells #[.slice (A 0) (L 0).length (c 0), .slice (A 1) (L 1).length (c 1), .slice (A 2) (L 2).length (c 2), .slice (A 3) (L 3).length (c 3), .bool bk, .slice (A 4) (L 4).length (c 4), .slice (A 5) (L 5).length (c 5), .slice (A 6) (L 6).length (c 6)] 40)) from (Below.refl _ _).alloc (Nat.le_refl _) _)
  unfold vCl
  go_enter Tryd.func25, Tryd.ntmps25
  go_wp2
  go_loopw [4] (fun i wr => ∃ k : Nat, k ≤ 7 ∧ i = .int .i64 k ∧ chkGo E k (7 - k) = chkGo E 0 7 ∧ wr.heap[w.heap.size]? = some (.cells #[.slice (A 0) (L 0).length (c 0), .slice (A 1) (L 1).length (c 1), .slice (A 2) (L 2).length (c 2), .slice (A 3) (L 3).length (c 3), .bool bk, .slice (A 4) (L 4).length (c 4), .slice (A 5) (L 5).length (c 5), .slice (A 6) (L 6).length (c 6)] 40 (0, 0)) ∧ Below w.heap.size w wr) (fun i _ => 7 - (intOf i).toNat)
  case atStart => exact ⟨0, Nat.zero_le _, rfl, rfl, HG0.out, HB0.out⟩
  case round =>
    obtain ⟨k, hk, rfl, hgo, hg, hb⟩ := hrel
    have HGO := Lib.hid hgo
    have HG := Lib.hid hg
    have HB := Lib.hid hb
    by_cases hlt : k < 7
    · have K1 := KF.out k hlt wr
      have hgl := lt_of_block hg
      have x0 : wr.cell? ⟨w.heap.size, 0, none⟩ = some (.slice (A 0) (L 0).length (c 0)) := blk_cell hg 0
      have x1 : wr.cell? ⟨w.heap.size, 1, none⟩ = some (.slice (A 1) (L 1).length (c 1)) := blk_cell hg 1
      have x2 : wr.cell? ⟨w.heap.size, 2, none⟩ = some (.slice (A 2) (L 2).length (c 2)) := blk_cell hg 2
      have x3 : wr.cell? ⟨w.heap.size, 3, none⟩ = some (.slice (A 3) (L 3).length (c 3)) := blk_cell hg 3
      have x4 : wr.cell? ⟨w.heap.size, 4, none⟩ = some (.bool bk) := blk_cell hg 4
      have x5 : wr.cell? ⟨w.heap.size, 5, none⟩ = some (.slice (A 4) (L 4).length (c 4)) := blk_cell hg 5
      have x6 : wr.cell? ⟨w.heap.size, 6, none⟩ = some (.slice (A 5) (L 5).length (c 5)) := blk_cell hg 6
      have x7 : wr.cell? ⟨w.heap.size, 7, none⟩ = some (.slice (A 6) (L 6).length (c 6)) := blk_cell hg 7
      have HOK := Lib.hid (fun h => chkGo_ok E k (7 - (k + 1)) h)
      have HNO := Lib.hid (fun h => chkGo_no E k (7 - (k + 1)) h)
      rw [show 7 - (k + 1) + 1 = 7 - k by omega] at HOK HNO
      clear hgo hg hb
      unfold vCl at K1
      have dk : decide ((k : Int) < 7) = true := dec_t (by omega)
      go_wp2_with fail
      refine K1.mono ?_
      rintro e w1 ⟨rfl, hb1⟩
      have HB1 := Lib.hid (HB.out.trans (hb1.mono HB.out.size))
      have HG1 := Lib.hid ((hb1.block _ hgl).trans HG.out)
      have HQ1 := Lib.hid ((HL.out k hlt).1.below HB1.out)
      have K2 := KB.out k hlt w1
      have KO := Lib.hid (fun W => KMo.out k W)
      have HEk := Lib.hid (HEE.out k)
      have HAI := Lib.hid (all_iff (okCl k (L k).length) (L k))
      have HAN := Lib.hid (all_no (okCl k (L k).length) (L k))
      have HOC := Lib.hid (show ∀ n q, okCl k n q = (mayB (bdCl k).1 (bdCl k).2 q && !decide (oddP k n q)) from fun n q => rfl)
      clear K1 hb1 x0 x1 x2 x3 x4 x5 x6 x7
      generalize (bdCl k).1 = lo at K2 HOC
      generalize (bdCl k).2 = hi at K2 HOC
      generalize A k = a at HQ1 ⊢
      generalize c k = ck
      generalize L k = qs at HQ1 HEk HAI HAN ⊢
      generalize hEk : E k = ek at HOK HNO HEk
      generalize hmo : mostCl k = mo at KO HEk
      have hmo2 : mo = 400 ∨ mo = 64 := by rw [← hmo]; unfold mostCl; split <;> simp
      have HK := Lib.hid hEk
      clear hEk hmo
      go_wp2_with fail
      refine K2.mono ?_
      rintro e w2 ⟨rfl, rfl⟩
      clear K2
      by_cases hk0 : k = 0
      · have dk0 : decide ((0 : Int) < (k : Int)) = false := dec_n (by omega)
        have dk1 : decide (0 < k) = false := dec_n (by omega)
        have HK0 := Lib.hid hk0
        clear hk0
        by_cases h0 : qs.length = 0
        · have HE2 := Lib.hid (show ek = 0 by rw [HEk.out, if_pos h0, if_pos HK0.out])
          have HN := Lib.hid (HOK.out HE2.out)
          have HQ0 := Lib.hid h0
          have d0 : (((qs.length : Nat) : Int) == 0) = true := by rw [beq_iff_eq]; omega
          have d1 : decide ((mo : Int) < ((qs.length : Nat) : Int)) = false := dec_n (by omega)
          have d2 : decide (mo < qs.length) = false := dec_n (by omega)
          have KO1 := KO.out w1
          clear dk h0
          go_wp2_with fail
          refine KO1.mono ?_
          rintro e w2 ⟨rfl, rfl⟩
          clear KO1
          go_wp2
          clear d0 d1 d2
          go_loop [8] (fun i => i = .int .i64 0) (fun _ => 0)
          case atStart => rfl
          case round =>
            subst hrel
            have dj : decide ((0 : Int) < ((qs.length : Nat) : Int)) = false := dec_n (by have := HQ0.out; omega)
            have dj2 : decide (0 < qs.length) = false := dec_n (by have := HQ0.out; omega)
            go_wp2
            go_roundw
            case rel => exact ⟨k + 1, by omega, by go_num, by rw [← HN.out]; exact HGO.out, HG1.out, HB1.out⟩
            case measure => simp [intOf]; omega
        · have d0 : (((qs.length : Nat) : Int) == 0) = false := by rw [beq_eq_false_iff_ne]; omega
          have KO1 := KO.out w1
          by_cases h1 : mo < qs.length
          · have HX := Lib.hid (HGO.out.symm.trans (HNO.out (by rw [HEk.out, if_neg h0, if_pos h1]; decide)))
            have HX2 := Lib.hid (show ek = 5 by rw [HEk.out, if_neg h0, if_pos h1])
            have d1 : decide ((mo : Int) < ((qs.length : Nat) : Int)) = true := dec_t (by omega)
            have d2 : decide (mo < qs.length) = true := dec_t h1
            clear dk h0 h1 dk0 dk1
            go_wp2_with fail
            refine KO1.mono ?_
            rintro e w2 ⟨rfl, rfl⟩
            go_wp2
            go_ret2
            exact ⟨by rw [HX.out, HX2.out]; rfl, HB1.out⟩
          · have d1 : decide ((mo : Int) < ((qs.length : Nat) : Int)) = false := dec_n (by omega)
            have d2 : decide (mo < qs.length) = false := dec_n h1
            have HE1 := Lib.hid (show ek = if qs.all (okCl k qs.length) then 0 else 1 by rw [HEk.out, if_neg h0, if_neg h1])
            go_wp2_with fail
            refine KO1.mono ?_
            rintro e w2 ⟨rfl, rfl⟩
            clear KO1
            go_wp2
            clear d0 d1 d2 h0 dk dk0 dk1
            obtain ⟨W1, hW1⟩ : ∃ W1, W1 = w1 := ⟨w1, rfl⟩
            subst hW1
            go_loopw [8] (fun i wr2 => ∃ j : Nat, j ≤ qs.length ∧ i = .int .i64 j ∧ Hid (∀ m, m < j → okCl k qs.length (nthQ qs m) = true) ∧ Below W1.heap.size W1 wr2) (fun i _ => qs.length - (intOf i).toNat)
            case atStart => exact ⟨0, Nat.zero_le _, rfl, Lib.hid (fun m hm => by omega), Below.refl _ _⟩
            case round =>
              obtain ⟨j, hj, rfl, HP, hb2⟩ := hrel
              have HB2 := Lib.hid (HB1.out.trans (hb2.mono HB1.out.size))
              have HBW := Lib.hid hb2
              by_cases hjl : j < qs.length
              · obtain ⟨b, off, rfl, hbl, y0, y1, y2, y3⟩ := HQ1.out.below hb2 j hjl
                have HG2 := Lib.hid (show okCl k qs.length (nthQ qs j) = true → ∀ m, m < j + 1 → okCl k qs.length (nthQ qs m) = true from fun h m hm => by
                  by_cases e : m = j
                  · subst e; exact h
                  · exact HP.out m (by omega))
                have HN2 := Lib.hid (HAN.out j hjl)
                clear hb2
                have i0 : (0 : Int) ≤ (j : Int) := by omega
                have i1 : (j : Int) < ((qs.length : Nat) : Int) := by omega
                have HOq := Lib.hid (HOC.out qs.length (nthQ qs j))
                obtain ⟨q, hq⟩ : ∃ q, nthQ qs j = q := ⟨_, rfl⟩
                rw [hq] at y0 y1 y2 y3 HG2 HN2 HOq
                clear hq
                have K3 := KM.out q lo hi wr
                obtain ⟨q0, q1, q2, q3⟩ := q
                simp only [] at y0 y1 y2 y3
                unfold qv at K3
                simp only [] at K3
                have ek0 : ((k : Int) == 0) = true := by have := HK0.out; rw [beq_iff_eq]; omega
                by_cases h0 : q0 = 0
                · have e0 : (q0 == 0) = true := by rw [beq_iff_eq]; omega
                  have hodd : oddP k qs.length (q0, q1, q2, q3) := .inl ⟨HK0.out, .inl h0⟩
                  have hko : okCl k qs.length (q0, q1, q2, q3) = false := by rw [HOq.out, dec_t hodd]; simp
                  have HE2 := Lib.hid (show ek = 1 by rw [HE1.out, HN2.out hko]; rfl)
                  have HX := Lib.hid (HGO.out.symm.trans (HNO.out (by rw [HE2.out]; decide)))
                  clear K3 hko hodd h0
                  go_wp2
                  all_goals (go_ret2; exact ⟨by rw [HX.out, HE2.out]; rfl, HB2.out⟩)
                · have e0 : (q0 == 0) = false := by rw [beq_eq_false_iff_ne]; omega
                  by_cases h3 : q0 = 3
                  · have e3 : (q0 == 3) = true := by rw [beq_iff_eq]; omega
                    have hodd : oddP k qs.length (q0, q1, q2, q3) := .inl ⟨HK0.out, .inr (.inl h3)⟩
                    have hko : okCl k qs.length (q0, q1, q2, q3) = false := by rw [HOq.out, dec_t hodd]; simp
                    have HE2 := Lib.hid (show ek = 1 by rw [HE1.out, HN2.out hko]; rfl)
                    have HX := Lib.hid (HGO.out.symm.trans (HNO.out (by rw [HE2.out]; decide)))
                    clear K3 hko hodd h0 h3
                    go_wp2
                    all_goals (go_ret2; exact ⟨by rw [HX.out, HE2.out]; rfl, HB2.out⟩)
                  · have e3 : (q0 == 3) = false := by rw [beq_eq_false_iff_ne]; omega
                    by_cases h4 : 1 < q3
                    · have d4 : decide (1 < q3) = true := dec_t h4
                      have hodd : oddP k qs.length (q0, q1, q2, q3) := .inl ⟨HK0.out, .inr (.inr h4)⟩
                      have hko : okCl k qs.length (q0, q1, q2, q3) = false := by rw [HOq.out, dec_t hodd]; simp
                      have HE2 := Lib.hid (show ek = 1 by rw [HE1.out, HN2.out hko]; rfl)
                      have HX := Lib.hid (HGO.out.symm.trans (HNO.out (by rw [HE2.out]; decide)))
                      clear K3 hko hodd h0 h3 h4
                      go_wp2
                      all_goals (go_ret2; exact ⟨by rw [HX.out, HE2.out]; rfl, HB2.out⟩)
                    · have d4 : decide (1 < q3) = false := dec_n h4
                      have hodd : ¬ oddP k qs.length (q0, q1, q2, q3) := (fun h => by have hk := HK0.out; unfold oddP at h; dsimp only at h; omega)
                      cases hm : mayB lo hi (q0, q1, q2, q3)
                      · rw [hm] at K3
                        have hko : okCl k qs.length (q0, q1, q2, q3) = false := by rw [HOq.out, hm]; rfl
                        have HE2 := Lib.hid (show ek = 1 by rw [HE1.out, HN2.out hko]; rfl)
                        have HX := Lib.hid (HGO.out.symm.trans (HNO.out (by rw [HE2.out]; decide)))
                        clear hko hm hodd h0 h3 h4
                        go_wp2_with fail
                        refine K3.mono ?_
                        rintro e w4 ⟨rfl, hb4⟩
                        go_wp2
                        go_ret2
                        exact ⟨by rw [HX.out, HE2.out]; rfl, HB2.out.trans (hb4.mono HB2.out.size)⟩
                      · rw [hm] at K3
                        have HP2 := Lib.hid (HG2.out (by rw [HOq.out, hm, dec_n hodd]; rfl))
                        clear hm hodd h0 h3 h4
                        go_wp2_with fail
                        refine K3.mono ?_
                        rintro e w4 ⟨rfl, hb4⟩
                        have HB4 := Lib.hid (HBW.out.trans (hb4.mono HBW.out.size))
                        clear K3 hb4
                        go_wp2
                        go_roundw
                        case rel => exact ⟨j + 1, by omega, by go_num, HP2, HB4.out⟩
                        case measure => simp [intOf]; omega
              · obtain rfl : j = qs.length := by omega
                have HE2 := Lib.hid (show ek = 0 by rw [HE1.out, HAI.out.2 HP.out]; rfl)
                have HN := Lib.hid (HOK.out HE2.out)
                have HG3 := Lib.hid ((hb2.block _ (lt_of_block HG1.out)).trans HG1.out)
                clear hb2 hjl
                go_wp2
                go_roundw
                case rel => exact ⟨k + 1, by omega, by go_num, by rw [← HN.out]; exact HGO.out, HG3.out, HB2.out⟩
                case measure => simp [intOf]; omega
      · have dk0 : decide ((0 : Int) < (k : Int)) = true := dec_t (by omega)
        have dk1 : decide (0 < k) = true := dec_t (by omega)
        have HK0 := Lib.hid hk0
        clear hk0
        by_cases h0 : qs.length = 0
        · have HX := Lib.hid (HGO.out.symm.trans (HNO.out (by rw [HEk.out, if_pos h0, if_neg HK0.out]; decide)))
          have HX2 := Lib.hid (show ek = 11 by rw [HEk.out, if_pos h0, if_neg HK0.out])
          have d0 : (((qs.length : Nat) : Int) == 0) = true := by rw [beq_iff_eq]; omega
          clear dk h0
          go_wp2
          go_ret2
          exact ⟨by rw [HX.out, HX2.out]; rfl, HB1.out⟩
        · have d0 : (((qs.length : Nat) : Int) == 0) = false := by rw [beq_eq_false_iff_ne]; omega
          have KO1 := KO.out w1
          by_cases h1 : mo < qs.length
          · have HX := Lib.hid (HGO.out.symm.trans (HNO.out (by rw [HEk.out, if_neg h0, if_pos h1]; decide)))
            have HX2 := Lib.hid (show ek = 5 by rw [HEk.out, if_neg h0, if_pos h1])
            have d1 : decide ((mo : Int) < ((qs.length : Nat) : Int)) = true := dec_t (by omega)
            have d2 : decide (mo < qs.length) = true := dec_t h1
            clear dk h0 h1 dk0 dk1
            go_wp2_with fail
            refine KO1.mono ?_
            rintro e w2 ⟨rfl, rfl⟩
            go_wp2
            go_ret2
            exact ⟨by rw [HX.out, HX2.out]; rfl, HB1.out⟩
          · have d1 : decide ((mo : Int) < ((qs.length : Nat) : Int)) = false := dec_n (by omega)
            have d2 : decide (mo < qs.length) = false := dec_n h1
            have HE1 := Lib.hid (show ek = if qs.all (okCl k qs.length) then 0 else 1 by rw [HEk.out, if_neg h0, if_neg h1])
            go_wp2_with fail
            refine KO1.mono ?_
            rintro e w2 ⟨rfl, rfl⟩
            clear KO1
            go_wp2
            clear d0 d1 d2 h0 dk dk0 dk1
            obtain ⟨W1, hW1⟩ : ∃ W1, W1 = w1 := ⟨w1, rfl⟩
            subst hW1
            go_loopw [8] (fun i wr2 => ∃ j : Nat, j ≤ qs.length ∧ i = .int .i64 j ∧ Hid (∀ m, m < j → okCl k qs.length (nthQ qs m) = true) ∧ Below W1.heap.size W1 wr2) (fun i _ => qs.length - (intOf i).toNat)
            case atStart => exact ⟨0, Nat.zero_le _, rfl, Lib.hid (fun m hm => by omega), Below.refl _ _⟩
            case round =>
              obtain ⟨j, hj, rfl, HP, hb2⟩ := hrel
              have HB2 := Lib.hid (HB1.out.trans (hb2.mono HB1.out.size))
              have HBW := Lib.hid hb2
              by_cases hjl : j < qs.length
              · obtain ⟨b, off, rfl, hbl, y0, y1, y2, y3⟩ := HQ1.out.below hb2 j hjl
                have HG2 := Lib.hid (show okCl k qs.length (nthQ qs j) = true → ∀ m, m < j + 1 → okCl k qs.length (nthQ qs m) = true from fun h m hm => by
                  by_cases e : m = j
                  · subst e; exact h
                  · exact HP.out m (by omega))
                have HN2 := Lib.hid (HAN.out j hjl)
                clear hb2
                have i0 : (0 : Int) ≤ (j : Int) := by omega
                have i1 : (j : Int) < ((qs.length : Nat) : Int) := by omega
                have HOq := Lib.hid (HOC.out qs.length (nthQ qs j))
                obtain ⟨q, hq⟩ : ∃ q, nthQ qs j = q := ⟨_, rfl⟩
                rw [hq] at y0 y1 y2 y3 HG2 HN2 HOq
                clear hq
                have K3 := KM.out q lo hi wr
                obtain ⟨q0, q1, q2, q3⟩ := q
                simp only [] at y0 y1 y2 y3
                unfold qv at K3
                simp only [] at K3
                have ek0 : ((k : Int) == 0) = false := by have := HK0.out; rw [beq_eq_false_iff_ne]; omega
                by_cases h0 : q0 = 0
                · have e0 : (q0 == 0) = true := by rw [beq_iff_eq]; omega
                  by_cases hn : 1 < qs.length
                  · have d1 : decide ((1 : Int) < ((qs.length : Nat) : Int)) = true := dec_t (by omega)
                    have d2 : decide (1 < qs.length) = true := dec_t hn
                    have hodd : oddP k qs.length (q0, q1, q2, q3) := .inr ⟨HK0.out, h0, .inl hn⟩
                    have hko : okCl k qs.length (q0, q1, q2, q3) = false := by rw [HOq.out, dec_t hodd]; simp
                    have HE2 := Lib.hid (show ek = 1 by rw [HE1.out, HN2.out hko]; rfl)
                    have HX := Lib.hid (HGO.out.symm.trans (HNO.out (by rw [HE2.out]; decide)))
                    clear K3 hko hodd h0 hn
                    go_wp2
                    all_goals (go_ret2; exact ⟨by rw [HX.out, HE2.out]; rfl, HB2.out⟩)
                  · have d1 : decide ((1 : Int) < ((qs.length : Nat) : Int)) = false := dec_n (by omega)
                    have d2 : decide (1 < qs.length) = false := dec_n hn
                    by_cases h3 : q3 = 1
                    · have e3 : (q3 == 1) = true := by rw [beq_iff_eq]; exact h3
                      have e3' : (q3 != 1) = false := by rw [bne_eq_false_iff_eq]; exact h3
                      have hodd : ¬ oddP k qs.length (q0, q1, q2, q3) := (fun h => by have hk := HK0.out; unfold oddP at h; dsimp only at h; omega)
                      cases hm : mayB lo hi (q0, q1, q2, q3)
                      · rw [hm] at K3
                        have hko : okCl k qs.length (q0, q1, q2, q3) = false := by rw [HOq.out, hm]; rfl
                        have HE2 := Lib.hid (show ek = 1 by rw [HE1.out, HN2.out hko]; rfl)
                        have HX := Lib.hid (HGO.out.symm.trans (HNO.out (by rw [HE2.out]; decide)))
                        clear hko hm hodd h0 hn h3
                        go_wp2_with fail
                        refine K3.mono ?_
                        rintro e w4 ⟨rfl, hb4⟩
                        go_wp2
                        go_ret2
                        exact ⟨by rw [HX.out, HE2.out]; rfl, HB2.out.trans (hb4.mono HB2.out.size)⟩
                      · rw [hm] at K3
                        have HP2 := Lib.hid (HG2.out (by rw [HOq.out, hm, dec_n hodd]; rfl))
                        clear hm hodd h0 hn h3
                        go_wp2_with fail
                        refine K3.mono ?_
                        rintro e w4 ⟨rfl, hb4⟩
                        have HB4 := Lib.hid (HBW.out.trans (hb4.mono HBW.out.size))
                        clear K3 hb4
                        go_wp2
                        go_roundw
                        case rel => exact ⟨j + 1, by omega, by go_num, HP2, HB4.out⟩
                        case measure => simp [intOf]; omega
                    · have e3 : (q3 == 1) = false := by rw [beq_eq_false_iff_ne]; exact h3
                      have e3' : (q3 != 1) = true := by rw [bne_iff_ne]; exact h3
                      have hodd : oddP k qs.length (q0, q1, q2, q3) := .inr ⟨HK0.out, h0, .inr h3⟩
                      have hko : okCl k qs.length (q0, q1, q2, q3) = false := by rw [HOq.out, dec_t hodd]; simp
                      have HE2 := Lib.hid (show ek = 1 by rw [HE1.out, HN2.out hko]; rfl)
                      have HX := Lib.hid (HGO.out.symm.trans (HNO.out (by rw [HE2.out]; decide)))
                      clear K3 hko hodd h0 hn h3
                      go_wp2
                      all_goals (go_ret2; exact ⟨by rw [HX.out, HE2.out]; rfl, HB2.out⟩)
                · have e0 : (q0 == 0) = false := by rw [beq_eq_false_iff_ne]; omega
                  have hodd : ¬ oddP k qs.length (q0, q1, q2, q3) := (fun h => by have hk := HK0.out; unfold oddP at h; dsimp only at h; omega)
                  cases hm : mayB lo hi (q0, q1, q2, q3)
                  · rw [hm] at K3
                    have hko : okCl k qs.length (q0, q1, q2, q3) = false := by rw [HOq.out, hm]; rfl
                    have HE2 := Lib.hid (show ek = 1 by rw [HE1.out, HN2.out hko]; rfl)
                    have HX := Lib.hid (HGO.out.symm.trans (HNO.out (by rw [HE2.out]; decide)))
                    clear hko hm hodd h0
                    go_wp2_with fail
                    refine K3.mono ?_
                    rintro e w4 ⟨rfl, hb4⟩
                    go_wp2
                    go_ret2
                    exact ⟨by rw [HX.out, HE2.out]; rfl, HB2.out.trans (hb4.mono HB2.out.size)⟩
                  · rw [hm] at K3
                    have HP2 := Lib.hid (HG2.out (by rw [HOq.out, hm, dec_n hodd]; rfl))
                    clear hm hodd h0
                    go_wp2_with fail
                    refine K3.mono ?_
                    rintro e w4 ⟨rfl, hb4⟩
                    have HB4 := Lib.hid (HBW.out.trans (hb4.mono HBW.out.size))
                    clear K3 hb4
                    go_wp2
                    go_roundw
                    case rel => exact ⟨j + 1, by omega, by go_num, HP2, HB4.out⟩
                    case measure => simp [intOf]; omega
              · obtain rfl : j = qs.length := by omega
                have HE2 := Lib.hid (show ek = 0 by rw [HE1.out, HAI.out.2 HP.out]; rfl)
                have HN := Lib.hid (HOK.out HE2.out)
                have HG3 := Lib.hid ((hb2.block _ (lt_of_block HG1.out)).trans HG1.out)
                clear hb2 hjl
                go_wp2
                go_roundw
                case rel => exact ⟨k + 1, by omega, by go_num, by rw [← HN.out]; exact HGO.out, HG3.out, HB2.out⟩
                case measure => simp [intOf]; omega
    · obtain rfl : k = 7 := by omega
      have HX := Lib.hid (show chkGo E 0 7 = (7, 0) from HGO.out.symm)
      clear hgo hg hb hlt
      go_wp2
      go_ret2
      exact ⟨by rw [HX.out]; rfl, HB.out⟩
end Go.Proofs.YtjgifiaokmmjfaaDoor
