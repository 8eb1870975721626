/- Contract of the document's Check of a line (layer 24). -/
import Derived.Test.YtahlegempjlbbaaDoorCrC
import Derived.Test.YtahlegempjlbbaaDoorItmB
namespace Go.Proofs.YtahlegempjlbbaaDoor
open Go.RowKit
set_option linter.unusedVariables false

set_option maxHeartbeats 3200000 in
set_option maxRecDepth 20000 in
theorem rcheckCr_all (A : Nat → Option Addr) (c : Nat → Nat) (L : Nat → List Q4) (w : World) (hL : Lists 5 w A c L) :
    Calls Tryd.prog 7 #[vCr A c L] w fun e w' => e = .returned (.tuple #[.int .i64 (chkGo (fun f => chkCr f (L f)) 0 5).1, .int .i64 (chkGo (fun f => chkCr f (L f)) 0 5).2]) ∧ Below w.heap.size w w' := by
  have HL := Lib.hid hL
  clear hL
  have KF := Lib.hid (fun f hf W => rfieldCr_any f hf A c L W)
  have KB := Lib.hid (fun f hf W => rboundsCr_any f hf W)
  have KM := Lib.hid (fun q lo hi W => rimay_any q lo hi W)
  obtain ⟨E, hE⟩ : ∃ E : Nat → Int, ∀ f, chkCr f (L f) = E f := ⟨fun f => chkCr f (L f), fun _ => rfl⟩
  have HEE := Lib.hid (show ∀ f, E f = if (L f).length = 0 then 11 else if 64 < (L f).length then 5 else if (L f).all (okCr f) then 0 else 1 from fun f => by rw [← hE]; rfl)
  have HEQ := Lib.hid (show (fun f => chkCr f (L f)) = E from funext hE)
  rw [HEQ.out]
  clear hE
  have HG0 := Lib.hid (blk_new w (.cells #[.slice (A 0) (L 0).length (c 0), .slice (A 1) (L 1).length (c 1), .slice (A 2) (L 2).length (c 2), .slice (A 3) (L 3).length (c 3), .slice (A 4) (L 4).length (c 4)] 24))
  have HB0 := Lib.hid (show Below w.heap.size w (w.alloc (.cells #[.slice (A 0) (L 0).length (c 0), .slice (A 1) (L 1).length (c 1), .slice (A 2) (L 2).length (c 2), .slice (A 3) (L 3).length (c 3), .slice (A 4) (L 4).length (c 4)] 24)) from (Below.refl _ _).alloc (Nat.le_refl _) _)
  unfold vCr
  go_enter Tryd.func7, Tryd.ntmps7
  go_wp2
  go_loopw [4] (fun i wr => ∃ k : Nat, k ≤ 5 ∧ i = .int .i64 k ∧ chkGo E k (5 - k) = chkGo E 0 5 ∧ wr.heap[w.heap.size]? = some (.cells #[.slice (A 0) (L 0).length (c 0), .slice (A 1) (L 1).length (c 1), .slice (A 2) (L 2).length (c 2), .slice (A 3) (L 3).length (c 3), .slice (A 4) (L 4).length (c 4)] 24 (0, 0)) ∧ Below w.heap.size w wr) (fun i _ => 5 - (intOf i).toNat)
  case atStart => exact ⟨0, Nat.zero_le _, rfl, rfl, HG0.out, HB0.out⟩
  case round =>
    obtain ⟨k, hk, rfl, hgo, hg, hb⟩ := hrel
    have HGO := Lib.hid hgo
    have HG := Lib.hid hg
    have HB := Lib.hid hb
    by_cases hlt : k < 5
    · have K1 := KF.out k hlt wr
      have hgl := lt_of_block hg
      have x0 : wr.cell? ⟨w.heap.size, 0, none⟩ = some (.slice (A 0) (L 0).length (c 0)) := blk_cell hg 0
      have x1 : wr.cell? ⟨w.heap.size, 1, none⟩ = some (.slice (A 1) (L 1).length (c 1)) := blk_cell hg 1
      have x2 : wr.cell? ⟨w.heap.size, 2, none⟩ = some (.slice (A 2) (L 2).length (c 2)) := blk_cell hg 2
      have x3 : wr.cell? ⟨w.heap.size, 3, none⟩ = some (.slice (A 3) (L 3).length (c 3)) := blk_cell hg 3
      have x4 : wr.cell? ⟨w.heap.size, 4, none⟩ = some (.slice (A 4) (L 4).length (c 4)) := blk_cell hg 4
      have HOK := Lib.hid (fun h => chkGo_ok E k (5 - (k + 1)) h)
      have HNO := Lib.hid (fun h => chkGo_no E k (5 - (k + 1)) h)
      rw [show 5 - (k + 1) + 1 = 5 - k by omega] at HOK HNO
      clear hgo hg hb
      unfold vCr at K1
      have dk : decide ((k : Int) < 5) = true := dec_t (by omega)
      go_wp2_with fail
      refine K1.mono ?_
      rintro e w1 ⟨rfl, hb1⟩
      have HB1 := Lib.hid (HB.out.trans (hb1.mono HB.out.size))
      have HG1 := Lib.hid ((hb1.block _ hgl).trans HG.out)
      have HQ1 := Lib.hid ((HL.out k hlt).1.below HB1.out)
      have K2 := KB.out k hlt w1
      have HEk := Lib.hid (HEE.out k)
      have HAI := Lib.hid (all_iff (okCr k) (L k))
      have HAN := Lib.hid (all_no (okCr k) (L k))
      have HOC := Lib.hid (show ∀ q, okCr k q = (mayB (bdCr k).1 (bdCr k).2 q && !restB q) from fun q => rfl)
      clear K1 hb1 x0 x1 x2 x3 x4
      generalize (bdCr k).1 = lo at K2 HOC
      generalize (bdCr k).2 = hi at K2 HOC
      generalize A k = a at HQ1 ⊢
      generalize c k = ck
      generalize L k = qs at HQ1 HEk HAI HAN ⊢
      generalize hEk : E k = ek at HOK HNO HEk
      have HK := Lib.hid hEk
      clear hEk
      go_wp2_with fail
      refine K2.mono ?_
      rintro e w2 ⟨rfl, rfl⟩
      clear K2
      by_cases h0 : qs.length = 0
      · have HX := Lib.hid (HGO.out.symm.trans (HNO.out (by rw [HEk.out, if_pos h0]; decide)))
        have HX2 := Lib.hid (show ek = 11 by rw [HEk.out, if_pos h0])
        have d0 : (((qs.length : Nat) : Int) == 0) = true := by rw [beq_iff_eq]; omega
        clear dk h0
        go_wp2
        go_ret2
        exact ⟨by rw [HX.out, HX2.out]; rfl, HB1.out⟩
      · have d0 : (((qs.length : Nat) : Int) == 0) = false := by rw [beq_eq_false_iff_ne]; omega
        by_cases h1 : 64 < qs.length
        · have HX := Lib.hid (HGO.out.symm.trans (HNO.out (by rw [HEk.out, if_neg h0, if_pos h1]; decide)))
          have HX2 := Lib.hid (show ek = 5 by rw [HEk.out, if_neg h0, if_pos h1])
          have d1 : decide ((64 : Int) < ((qs.length : Nat) : Int)) = true := dec_t (by omega)
          have d2 : decide (64 < qs.length) = true := dec_t h1
          clear dk h0 h1
          go_wp2
          go_ret2
          exact ⟨by rw [HX.out, HX2.out]; rfl, HB1.out⟩
        · have d1 : decide ((64 : Int) < ((qs.length : Nat) : Int)) = false := dec_n (by omega)
          have d2 : decide (64 < qs.length) = false := dec_n h1
          have HE1 := Lib.hid (show ek = if qs.all (okCr k) then 0 else 1 by rw [HEk.out, if_neg h0, if_neg h1])
          go_wp2
          clear d0 d1 d2 h0 dk
          obtain ⟨W1, hW1⟩ : ∃ W1, W1 = w1 := ⟨w1, rfl⟩
          subst hW1
          go_loopw [8] (fun i wr2 => ∃ j : Nat, j ≤ qs.length ∧ i = .int .i64 j ∧ Hid (∀ m, m < j → okCr k (nthQ qs m) = true) ∧ Below W1.heap.size W1 wr2) (fun i _ => qs.length - (intOf i).toNat)
          case atStart => exact ⟨0, Nat.zero_le _, rfl, Lib.hid (fun m hm => by omega), Below.refl _ _⟩
          case round =>
            obtain ⟨j, hj, rfl, HP, hb2⟩ := hrel
            have HB2 := Lib.hid (HB1.out.trans (hb2.mono HB1.out.size))
            have HBW := Lib.hid hb2
            by_cases hjl : j < qs.length
            · obtain ⟨b, off, rfl, hbl, y0, y1, y2, y3⟩ := HQ1.out.below hb2 j hjl
              have HG2 := Lib.hid (show okCr k (nthQ qs j) = true → ∀ m, m < j + 1 → okCr k (nthQ qs m) = true from fun h m hm => by
                by_cases e : m = j
                · subst e; exact h
                · exact HP.out m (by omega))
              have HN2 := Lib.hid (HAN.out j hjl)
              clear hb2
              have i0 : (0 : Int) ≤ (j : Int) := by omega
              have i1 : (j : Int) < ((qs.length : Nat) : Int) := by omega
              have HOq := Lib.hid (HOC.out (nthQ qs j))
              obtain ⟨q, hq⟩ : ∃ q, nthQ qs j = q := ⟨_, rfl⟩
              rw [hq] at y0 y1 y2 y3 HG2 HN2 HOq
              clear hq
              have K3 := KM.out q lo hi wr
              obtain ⟨q0, q1, q2, q3⟩ := q
              simp only [] at y0 y1 y2 y3
              unfold qv at K3
              simp only [] at K3
              by_cases h3 : q0 = 3
              · have e3 : (q0 == 3) = true := by rw [beq_iff_eq]; exact h3
                have hko : okCr k (q0, q1, q2, q3) = false := by rw [HOq.out]; unfold restB; rw [dec_t h3]; simp
                have HE2 := Lib.hid (show ek = 1 by rw [HE1.out, HN2.out hko]; rfl)
                have HX := Lib.hid (HGO.out.symm.trans (HNO.out (by rw [HE2.out]; decide)))
                clear h3 hko
                go_wp2
                go_ret2
                exact ⟨by rw [HX.out, HE2.out]; rfl, HB2.out⟩
              · have e3 : (q0 == 3) = false := by rw [beq_eq_false_iff_ne]; exact h3
                have hr3 : restB (q0, q1, q2, q3) = false := dec_n h3
                cases hm : mayB lo hi (q0, q1, q2, q3)
                · rw [hm] at K3
                  have hko : okCr k (q0, q1, q2, q3) = false := by rw [HOq.out, hm]; rfl
                  have HE2 := Lib.hid (show ek = 1 by rw [HE1.out, HN2.out hko]; rfl)
                  have HX := Lib.hid (HGO.out.symm.trans (HNO.out (by rw [HE2.out]; decide)))
                  clear h3 hko hr3 hm
                  go_wp2_with fail
                  refine K3.mono ?_
                  rintro e w4 ⟨rfl, hb4⟩
                  go_wp2
                  go_ret2
                  exact ⟨by rw [HX.out, HE2.out]; rfl, HB2.out.trans (hb4.mono HB2.out.size)⟩
                · rw [hm] at K3
                  have HP2 := Lib.hid (HG2.out (by rw [HOq.out, hm, hr3]; rfl))
                  clear h3 hr3 hm
                  go_wp2_with fail
                  refine K3.mono ?_
                  rintro e w4 ⟨rfl, hb4⟩
                  have HB4 := Lib.hid (HBW.out.trans (hb4.mono HBW.out.size))
                  clear K3 hb4
                  go_wp2
                  go_roundw
                  case rel => exact ⟨j + 1, by omega, by go_num, HP2, HB4.out⟩
                  case measure => simp [intOf]; omega
            · obtain rfl : j = qs.length := by omega
              have HE2 := Lib.hid (show ek = 0 by rw [HE1.out, HAI.out.2 HP.out]; rfl)
              have HN := Lib.hid (HOK.out HE2.out)
              have HG3 := Lib.hid ((hb2.block _ (lt_of_block HG1.out)).trans HG1.out)
              clear hb2 hjl
              go_wp2
              go_roundw
              case rel => exact ⟨k + 1, by omega, by go_num, by rw [← HN.out]; exact HGO.out, HG3.out, HB2.out⟩
              case measure => simp [intOf]; omega
    · obtain rfl : k = 5 := by omega
      have HX := Lib.hid (show chkGo E 0 5 = (5, 0) from HGO.out.symm)
      clear hgo hg hb hlt
      go_wp2
      go_ret2
      exact ⟨by rw [HX.out]; rfl, HB.out⟩
end Go.Proofs.YtahlegempjlbbaaDoor
