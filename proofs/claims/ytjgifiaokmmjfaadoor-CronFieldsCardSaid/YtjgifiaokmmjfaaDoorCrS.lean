/- Contracts of Same of package cron and of the document (layers 24, 28). -/
import Derived.Test.YtjgifiaokmmjfaaDoorCrE
import Derived.Deep.RegionHeld3
import Derived.LoopTactic
import Derived.BigRegion
namespace Go.Proofs.YtjgifiaokmmjfaaDoor
open Go.RowKit
set_option linter.unusedVariables false

theorem qbelow {w w' : World} (h : Quiet w w') : Below w.heap.size w w' := by obtain ⟨n, rfl⟩ := h; exact below_draws _ w n
def sameR (n : Nat) (L1 L2 : Nat → List Q4) : Bool := (List.range n).all fun f => sameQ (L1 f) (L2 f)
theorem sameR_yes (n : Nat) (L1 L2 : Nat → List Q4) (h : ∀ f, f < n → L1 f = L2 f) : sameR n L1 L2 = true := by
  unfold sameR
  rw [List.all_eq_true]
  intro f hf
  exact decide_eq_true (h f (List.mem_range.1 hf))
theorem sameR_no (n : Nat) (L1 L2 : Nat → List Q4) (f : Nat) (hf : f < n) (h : L1 f ≠ L2 f) : sameR n L1 L2 = false := by
  cases hs : sameR n L1 L2
  · rfl
  · unfold sameR at hs
    rw [List.all_eq_true] at hs
    exact absurd (of_decide_eq_true (hs f (List.mem_range.2 hf))) h
theorem reg_below {W0 X : World} {P : Prop} (H : Below W0.heap.size W0 X ∧ P) : Below W0.heap.size W0 X := H.1
theorem keepCr {W0 X Y : World} {g d : Nat} {p0 p1 p2 p3 p4 q0 q1 q2 q3 q4 : Value} (hg : g < W0.heap.size) (hd : d < W0.heap.size) (hb : Below X.heap.size X Y)
    (H : Below W0.heap.size W0 X ∧ X.cell? ⟨g, 0, none⟩ = some p0 ∧ X.cell? ⟨g, 1, none⟩ = some p1 ∧ X.cell? ⟨g, 2, none⟩ = some p2 ∧ X.cell? ⟨g, 3, none⟩ = some p3 ∧ X.cell? ⟨g, 4, none⟩ = some p4 ∧ X.cell? ⟨d, 0, none⟩ = some q0 ∧ X.cell? ⟨d, 1, none⟩ = some q1 ∧ X.cell? ⟨d, 2, none⟩ = some q2 ∧ X.cell? ⟨d, 3, none⟩ = some q3 ∧ X.cell? ⟨d, 4, none⟩ = some q4) : Below W0.heap.size W0 Y ∧ Y.cell? ⟨g, 0, none⟩ = some p0 ∧ Y.cell? ⟨g, 1, none⟩ = some p1 ∧ Y.cell? ⟨g, 2, none⟩ = some p2 ∧ Y.cell? ⟨g, 3, none⟩ = some p3 ∧ Y.cell? ⟨g, 4, none⟩ = some p4 ∧ Y.cell? ⟨d, 0, none⟩ = some q0 ∧ Y.cell? ⟨d, 1, none⟩ = some q1 ∧ Y.cell? ⟨d, 2, none⟩ = some q2 ∧ Y.cell? ⟨d, 3, none⟩ = some q3 ∧ Y.cell? ⟨d, 4, none⟩ = some q4 := by
  obtain ⟨h1, u0, u1, u2, u3, u4, u5, u6, u7, u8, u9⟩ := H
  have hz := h1.size
  have c : ∀ i v, X.cell? ⟨g, i, none⟩ = some v → Y.cell? ⟨g, i, none⟩ = some v := fun i v h => (hb.cell (p := ⟨g, i, none⟩) (by show g < _; omega)).trans h
  have e : ∀ i v, X.cell? ⟨d, i, none⟩ = some v → Y.cell? ⟨d, i, none⟩ = some v := fun i v h => (hb.cell (p := ⟨d, i, none⟩) (by show d < _; omega)).trans h
  exact ⟨h1.trans (hb.mono h1.size), c _ _ u0, c _ _ u1, c _ _ u2, c _ _ u3, c _ _ u4, e _ _ u5, e _ _ u6, e _ _ u7, e _ _ u8, e _ _ u9⟩
set_option maxHeartbeats 6400000 in
set_option maxRecDepth 100000 in
theorem sameCr_any (A1 A2 : Nat → Option Addr) (c1 c2 : Nat → Nat) (L1 L2 : Nat → List Q4) (w : World) (hL1 : Lists 5 w A1 c1 L1) (hL2 : Lists 5 w A2 c2 L2) (hl1 : ∀ f, f < 5 → (L1 f).length ≤ 1000000) (hl2 : ∀ f, f < 5 → (L2 f).length ≤ 1000000) :
    Calls Tryd.prog 20 #[vCr A1 c1 L1, vCr A2 c2 L2] w fun e w' => e = .returned (.bool (sameR 5 L1 L2)) ∧ Below w.heap.size w w' := by
  obtain ⟨W0, hW0⟩ : ∃ W0, (w.alloc (.cells #[.slice (A1 0) (L1 0).length (c1 0), .slice (A1 1) (L1 1).length (c1 1), .slice (A1 2) (L1 2).length (c1 2), .slice (A1 3) (L1 3).length (c1 3), .slice (A1 4) (L1 4).length (c1 4)] 24)).alloc (.cells #[.slice (A2 0) (L2 0).length (c2 0), .slice (A2 1) (L2 1).length (c2 1), .slice (A2 2) (L2 2).length (c2 2), .slice (A2 3) (L2 3).length (c2 3), .slice (A2 4) (L2 4).length (c2 4)] 24) = W0 := ⟨_, rfl⟩
  have HB0 := Lib.hid (show Below w.heap.size w W0 by rw [← hW0]; exact ((Below.refl _ _).alloc (Nat.le_refl _) _).alloc (by simp) _)
  have h0 : W0.heap[w.heap.size]? = some (.cells #[.slice (A1 0) (L1 0).length (c1 0), .slice (A1 1) (L1 1).length (c1 1), .slice (A1 2) (L1 2).length (c1 2), .slice (A1 3) (L1 3).length (c1 3), .slice (A1 4) (L1 4).length (c1 4)] 24 (0, 0)) := by rw [← hW0]; exact blk_more (blk_new w _) _
  have h1 : W0.heap[w.heap.size + 1]? = some (.cells #[.slice (A2 0) (L2 0).length (c2 0), .slice (A2 1) (L2 1).length (c2 1), .slice (A2 2) (L2 2).length (c2 2), .slice (A2 3) (L2 3).length (c2 3), .slice (A2 4) (L2 4).length (c2 4)] 24 (0, 0)) := by
    rw [← hW0]
    have := blk_new (w.alloc (.cells #[.slice (A1 0) (L1 0).length (c1 0), .slice (A1 1) (L1 1).length (c1 1), .slice (A1 2) (L1 2).length (c1 2), .slice (A1 3) (L1 3).length (c1 3), .slice (A1 4) (L1 4).length (c1 4)] 24)) (.cells #[.slice (A2 0) (L2 0).length (c2 0), .slice (A2 1) (L2 1).length (c2 1), .slice (A2 2) (L2 2).length (c2 2), .slice (A2 3) (L2 3).length (c2 3), .slice (A2 4) (L2 4).length (c2 4)] 24)
    rw [World.size_alloc] at this
    exact this
  have HG0 := Lib.hid h0
  have HD0 := Lib.hid h1
  have HL1 := Lib.hid hL1
  have HL2 := Lib.hid hL2
  have HY := Lib.hid (sameR_yes 5 L1 L2)
  have HN := Lib.hid (sameR_no 5 L1 L2)
  obtain ⟨sr, hsr⟩ : ∃ sr, sameR 5 L1 L2 = sr := ⟨_, rfl⟩
  rw [hsr] at HY HN
  rw [hsr]
  clear h0 h1 hL1 hL2 hsr
  have HLe1 := Lib.hid hl1
  have HLe2 := Lib.hid hl2
  clear hl1 hl2
  unfold vCr
  go_enter Tryd.func20, Tryd.ntmps20
  go_wp2
  try rw [hW0]
  clear hW0
  go_loopw [9] (fun i wr => ∃ k : Nat, k ≤ 5 ∧ i = .int .i64 k ∧ Hid (∀ f, f < k → L1 f = L2 f) ∧ wr.heap[w.heap.size]? = some (.cells #[.slice (A1 0) (L1 0).length (c1 0), .slice (A1 1) (L1 1).length (c1 1), .slice (A1 2) (L1 2).length (c1 2), .slice (A1 3) (L1 3).length (c1 3), .slice (A1 4) (L1 4).length (c1 4)] 24 (0, 0)) ∧ wr.heap[w.heap.size + 1]? = some (.cells #[.slice (A2 0) (L2 0).length (c2 0), .slice (A2 1) (L2 1).length (c2 1), .slice (A2 2) (L2 2).length (c2 2), .slice (A2 3) (L2 3).length (c2 3), .slice (A2 4) (L2 4).length (c2 4)] 24 (0, 0)) ∧ Below w.heap.size w wr) (fun i _ => 5 - (intOf i).toNat)
  case atStart => exact ⟨0, Nat.zero_le _, rfl, Lib.hid (fun f hf => by omega), HG0.out, HD0.out, HB0.out⟩
  case round =>
    obtain ⟨k, hk, rfl, HP, hg, hd, hb⟩ := hrel
    have HG := Lib.hid hg
    have HD := Lib.hid hd
    have HB := Lib.hid hb
    by_cases hlt : k < 5
    · obtain ⟨W3, hW3⟩ : ∃ W3, W3 = wr := ⟨wr, rfl⟩
      subst hW3
      have hgl := lt_of_block hg
      have hdl := lt_of_block hd
      have x0 : W3.cell? ⟨w.heap.size, 0, none⟩ = some (.slice (A1 0) (L1 0).length (c1 0)) := blk_cell hg 0
      have x1 : W3.cell? ⟨w.heap.size, 1, none⟩ = some (.slice (A1 1) (L1 1).length (c1 1)) := blk_cell hg 1
      have x2 : W3.cell? ⟨w.heap.size, 2, none⟩ = some (.slice (A1 2) (L1 2).length (c1 2)) := blk_cell hg 2
      have x3 : W3.cell? ⟨w.heap.size, 3, none⟩ = some (.slice (A1 3) (L1 3).length (c1 3)) := blk_cell hg 3
      have x4 : W3.cell? ⟨w.heap.size, 4, none⟩ = some (.slice (A1 4) (L1 4).length (c1 4)) := blk_cell hg 4
      have y0 : W3.cell? ⟨w.heap.size + 1, 0, none⟩ = some (.slice (A2 0) (L2 0).length (c2 0)) := blk_cell hd 0
      have y1 : W3.cell? ⟨w.heap.size + 1, 1, none⟩ = some (.slice (A2 1) (L2 1).length (c2 1)) := blk_cell hd 1
      have y2 : W3.cell? ⟨w.heap.size + 1, 2, none⟩ = some (.slice (A2 2) (L2 2).length (c2 2)) := blk_cell hd 2
      have y3 : W3.cell? ⟨w.heap.size + 1, 3, none⟩ = some (.slice (A2 3) (L2 3).length (c2 3)) := blk_cell hd 3
      have y4 : W3.cell? ⟨w.heap.size + 1, 4, none⟩ = some (.slice (A2 4) (L2 4).length (c2 4)) := blk_cell hd 4
      have HS := keepCr hgl hdl (show Below W3.heap.size W3 W3.drew from (Below.refl _ _).drew) ⟨Below.refl _ _, x0, x1, x2, x3, x4, y0, y1, y2, y3, y4⟩
      have HLW1 := Lib.hid (HL1.out.below hb)
      have HLW2 := Lib.hid (HL2.out.below hb)
      have K6 : ∀ W, Lists 5 W A1 c1 L1 → Calls Tryd.prog 17 #[.agg #[.slice (A1 0) (L1 0).length (c1 0), .slice (A1 1) (L1 1).length (c1 1), .slice (A1 2) (L1 2).length (c1 2), .slice (A1 3) (L1 3).length (c1 3), .slice (A1 4) (L1 4).length (c1 4)], .int .i64 (k : Int)] W fun e w' => ∃ P p, e = .returned (.slice P (L1 k).length p) ∧ ItemsAt w' P (L1 k) ∧ Below W.heap.size W w' :=
        fun W hW => (fieldCr_any k hlt A1 c1 L1 W hW (HLe1.out k hlt)).mono (fun e w' ⟨P, p, q1, q2, q3, _⟩ => ⟨P, p, q1, q2, q3⟩)
      have K7 : ∀ W, Lists 5 W A2 c2 L2 → Calls Tryd.prog 17 #[.agg #[.slice (A2 0) (L2 0).length (c2 0), .slice (A2 1) (L2 1).length (c2 1), .slice (A2 2) (L2 2).length (c2 2), .slice (A2 3) (L2 3).length (c2 3), .slice (A2 4) (L2 4).length (c2 4)], .int .i64 (k : Int)] W fun e w' => ∃ P p, e = .returned (.slice P (L2 k).length p) ∧ ItemsAt w' P (L2 k) ∧ Below W.heap.size W w' :=
        fun W hW => (fieldCr_any k hlt A2 c2 L2 W hW (HLe2.out k hlt)).mono (fun e w' ⟨P, p, q1, q2, q3, _⟩ => ⟨P, p, q1, q2, q3⟩)
      have dk : decide ((k : Int) < 5) = true := dec_t (by omega)
      clear hg hd hb x0 x1 x2 x3 x4 y0 y1 y2 y3 y4
      go_wp2_with fail
      go_region_held3 (fun w' => Below W3.heap.size W3 w' ∧ w'.cell? ⟨w.heap.size, 0, none⟩ = some (.slice (A1 0) (L1 0).length (c1 0)) ∧ w'.cell? ⟨w.heap.size, 1, none⟩ = some (.slice (A1 1) (L1 1).length (c1 1)) ∧ w'.cell? ⟨w.heap.size, 2, none⟩ = some (.slice (A1 2) (L1 2).length (c1 2)) ∧ w'.cell? ⟨w.heap.size, 3, none⟩ = some (.slice (A1 3) (L1 3).length (c1 3)) ∧ w'.cell? ⟨w.heap.size, 4, none⟩ = some (.slice (A1 4) (L1 4).length (c1 4)) ∧ w'.cell? ⟨w.heap.size + 1, 0, none⟩ = some (.slice (A2 0) (L2 0).length (c2 0)) ∧ w'.cell? ⟨w.heap.size + 1, 1, none⟩ = some (.slice (A2 1) (L2 1).length (c2 1)) ∧ w'.cell? ⟨w.heap.size + 1, 2, none⟩ = some (.slice (A2 2) (L2 2).length (c2 2)) ∧ w'.cell? ⟨w.heap.size + 1, 3, none⟩ = some (.slice (A2 3) (L2 3).length (c2 3)) ∧ w'.cell? ⟨w.heap.size + 1, 4, none⟩ = some (.slice (A2 4) (L2 4).length (c2 4))) (first | exact HS | exact keepCr hgl hdl (by assumption) (by assumption)) (first | (go_at_call 17; with_reducible refine (K6 _ (HLW1.out.below (reg_below (by assumption)))).mono ?_; rintro e w2 ⟨P1, p1, rfl, hat1, hb1⟩) | (go_at_call 17; with_reducible refine (K7 _ (HLW2.out.below (reg_below (by assumption)))).mono ?_; rintro e w2 ⟨P2, p2, rfl, hat2, hb2⟩))
      have hH : Below W3.heap.size W3 w2 := reg_below (by assumption)
      have HI1 := Lib.hid (hat1.below hb2)
      have HI2 := Lib.hid hat2
      have HG2 := Lib.hid ((hH.block _ hgl).trans HG.out)
      have HD2 := Lib.hid ((hH.block _ hdl).trans HD.out)
      have HB2 := Lib.hid (HB.out.trans (hH.mono HB.out.size))
      rename_i hHeld
      clear hHeld hat1 hb1 hat2 hb2 HS K6 K7 hH
      have hll1 := HLe1.out k hlt
      have hll2 := HLe2.out k hlt
      have HNk := Lib.hid (HN.out k hlt)
      have HPk := Lib.hid (show L1 k = L2 k → ∀ f, f < k + 1 → L1 f = L2 f from fun h f hf => by
        by_cases e : f = k
        · subst e; exact h
        · exact HP.out f (by omega))
      generalize hq1 : L1 k = qs at HI1 HNk HPk hll1
      generalize hq2 : L2 k = rs at HI2 HNk HPk hll2
      have HQ1 := Lib.hid hq1
      have HQ2 := Lib.hid hq2
      clear hq1 hq2
      by_cases hn : qs.length = rs.length
      · have HNL := Lib.hid hn
        have dn : (((qs.length : Nat) : Int) == ((rs.length : Nat) : Int)) = true := by rw [beq_iff_eq]; omega
        have dm : (((qs.length : Nat) : Int) != ((rs.length : Nat) : Int)) = false := by rw [bne_eq_false_iff_eq]; omega
        clear hn
        obtain ⟨W4, hW4⟩ : ∃ W4, W4 = w2 := ⟨w2, rfl⟩
        subst hW4
        go_wp2
        clear dn dm dk
        go_loopw [25] (fun i wr3 => ∃ j : Nat, j ≤ qs.length ∧ i = .int .i64 j ∧ Hid (∀ m, m < j → nthQ qs m = nthQ rs m) ∧ Quiet W4 wr3) (fun i _ => qs.length - (intOf i).toNat)
        case atStart => exact ⟨0, Nat.zero_le _, rfl, Lib.hid (fun m hm => by omega), Quiet.refl _⟩
        case round =>
          obtain ⟨j, hj, rfl, HPj, hq⟩ := hrel
          have QQ := Lib.hid hq
          clear hq
          by_cases hjl : j < qs.length
          · have hjl2 : j < rs.length := by have := HNL.out; omega
            obtain ⟨bb1, o1, rfl, _, x0, x1, x2, x3⟩ := HI1.out j hjl
            obtain ⟨bb2, o2, rfl, _, y0, y1, y2, y3⟩ := HI2.out j hjl2
            rw [← QQ.out.cell] at x0 x1 x2 x3 y0 y1 y2 y3
            have i0 : (0 : Int) ≤ (j : Int) := by omega
            have i1 : (j : Int) < ((qs.length : Nat) : Int) := by omega
            have i2 : (j : Int) < ((rs.length : Nat) : Int) := by omega
            by_cases he : nthQ qs j = nthQ rs j
            · have HPj2 := Lib.hid (show ∀ m, m < j + 1 → nthQ qs m = nthQ rs m from fun m hm => by
                by_cases ej : m = j
                · subst ej; exact he
                · exact HPj.out m (by omega))
              rw [← he] at y0 y1 y2 y3
              generalize nthQ qs j = q at x0 x1 x2 x3 y0 y1 y2 y3
              obtain ⟨q0, q1, q2, q3⟩ := q
              simp only [] at x0 x1 x2 x3 y0 y1 y2 y3
              clear he
              go_wp2
              go_quiet (fail)
              go_wp2
              go_roundw
              case rel => exact ⟨j + 1, by omega, by go_num, HPj2, QQ.out.trans (Quiet.of _ _)⟩
              case measure => simp [intOf]; omega
            · have HX := Lib.hid (HNk.out (fun h => he (by rw [h])))
              have hne := q_ne he
              generalize nthQ qs j = q at x0 x1 x2 x3 hne
              generalize nthQ rs j = r at y0 y1 y2 y3 hne
              obtain ⟨q0, q1, q2, q3⟩ := q
              obtain ⟨r0, r1, r2, r3⟩ := r
              simp only [] at x0 x1 x2 x3 y0 y1 y2 y3 hne
              clear he
              by_cases e0 : q0 = r0
              · subst e0
                by_cases e1 : q1 = r1
                · subst e1
                  by_cases e2 : q2 = r2
                  · subst e2
                    have e3 : (q3 == r3) = false := by rw [beq_eq_false_iff_ne]; exact fun h => hne ⟨rfl, rfl, rfl, h⟩
                    clear hne
                    go_wp2
                    go_quiet (fail)
                    go_wp2
                    go_ret
                    exact ⟨by rw [HX.out]; rfl, (HB2.out.trans ((qbelow QQ.out).mono HB2.out.size)).trans (below_draws _ _ _)⟩
                  · have e2' : (q2 == r2) = false := by rw [beq_eq_false_iff_ne]; exact e2
                    clear hne e2
                    go_wp2
                    go_quiet (fail)
                    go_wp2
                    go_ret
                    exact ⟨by rw [HX.out]; rfl, (HB2.out.trans ((qbelow QQ.out).mono HB2.out.size)).trans (below_draws _ _ _)⟩
                · have e1' : (q1 == r1) = false := by rw [beq_eq_false_iff_ne]; exact e1
                  clear hne e1
                  go_wp2
                  go_quiet (fail)
                  go_wp2
                  go_ret
                  exact ⟨by rw [HX.out]; rfl, (HB2.out.trans ((qbelow QQ.out).mono HB2.out.size)).trans (below_draws _ _ _)⟩
              · have e0' : (q0 == r0) = false := by rw [beq_eq_false_iff_ne]; exact e0
                clear hne e0
                go_wp2
                go_quiet (fail)
                go_wp2
                go_ret
                exact ⟨by rw [HX.out]; rfl, (HB2.out.trans ((qbelow QQ.out).mono HB2.out.size)).trans (below_draws _ _ _)⟩
          · obtain rfl : j = qs.length := by omega
            have HPk2 := Lib.hid (HPk.out (qs_ext HNL.out HPj.out))
            clear hjl
            go_wp2
            go_roundw
            case rel => exact ⟨k + 1, by omega, by go_num, HPk2, (qbelow QQ.out).block _ (lt_of_block HG2.out) |>.trans HG2.out, (qbelow QQ.out).block _ (lt_of_block HD2.out) |>.trans HD2.out, HB2.out.trans ((qbelow QQ.out).mono HB2.out.size)⟩
            case measure => simp [intOf]; omega
      · have dn : (((qs.length : Nat) : Int) == ((rs.length : Nat) : Int)) = false := by rw [beq_eq_false_iff_ne]; omega
        have dm : (((qs.length : Nat) : Int) != ((rs.length : Nat) : Int)) = true := by rw [bne_iff_ne]; omega
        have HX := Lib.hid (HNk.out (fun h => hn (by rw [h])))
        clear hn
        go_wp2
        go_ret
        exact ⟨by rw [HX.out]; rfl, HB2.out⟩
    · obtain rfl : k = 5 := by omega
      have HX := Lib.hid (HY.out HP.out)
      clear hg hd hb hlt
      go_wp2
      go_ret
      exact ⟨by rw [HX.out]; rfl, HB.out⟩
set_option maxHeartbeats 6400000 in
set_option maxRecDepth 100000 in
theorem rsameCr_any (A1 A2 : Nat → Option Addr) (c1 c2 : Nat → Nat) (L1 L2 : Nat → List Q4) (w : World) (hL1 : Lists 5 w A1 c1 L1) (hL2 : Lists 5 w A2 c2 L2) (hl1 : ∀ f, f < 5 → (L1 f).length ≤ 1000000) (hl2 : ∀ f, f < 5 → (L2 f).length ≤ 1000000) :
    Calls Tryd.prog 21 #[vCr A1 c1 L1, vCr A2 c2 L2] w fun e w' => e = .returned (.bool (sameR 5 L1 L2)) ∧ Below w.heap.size w w' := by
  obtain ⟨W0, hW0⟩ : ∃ W0, (w.alloc (.cells #[.slice (A1 0) (L1 0).length (c1 0), .slice (A1 1) (L1 1).length (c1 1), .slice (A1 2) (L1 2).length (c1 2), .slice (A1 3) (L1 3).length (c1 3), .slice (A1 4) (L1 4).length (c1 4)] 24)).alloc (.cells #[.slice (A2 0) (L2 0).length (c2 0), .slice (A2 1) (L2 1).length (c2 1), .slice (A2 2) (L2 2).length (c2 2), .slice (A2 3) (L2 3).length (c2 3), .slice (A2 4) (L2 4).length (c2 4)] 24) = W0 := ⟨_, rfl⟩
  have HB0 := Lib.hid (show Below w.heap.size w W0 by rw [← hW0]; exact ((Below.refl _ _).alloc (Nat.le_refl _) _).alloc (by simp) _)
  have h0 : W0.heap[w.heap.size]? = some (.cells #[.slice (A1 0) (L1 0).length (c1 0), .slice (A1 1) (L1 1).length (c1 1), .slice (A1 2) (L1 2).length (c1 2), .slice (A1 3) (L1 3).length (c1 3), .slice (A1 4) (L1 4).length (c1 4)] 24 (0, 0)) := by rw [← hW0]; exact blk_more (blk_new w _) _
  have h1 : W0.heap[w.heap.size + 1]? = some (.cells #[.slice (A2 0) (L2 0).length (c2 0), .slice (A2 1) (L2 1).length (c2 1), .slice (A2 2) (L2 2).length (c2 2), .slice (A2 3) (L2 3).length (c2 3), .slice (A2 4) (L2 4).length (c2 4)] 24 (0, 0)) := by
    rw [← hW0]
    have := blk_new (w.alloc (.cells #[.slice (A1 0) (L1 0).length (c1 0), .slice (A1 1) (L1 1).length (c1 1), .slice (A1 2) (L1 2).length (c1 2), .slice (A1 3) (L1 3).length (c1 3), .slice (A1 4) (L1 4).length (c1 4)] 24)) (.cells #[.slice (A2 0) (L2 0).length (c2 0), .slice (A2 1) (L2 1).length (c2 1), .slice (A2 2) (L2 2).length (c2 2), .slice (A2 3) (L2 3).length (c2 3), .slice (A2 4) (L2 4).length (c2 4)] 24)
    rw [World.size_alloc] at this
    exact this
  have HG0 := Lib.hid h0
  have HD0 := Lib.hid h1
  have HL1 := Lib.hid hL1
  have HL2 := Lib.hid hL2
  have HY := Lib.hid (sameR_yes 5 L1 L2)
  have HN := Lib.hid (sameR_no 5 L1 L2)
  obtain ⟨sr, hsr⟩ : ∃ sr, sameR 5 L1 L2 = sr := ⟨_, rfl⟩
  rw [hsr] at HY HN
  rw [hsr]
  clear h0 h1 hL1 hL2 hsr
  have HLe1 := Lib.hid hl1
  have HLe2 := Lib.hid hl2
  clear hl1 hl2
  unfold vCr
  go_enter Tryd.func21, Tryd.ntmps21
  go_wp2
  try rw [hW0]
  clear hW0
  go_loopw [5] (fun i wr => ∃ k : Nat, k ≤ 5 ∧ i = .int .i64 k ∧ Hid (∀ f, f < k → L1 f = L2 f) ∧ wr.heap[w.heap.size]? = some (.cells #[.slice (A1 0) (L1 0).length (c1 0), .slice (A1 1) (L1 1).length (c1 1), .slice (A1 2) (L1 2).length (c1 2), .slice (A1 3) (L1 3).length (c1 3), .slice (A1 4) (L1 4).length (c1 4)] 24 (0, 0)) ∧ wr.heap[w.heap.size + 1]? = some (.cells #[.slice (A2 0) (L2 0).length (c2 0), .slice (A2 1) (L2 1).length (c2 1), .slice (A2 2) (L2 2).length (c2 2), .slice (A2 3) (L2 3).length (c2 3), .slice (A2 4) (L2 4).length (c2 4)] 24 (0, 0)) ∧ Below w.heap.size w wr) (fun i _ => 5 - (intOf i).toNat)
  case atStart => exact ⟨0, Nat.zero_le _, rfl, Lib.hid (fun f hf => by omega), HG0.out, HD0.out, HB0.out⟩
  case round =>
    obtain ⟨k, hk, rfl, HP, hg, hd, hb⟩ := hrel
    have HG := Lib.hid hg
    have HD := Lib.hid hd
    have HB := Lib.hid hb
    by_cases hlt : k < 5
    · obtain ⟨W3, hW3⟩ : ∃ W3, W3 = wr := ⟨wr, rfl⟩
      subst hW3
      have hgl := lt_of_block hg
      have hdl := lt_of_block hd
      have x0 : W3.cell? ⟨w.heap.size, 0, none⟩ = some (.slice (A1 0) (L1 0).length (c1 0)) := blk_cell hg 0
      have x1 : W3.cell? ⟨w.heap.size, 1, none⟩ = some (.slice (A1 1) (L1 1).length (c1 1)) := blk_cell hg 1
      have x2 : W3.cell? ⟨w.heap.size, 2, none⟩ = some (.slice (A1 2) (L1 2).length (c1 2)) := blk_cell hg 2
      have x3 : W3.cell? ⟨w.heap.size, 3, none⟩ = some (.slice (A1 3) (L1 3).length (c1 3)) := blk_cell hg 3
      have x4 : W3.cell? ⟨w.heap.size, 4, none⟩ = some (.slice (A1 4) (L1 4).length (c1 4)) := blk_cell hg 4
      have y0 : W3.cell? ⟨w.heap.size + 1, 0, none⟩ = some (.slice (A2 0) (L2 0).length (c2 0)) := blk_cell hd 0
      have y1 : W3.cell? ⟨w.heap.size + 1, 1, none⟩ = some (.slice (A2 1) (L2 1).length (c2 1)) := blk_cell hd 1
      have y2 : W3.cell? ⟨w.heap.size + 1, 2, none⟩ = some (.slice (A2 2) (L2 2).length (c2 2)) := blk_cell hd 2
      have y3 : W3.cell? ⟨w.heap.size + 1, 3, none⟩ = some (.slice (A2 3) (L2 3).length (c2 3)) := blk_cell hd 3
      have y4 : W3.cell? ⟨w.heap.size + 1, 4, none⟩ = some (.slice (A2 4) (L2 4).length (c2 4)) := blk_cell hd 4
      have HS := keepCr hgl hdl (show Below W3.heap.size W3 W3.drew from (Below.refl _ _).drew) ⟨Below.refl _ _, x0, x1, x2, x3, x4, y0, y1, y2, y3, y4⟩
      have HI1 := Lib.hid ((HL1.out k hlt).1.below hb)
      have HI2 := Lib.hid ((HL2.out k hlt).1.below hb)
      have K6 : ∀ W, Calls Tryd.prog 14 #[.agg #[.slice (A1 0) (L1 0).length (c1 0), .slice (A1 1) (L1 1).length (c1 1), .slice (A1 2) (L1 2).length (c1 2), .slice (A1 3) (L1 3).length (c1 3), .slice (A1 4) (L1 4).length (c1 4)], .int .i64 (k : Int)] W fun e w' => e = .returned (.slice (A1 k) (L1 k).length (c1 k)) ∧ Below W.heap.size W w' := fun W => rfieldCr_any k hlt A1 c1 L1 W
      have K7 : ∀ W, Calls Tryd.prog 14 #[.agg #[.slice (A2 0) (L2 0).length (c2 0), .slice (A2 1) (L2 1).length (c2 1), .slice (A2 2) (L2 2).length (c2 2), .slice (A2 3) (L2 3).length (c2 3), .slice (A2 4) (L2 4).length (c2 4)], .int .i64 (k : Int)] W fun e w' => e = .returned (.slice (A2 k) (L2 k).length (c2 k)) ∧ Below W.heap.size W w' := fun W => rfieldCr_any k hlt A2 c2 L2 W
      have K8 := fun W h1 h2 => isame_any (A1 k) (A2 k) (c1 k) (c2 k) (L1 k) (L2 k) W (HLe1.out k hlt) (HLe2.out k hlt) h1 h2
      have HNk := Lib.hid (HN.out k hlt)
      have HPk := Lib.hid (show L1 k = L2 k → ∀ f, f < k + 1 → L1 f = L2 f from fun h f hf => by
        by_cases e : f = k
        · subst e; exact h
        · exact HP.out f (by omega))
      have dk : decide ((k : Int) < 5) = true := dec_t (by omega)
      cases hs : sameQ (L1 k) (L2 k)
      all_goals rw [hs] at K8
      all_goals clear hg hd hb x0 x1 x2 x3 x4 y0 y1 y2 y3 y4
      all_goals go_wp2_with fail
      all_goals go_region_held3 (fun w' => Below W3.heap.size W3 w' ∧ w'.cell? ⟨w.heap.size, 0, none⟩ = some (.slice (A1 0) (L1 0).length (c1 0)) ∧ w'.cell? ⟨w.heap.size, 1, none⟩ = some (.slice (A1 1) (L1 1).length (c1 1)) ∧ w'.cell? ⟨w.heap.size, 2, none⟩ = some (.slice (A1 2) (L1 2).length (c1 2)) ∧ w'.cell? ⟨w.heap.size, 3, none⟩ = some (.slice (A1 3) (L1 3).length (c1 3)) ∧ w'.cell? ⟨w.heap.size, 4, none⟩ = some (.slice (A1 4) (L1 4).length (c1 4)) ∧ w'.cell? ⟨w.heap.size + 1, 0, none⟩ = some (.slice (A2 0) (L2 0).length (c2 0)) ∧ w'.cell? ⟨w.heap.size + 1, 1, none⟩ = some (.slice (A2 1) (L2 1).length (c2 1)) ∧ w'.cell? ⟨w.heap.size + 1, 2, none⟩ = some (.slice (A2 2) (L2 2).length (c2 2)) ∧ w'.cell? ⟨w.heap.size + 1, 3, none⟩ = some (.slice (A2 3) (L2 3).length (c2 3)) ∧ w'.cell? ⟨w.heap.size + 1, 4, none⟩ = some (.slice (A2 4) (L2 4).length (c2 4))) (first | exact HS | exact keepCr hgl hdl (by assumption) (by assumption)) (first | (go_at_call 14; with_reducible refine (K6 _).mono ?_; rintro e w2 ⟨rfl, hb1⟩) | (go_at_call 14; with_reducible refine (K7 _).mono ?_; rintro e w2 ⟨rfl, hb2⟩) | (go_at_call 16; with_reducible refine (K8 _ (HI1.out.below (reg_below (by assumption))) (HI2.out.below (reg_below (by assumption)))).mono ?_; rintro e w2 ⟨rfl, hq⟩; have hb3 := qbelow hq))
      · have hH : Below W3.heap.size W3 w2 := reg_below (by assumption)
        have HB2 := Lib.hid (HB.out.trans (hH.mono HB.out.size))
        have HX := Lib.hid (HNk.out (of_decide_eq_false hs))
        clear hs
        go_wp2
        go_ret
        exact ⟨by rw [HX.out]; rfl, HB2.out⟩
      · have hH : Below W3.heap.size W3 w2 := reg_below (by assumption)
        have HB2 := Lib.hid (HB.out.trans (hH.mono HB.out.size))
        have HG2 := Lib.hid ((hH.block _ hgl).trans HG.out)
        have HD2 := Lib.hid ((hH.block _ hdl).trans HD.out)
        have HPk2 := Lib.hid (HPk.out (of_decide_eq_true hs))
        clear hs dk
        go_wp2
        go_roundw
        case rel => exact ⟨k + 1, by omega, by go_num, HPk2, HG2.out, HD2.out, HB2.out⟩
        case measure => simp [intOf]; omega
    · obtain rfl : k = 5 := by omega
      have HX := Lib.hid (HY.out HP.out)
      clear hg hd hb hlt
      go_wp2
      go_ret
      exact ⟨by rw [HX.out]; rfl, HB.out⟩
end Go.Proofs.YtjgifiaokmmjfaaDoor
