/- What is wrong with a rule, by the document (layer 32): Check. -/
import Derived.Test.YtigbbepgfofcoaaDoorRlD
import Derived.Deep.RegionHeld3
namespace Go.Proofs.YtigbbepgfofcoaaDoor
open Go.RowKit
set_option linter.unusedVariables false

theorem RlAt.ints {w : World} {r : Rl} (h : RlAt w r) (i : Nat) (hi : i < 5) : Ints .i64 w (r.A i) (r.Z i) := h.1 i hi
/-- is it an instant of the window? -/
def inWn (t : Int) : Bool := decide (0 ≤ t) && decide (t < 12622780800)
theorem rin32_any (t : Int) (w : World) : Calls Tryd.prog 53 #[.int .i64 t] w fun e w' => e = .returned (.bool (inWn t)) ∧ w = w' := by
  unfold inWn
  by_cases h1 : 0 ≤ t
  · have d1 : decide (0 ≤ t) = true := dec_t h1
    by_cases h2 : t < 12622780800
    · have d2 : decide (t < 12622780800) = true := dec_t h2
      have d3 : decide (t ≤ 12622780799) = true := dec_t (by omega)
      clear h1 h2
      go_enter Tryd.func53, Tryd.ntmps53
      go_wp2
      go_ret
      exact ⟨by rw [d1, d2]; rfl, rfl⟩
    · have d2 : decide (t < 12622780800) = false := dec_n h2
      have d3 : decide (t ≤ 12622780799) = false := dec_n (by omega)
      clear h1 h2
      go_enter Tryd.func53, Tryd.ntmps53
      go_wp2
      go_ret
      exact ⟨by rw [d1, d2]; rfl, rfl⟩
  · have d1 : decide (0 ≤ t) = false := dec_n h1
    clear h1
    go_enter Tryd.func53, Tryd.ntmps53
    go_wp2
    go_ret
    exact ⟨by rw [d1]; rfl, rfl⟩
/-- the first number that isn't 0 -/
def fstE : List Int → Int
  | [] => 0
  | e :: es => if e = 0 then fstE es else e
theorem fst_drop (es : List Int) (k : Nat) (h : k < es.length) : fstE (es.drop k) = if es[k]?.getD 0 = 0 then fstE (es.drop (k + 1)) else es[k]?.getD 0 := by
  rw [List.drop_eq_getElem_cons h, List.getElem?_eq_getElem h]; rfl
/-- are a rule's numbers out of their bounds? -/
def numB (r : Rl) : Bool := !inWn r.start || (decide (r.freq < 0) || (decide (6 < r.freq) || (decide (r.itv < 1) || (decide (1000000000000000 < r.itv) || (decide (r.cnt < 0) || decide (1000000000000000 < r.cnt))))))
def listsE (r : Rl) : List Int := [lstE 1 12 (r.Z 0), daysE r, weeksE r, lstE 0 23 (r.Z 2), lstE 0 59 (r.Z 3), lstE 0 59 (r.Z 4)]
/-- what is wrong with a rule -/
def chkE (r : Rl) : Int := if numB r = true then 4 else if ((r.unt != -1) && !inWn r.unt) = true then 4 else if ((r.unt != -1) && decide (0 < r.cnt)) = true then 12 else fstE (listsE r)
set_option maxHeartbeats 3200000 in
set_option maxRecDepth 20000 in
theorem rcheck32_any (r : Rl) (w : World) (hr : RlAt w r) (hin : RlIn r) (hN : r.N.length ≤ 100000) :
    Calls Tryd.prog 9 #[rlV r] w fun e w' => e = .returned (.int .i64 (chkE r)) ∧ Below w.heap.size w w' := by
  have HG0 := Lib.hid (blk_new w (.cells (rlC r) 25))
  have HB0 := Lib.hid (show Below w.heap.size w (w.alloc (.cells (rlC r) 25)) from (Below.refl _ _).alloc (Nat.le_refl _) _)
  have HR := Lib.hid hr
  have KI := Lib.hid (fun W => rin32_any r.start W)
  have KU := Lib.hid (fun W => rin32_any r.unt W)
  have KD := Lib.hid (fun W h => rdays_any r W h hin)
  have KW := Lib.hid (fun W h => rweeks_any r W h hin hN)
  have KA := Lib.hid (fun W h => rlst_any (r.A 0) (r.c 0) (r.Z 0) 1 12 W (hin.2.2.2.2.2.1 0 (by decide)).2 h)
  have KB := Lib.hid (fun W h => rlst_any (r.A 2) (r.c 2) (r.Z 2) 0 23 W (hin.2.2.2.2.2.1 2 (by decide)).2 h)
  have KC := Lib.hid (fun W h => rlst_any (r.A 3) (r.c 3) (r.Z 3) 0 59 W (hin.2.2.2.2.2.1 3 (by decide)).2 h)
  have KE := Lib.hid (fun W h => rlst_any (r.A 4) (r.c 4) (r.Z 4) 0 59 W (hin.2.2.2.2.2.1 4 (by decide)).2 h)
  have HE := Lib.hid (show chkE r = if numB r = true then 4 else if ((r.unt != -1) && !inWn r.unt) = true then 4 else if ((r.unt != -1) && decide (0 < r.cnt)) = true then 12 else fstE [lstE 1 12 (r.Z 0), daysE r, weeksE r, lstE 0 23 (r.Z 2), lstE 0 59 (r.Z 3), lstE 0 59 (r.Z 4)] from rfl)
  have HNB := Lib.hid (show numB r = (!inWn r.start || (decide (r.freq < 0) || (decide (6 < r.freq) || (decide (r.itv < 1) || (decide (1000000000000000 < r.itv) || (decide (r.cnt < 0) || decide (1000000000000000 < r.cnt))))))) from rfl)
  generalize chkE r = res at HE ⊢
  generalize numB r = nb at HE HNB
  generalize inWn r.start = is at KI HNB
  generalize inWn r.unt = iu at KU HE
  generalize lstE 1 12 (r.Z 0) = e0 at KA HE
  generalize daysE r = e1 at KD HE
  generalize weeksE r = e2 at KW HE
  generalize lstE 0 23 (r.Z 2) = e3 at KB HE
  generalize lstE 0 59 (r.Z 3) = e4 at KC HE
  generalize lstE 0 59 (r.Z 4) = e5 at KE HE
  obtain ⟨W0, hW0⟩ : ∃ W0, w.alloc (.cells (rlC r) 25) = W0 := ⟨_, rfl⟩
  rw [hW0] at HG0 HB0
  have x0 : W0.cell? ⟨w.heap.size, 0, none⟩ = some (.int .i64 r.start) := blk_cell HG0.out 0
  have x1 : W0.cell? ⟨w.heap.size, 1, none⟩ = some (.int .i64 r.freq) := blk_cell HG0.out 1
  have x2 : W0.cell? ⟨w.heap.size, 2, none⟩ = some (.int .i64 r.itv) := blk_cell HG0.out 2
  have x3 : W0.cell? ⟨w.heap.size, 3, none⟩ = some (.int .i64 r.cnt) := blk_cell HG0.out 3
  have x4 : W0.cell? ⟨w.heap.size, 4, none⟩ = some (.int .i64 r.unt) := blk_cell HG0.out 4
  have x5 : W0.cell? ⟨w.heap.size, 5, none⟩ = some (.slice (r.A 0) (r.Z 0).length (r.c 0)) := blk_cell HG0.out 5
  have x6 : W0.cell? ⟨w.heap.size, 6, none⟩ = some (.slice (r.A 1) (r.Z 1).length (r.c 1)) := blk_cell HG0.out 6
  have x7 : W0.cell? ⟨w.heap.size, 7, none⟩ = some (.slice r.AW r.N.length r.cw) := blk_cell HG0.out 7
  have x8 : W0.cell? ⟨w.heap.size, 8, none⟩ = some (.slice (r.A 2) (r.Z 2).length (r.c 2)) := blk_cell HG0.out 8
  have x9 : W0.cell? ⟨w.heap.size, 9, none⟩ = some (.slice (r.A 3) (r.Z 3).length (r.c 3)) := blk_cell HG0.out 9
  have x10 : W0.cell? ⟨w.heap.size, 10, none⟩ = some (.slice (r.A 4) (r.Z 4).length (r.c 4)) := blk_cell HG0.out 10
  unfold rlV rlC at KD KW
  unfold rlV rlC
  unfold rlC at hW0
  clear hr hin hN
  obtain ⟨p1, hp1⟩ : ∃ p, decide (r.freq < 0) = p := ⟨_, rfl⟩
  obtain ⟨p2, hp2⟩ : ∃ p, decide (6 < r.freq) = p := ⟨_, rfl⟩
  obtain ⟨p3, hp3⟩ : ∃ p, decide (r.itv < 1) = p := ⟨_, rfl⟩
  obtain ⟨p4, hp4⟩ : ∃ p, decide (1000000000000000 < r.itv) = p := ⟨_, rfl⟩
  obtain ⟨p5, hp5⟩ : ∃ p, decide (r.cnt < 0) = p := ⟨_, rfl⟩
  obtain ⟨p6, hp6⟩ : ∃ p, decide (1000000000000000 < r.cnt) = p := ⟨_, rfl⟩
  rw [hp1, hp2, hp3, hp4, hp5, hp6] at HNB
  go_enter Tryd.func9, Tryd.ntmps9
  go_wp2_with fail
  try rw [hW0]
  clear hW0
  refine (KI.out _).mono ?_
  rintro e w1 ⟨rfl, rfl⟩
  cases nb
  case true =>
    have HX := Lib.hid (show res = 4 by rw [HE.out, if_pos rfl])
    cases is
    · go_wp2_with fail
      go_ret
      exact ⟨by rw [HX.out]; rfl, HB0.out⟩
    · cases p1
      · cases p2
        · cases p3
          · cases p4
            · cases p5
              · cases p6
                · exact absurd HNB.out (by simp)
                · go_wp2_with fail
                  go_ret
                  exact ⟨by rw [HX.out]; rfl, HB0.out⟩
              · go_wp2_with fail
                go_ret
                exact ⟨by rw [HX.out]; rfl, HB0.out⟩
            · go_wp2_with fail
              go_ret
              exact ⟨by rw [HX.out]; rfl, HB0.out⟩
          · go_wp2_with fail
            go_ret
            exact ⟨by rw [HX.out]; rfl, HB0.out⟩
        · go_wp2_with fail
          go_ret
          exact ⟨by rw [HX.out]; rfl, HB0.out⟩
      · go_wp2_with fail
        go_ret
        exact ⟨by rw [HX.out]; rfl, HB0.out⟩
  case false =>
    have hnb := HNB.out
    simp only [Bool.false_eq, Bool.or_eq_false_iff, Bool.not_eq_false'] at hnb
    obtain ⟨rfl, rfl, rfl, rfl, rfl, rfl, rfl⟩ := hnb
    have HE1 := Lib.hid (HE.out.trans (if_neg (by simp)))
    clear HE HNB
    obtain ⟨u, hu⟩ : ∃ p, (r.unt != -1) = p := ⟨_, rfl⟩
    obtain ⟨v, hv⟩ : ∃ p, decide (0 < r.cnt) = p := ⟨_, rfl⟩
    rw [hu, hv] at HE1
    have HR0 := Lib.hid (HR.out.below HB0.out)
    have HMK := Lib.hid (fun (Y : World) (hb : Below W0.heap.size W0 Y) => show Below W0.heap.size W0 Y ∧ Y.cell? ⟨w.heap.size, 0, none⟩ = some (.int .i64 r.start) ∧ Y.cell? ⟨w.heap.size, 1, none⟩ = some (.int .i64 r.freq) ∧ Y.cell? ⟨w.heap.size, 2, none⟩ = some (.int .i64 r.itv) ∧ Y.cell? ⟨w.heap.size, 3, none⟩ = some (.int .i64 r.cnt) ∧ Y.cell? ⟨w.heap.size, 4, none⟩ = some (.int .i64 r.unt) ∧ Y.cell? ⟨w.heap.size, 5, none⟩ = some (.slice (r.A 0) (r.Z 0).length (r.c 0)) ∧ Y.cell? ⟨w.heap.size, 6, none⟩ = some (.slice (r.A 1) (r.Z 1).length (r.c 1)) ∧ Y.cell? ⟨w.heap.size, 7, none⟩ = some (.slice r.AW r.N.length r.cw) ∧ Y.cell? ⟨w.heap.size, 8, none⟩ = some (.slice (r.A 2) (r.Z 2).length (r.c 2)) ∧ Y.cell? ⟨w.heap.size, 9, none⟩ = some (.slice (r.A 3) (r.Z 3).length (r.c 3)) ∧ Y.cell? ⟨w.heap.size, 10, none⟩ = some (.slice (r.A 4) (r.Z 4).length (r.c 4)) from ⟨hb, by have q := (hb.block _ (lt_of_block HG0.out)).trans HG0.out; exact ⟨blk_cell q 0, blk_cell q 1, blk_cell q 2, blk_cell q 3, blk_cell q 4, blk_cell q 5, blk_cell q 6, blk_cell q 7, blk_cell q 8, blk_cell q 9, blk_cell q 10⟩⟩)
    have HS := HMK.out W0.drew (Below.refl _ _).drew
    cases u
    case false =>
      have HE2 := Lib.hid (show res = fstE [e0, e1, e2, e3, e4, e5] by rw [HE1.out]; rfl)
      clear HE1
      go_wp2_with fail
      clear hp1 hp2 hp3 hp4 hp5 hp6 hu hv x0 x1 x2 x3 x4 x5 x6 x7 x8 x9 x10
      go_region_held3 (fun w' => Below W0.heap.size W0 w' ∧ w'.cell? ⟨w.heap.size, 0, none⟩ = some (.int .i64 r.start) ∧ w'.cell? ⟨w.heap.size, 1, none⟩ = some (.int .i64 r.freq) ∧ w'.cell? ⟨w.heap.size, 2, none⟩ = some (.int .i64 r.itv) ∧ w'.cell? ⟨w.heap.size, 3, none⟩ = some (.int .i64 r.cnt) ∧ w'.cell? ⟨w.heap.size, 4, none⟩ = some (.int .i64 r.unt) ∧ w'.cell? ⟨w.heap.size, 5, none⟩ = some (.slice (r.A 0) (r.Z 0).length (r.c 0)) ∧ w'.cell? ⟨w.heap.size, 6, none⟩ = some (.slice (r.A 1) (r.Z 1).length (r.c 1)) ∧ w'.cell? ⟨w.heap.size, 7, none⟩ = some (.slice r.AW r.N.length r.cw) ∧ w'.cell? ⟨w.heap.size, 8, none⟩ = some (.slice (r.A 2) (r.Z 2).length (r.c 2)) ∧ w'.cell? ⟨w.heap.size, 9, none⟩ = some (.slice (r.A 3) (r.Z 3).length (r.c 3)) ∧ w'.cell? ⟨w.heap.size, 10, none⟩ = some (.slice (r.A 4) (r.Z 4).length (r.c 4))) (first | exact HS | exact hSd | exact hSe | exact HMK.out _ (hSe.1.alloc hSe.1.size _)) (first | (go_at_call 54; first | (with_reducible refine (KA.out _ ((HR0.out.below (by first | exact hSe.1 | exact hSd.1 | exact HS.1)).ints 0 (by decide))).mono ?_; rintro e v0 ⟨rfl, rfl⟩) | (with_reducible refine (KB.out _ ((HR0.out.below (by first | exact hSe.1 | exact hSd.1 | exact HS.1)).ints 2 (by decide))).mono ?_; rintro e v1 ⟨rfl, rfl⟩) | (with_reducible refine (KC.out _ ((HR0.out.below (by first | exact hSe.1 | exact hSd.1 | exact HS.1)).ints 3 (by decide))).mono ?_; rintro e v2 ⟨rfl, rfl⟩) | (with_reducible refine (KE.out _ ((HR0.out.below (by first | exact hSe.1 | exact hSd.1 | exact HS.1)).ints 4 (by decide))).mono ?_; rintro e v3 ⟨rfl, rfl⟩)) | (go_at_call 55; with_reducible refine (KD.out _ (HR0.out.below HS.1)).mono ?_; rintro e w3 ⟨rfl, hb⟩; have hSd := HMK.out w3 (HS.1.trans (hb.mono HS.1.size)); clear hb) | (go_at_call 56; with_reducible refine (KW.out _ (HR0.out.below hSd.1)).mono ?_; rintro e w4 ⟨rfl, hb⟩; have hSe := HMK.out w4 (hSd.1.trans (hb.mono hSd.1.size)); clear hb))
      have HI := Lib.hid (ints_new .i64 w4 [e0, e1, e2, e3, e4, e5] #[.int .i64 e0, .int .i64 e1, .int .i64 e2, .int .i64 e3, .int .i64 e4, .int .i64 e5] 3 rfl)
      have HB5 := Lib.hid ((HB0.out.trans (hSe.1.mono HB0.out.size)).alloc (HB0.out.trans (hSe.1.mono HB0.out.size)).size (.cells #[.int .i64 e0, .int .i64 e1, .int .i64 e2, .int .i64 e3, .int .i64 e4, .int .i64 e5] 3))
      generalize w4.alloc (.cells #[.int .i64 e0, .int .i64 e1, .int .i64 e2, .int .i64 e3, .int .i64 e4, .int .i64 e5] 3) = W5 at HI HB5 ⊢
      generalize w4.heap.size = g5 at HI ⊢
      have HLE := Lib.hid (show [e0, e1, e2, e3, e4, e5].length = 6 from rfl)
      generalize [e0, e1, e2, e3, e4, e5] = es at HI HE2 HLE
      have HF := Lib.hid (fun k h => fst_drop es k h)
      clear hSd hSe HS HMK HR0 HR HB0 HG0 KA KB KC KE KD KW
      go_wp2_with fail
      go_loop [4] (fun i => ∃ k : Nat, k ≤ 6 ∧ i = .int .i64 k ∧ Hid (fstE (es.drop k) = res)) (fun i => 6 - (intOf i).toNat)
      case atStart => exact ⟨0, by omega, rfl, Lib.hid HE2.out.symm⟩
      case round =>
        obtain ⟨k, hk, rfl, HA⟩ := hrel
        by_cases hlt : k < 6
        · obtain ⟨bk, off, he, hb, hcell⟩ := HI.out k (by have := HLE.out; omega)
          injection he with he
          injection he with he1 he2 _
          subst he1 he2
          rw [Nat.zero_add] at hcell
          have hst := HF.out k (by have := HLE.out; omega)
          rw [HA.out] at hst
          have HST := Lib.hid hst
          have d0 : decide (k < 6) = true := dec_t hlt
          have d1 : decide ((k : Int) < 6) = true := dec_t (by omega)
          have ik0 : (0 : Int) ≤ (k : Int) := by omega
          have ik1 : (k : Int) < 6 := by omega
          have hw1 : IntKind.i64.wrap ((k : Int) + 1) = (k : Int) + 1 := IntWalk.i64_in _ ⟨by omega, by omega⟩
          have HK := Lib.hid hlt
          generalize es[k]?.getD 0 = z at hcell HST
          clear hst hk hlt HA hb
          by_cases h2 : z = 0
          · have e6 : (z != 0) = false := by simp [h2]
            have e7 : (z == 0) = true := by simp [h2]
            have HB := Lib.hid (show fstE (es.drop (k + 1)) = res by rw [HST.out, if_pos h2])
            clear HST h2
            go_wp2
            go_round
            case rel => exact ⟨k + 1, by have := HK.out; omega, by go_num, HB⟩
            case measure =>
              have := HK.out
              simp [intOf]; omega
          · have e6 : (z != 0) = true := by simp [h2]
            have e7 : (z == 0) = false := by rw [beq_eq_false_iff_ne]; exact h2
            have HB := Lib.hid (show res = z by rw [HST.out, if_neg h2])
            clear HST h2
            go_wp2
            go_ret
            exact ⟨by rw [HB.out]; rfl, HB5.out⟩
        · obtain rfl : k = 6 := by omega
          have HB := Lib.hid (show res = 0 by rw [← HA.out, List.drop_of_length_le (by have := HLE.out; omega)]; rfl)
          clear hk hlt
          go_wp2
          go_ret
          exact ⟨by rw [HB.out]; rfl, HB5.out⟩
    case true =>
      go_wp2_with fail
      refine (KU.out _).mono ?_
      rintro e w1 ⟨rfl, rfl⟩
      cases iu
      · have HX := Lib.hid (show res = 4 by rw [HE1.out]; rfl)
        go_wp2_with fail
        go_ret
        exact ⟨by rw [HX.out]; rfl, HB0.out⟩
      · cases v
        · have HE2 := Lib.hid (show res = fstE [e0, e1, e2, e3, e4, e5] by rw [HE1.out]; rfl)
          clear HE1
          go_wp2_with fail
          clear hp1 hp2 hp3 hp4 hp5 hp6 hu hv x0 x1 x2 x3 x4 x5 x6 x7 x8 x9 x10
          go_region_held3 (fun w' => Below W0.heap.size W0 w' ∧ w'.cell? ⟨w.heap.size, 0, none⟩ = some (.int .i64 r.start) ∧ w'.cell? ⟨w.heap.size, 1, none⟩ = some (.int .i64 r.freq) ∧ w'.cell? ⟨w.heap.size, 2, none⟩ = some (.int .i64 r.itv) ∧ w'.cell? ⟨w.heap.size, 3, none⟩ = some (.int .i64 r.cnt) ∧ w'.cell? ⟨w.heap.size, 4, none⟩ = some (.int .i64 r.unt) ∧ w'.cell? ⟨w.heap.size, 5, none⟩ = some (.slice (r.A 0) (r.Z 0).length (r.c 0)) ∧ w'.cell? ⟨w.heap.size, 6, none⟩ = some (.slice (r.A 1) (r.Z 1).length (r.c 1)) ∧ w'.cell? ⟨w.heap.size, 7, none⟩ = some (.slice r.AW r.N.length r.cw) ∧ w'.cell? ⟨w.heap.size, 8, none⟩ = some (.slice (r.A 2) (r.Z 2).length (r.c 2)) ∧ w'.cell? ⟨w.heap.size, 9, none⟩ = some (.slice (r.A 3) (r.Z 3).length (r.c 3)) ∧ w'.cell? ⟨w.heap.size, 10, none⟩ = some (.slice (r.A 4) (r.Z 4).length (r.c 4))) (first | exact HS | exact hSd | exact hSe | exact HMK.out _ (hSe.1.alloc hSe.1.size _)) (first | (go_at_call 54; first | (with_reducible refine (KA.out _ ((HR0.out.below (by first | exact hSe.1 | exact hSd.1 | exact HS.1)).ints 0 (by decide))).mono ?_; rintro e v0 ⟨rfl, rfl⟩) | (with_reducible refine (KB.out _ ((HR0.out.below (by first | exact hSe.1 | exact hSd.1 | exact HS.1)).ints 2 (by decide))).mono ?_; rintro e v1 ⟨rfl, rfl⟩) | (with_reducible refine (KC.out _ ((HR0.out.below (by first | exact hSe.1 | exact hSd.1 | exact HS.1)).ints 3 (by decide))).mono ?_; rintro e v2 ⟨rfl, rfl⟩) | (with_reducible refine (KE.out _ ((HR0.out.below (by first | exact hSe.1 | exact hSd.1 | exact HS.1)).ints 4 (by decide))).mono ?_; rintro e v3 ⟨rfl, rfl⟩)) | (go_at_call 55; with_reducible refine (KD.out _ (HR0.out.below HS.1)).mono ?_; rintro e w3 ⟨rfl, hb⟩; have hSd := HMK.out w3 (HS.1.trans (hb.mono HS.1.size)); clear hb) | (go_at_call 56; with_reducible refine (KW.out _ (HR0.out.below hSd.1)).mono ?_; rintro e w4 ⟨rfl, hb⟩; have hSe := HMK.out w4 (hSd.1.trans (hb.mono hSd.1.size)); clear hb))
          have HI := Lib.hid (ints_new .i64 w4 [e0, e1, e2, e3, e4, e5] #[.int .i64 e0, .int .i64 e1, .int .i64 e2, .int .i64 e3, .int .i64 e4, .int .i64 e5] 3 rfl)
          have HB5 := Lib.hid ((HB0.out.trans (hSe.1.mono HB0.out.size)).alloc (HB0.out.trans (hSe.1.mono HB0.out.size)).size (.cells #[.int .i64 e0, .int .i64 e1, .int .i64 e2, .int .i64 e3, .int .i64 e4, .int .i64 e5] 3))
          generalize w4.alloc (.cells #[.int .i64 e0, .int .i64 e1, .int .i64 e2, .int .i64 e3, .int .i64 e4, .int .i64 e5] 3) = W5 at HI HB5 ⊢
          generalize w4.heap.size = g5 at HI ⊢
          have HLE := Lib.hid (show [e0, e1, e2, e3, e4, e5].length = 6 from rfl)
          generalize [e0, e1, e2, e3, e4, e5] = es at HI HE2 HLE
          have HF := Lib.hid (fun k h => fst_drop es k h)
          clear hSd hSe HS HMK HR0 HR HB0 HG0 KA KB KC KE KD KW
          go_wp2_with fail
          go_loop [4] (fun i => ∃ k : Nat, k ≤ 6 ∧ i = .int .i64 k ∧ Hid (fstE (es.drop k) = res)) (fun i => 6 - (intOf i).toNat)
          case atStart => exact ⟨0, by omega, rfl, Lib.hid HE2.out.symm⟩
          case round =>
            obtain ⟨k, hk, rfl, HA⟩ := hrel
            by_cases hlt : k < 6
            · obtain ⟨bk, off, he, hb, hcell⟩ := HI.out k (by have := HLE.out; omega)
              injection he with he
              injection he with he1 he2 _
              subst he1 he2
              rw [Nat.zero_add] at hcell
              have hst := HF.out k (by have := HLE.out; omega)
              rw [HA.out] at hst
              have HST := Lib.hid hst
              have d0 : decide (k < 6) = true := dec_t hlt
              have d1 : decide ((k : Int) < 6) = true := dec_t (by omega)
              have ik0 : (0 : Int) ≤ (k : Int) := by omega
              have ik1 : (k : Int) < 6 := by omega
              have hw1 : IntKind.i64.wrap ((k : Int) + 1) = (k : Int) + 1 := IntWalk.i64_in _ ⟨by omega, by omega⟩
              have HK := Lib.hid hlt
              generalize es[k]?.getD 0 = z at hcell HST
              clear hst hk hlt HA hb
              by_cases h2 : z = 0
              · have e6 : (z != 0) = false := by simp [h2]
                have e7 : (z == 0) = true := by simp [h2]
                have HB := Lib.hid (show fstE (es.drop (k + 1)) = res by rw [HST.out, if_pos h2])
                clear HST h2
                go_wp2
                go_round
                case rel => exact ⟨k + 1, by have := HK.out; omega, by go_num, HB⟩
                case measure =>
                  have := HK.out
                  simp [intOf]; omega
              · have e6 : (z != 0) = true := by simp [h2]
                have e7 : (z == 0) = false := by rw [beq_eq_false_iff_ne]; exact h2
                have HB := Lib.hid (show res = z by rw [HST.out, if_neg h2])
                clear HST h2
                go_wp2
                go_ret
                exact ⟨by rw [HB.out]; rfl, HB5.out⟩
            · obtain rfl : k = 6 := by omega
              have HB := Lib.hid (show res = 0 by rw [← HA.out, List.drop_of_length_le (by have := HLE.out; omega)]; rfl)
              clear hk hlt
              go_wp2
              go_ret
              exact ⟨by rw [HB.out]; rfl, HB5.out⟩
        · have HX := Lib.hid (show res = 12 by rw [HE1.out]; rfl)
          go_wp2_with fail
          go_ret
          exact ⟨by rw [HX.out]; rfl, HB0.out⟩
end Go.Proofs.YtigbbepgfofcoaaDoor
