/- Whether a clause may be, by the document (layer 13). -/
import Derived.Test.YtjdoknbmnokkdaaDoorCmE
import Derived.Test.YtjdoknbmnokkdaaDoorWdF
import Derived.Test.YtjdoknbmnokkdaaDoorRow
namespace Go.Proofs.YtjdoknbmnokkdaaDoor
open Go.RowKit
set_option linter.unusedVariables false

theorem rmay10_any (u : Int) (w : World) : Calls Tryd.prog 150 #[.int .i64 u] w fun e w' => e = .returned (.bool (decide (0 ≤ u ∧ u < 7))) ∧ w = w' := by
  by_cases h1 : 0 ≤ u
  · have d1 : decide (0 ≤ u) = true := dec_t h1
    by_cases h2 : u ≤ 6
    · have d2 : decide (u ≤ 6) = true := dec_t h2
      rw [dec_t (show 0 ≤ u ∧ u < 7 by omega)]
      go_enter Tryd.func150, Tryd.ntmps150
      go_wp2
      go_ret
      exact ⟨rfl, rfl⟩
    · have d2 : decide (u ≤ 6) = false := dec_n h2
      rw [dec_n (show ¬ (0 ≤ u ∧ u < 7) by omega)]
      go_enter Tryd.func150, Tryd.ntmps150
      go_wp2
      go_ret
      exact ⟨rfl, rfl⟩
  · have d1 : decide (0 ≤ u) = false := dec_n h1
    rw [dec_n (show ¬ (0 ≤ u ∧ u < 7) by omega)]
    go_enter Tryd.func150, Tryd.ntmps150
    go_wp2
    go_ret
    exact ⟨rfl, rfl⟩
theorem rin08_any (t : Int) (w : World) : Calls Tryd.prog 82 #[.int .i64 t] w fun e w' => e = .returned (.bool (decide (0 ≤ t ∧ t < 12622780800))) ∧ w = w' := by
  by_cases h : 0 ≤ t ∧ t < 12622780800
  · rw [dec_t h]; exact rIn_yes t w h.1 (by omega)
  · rw [dec_n h]; exact rIn_no t w (by omega)
theorem nums_years (P : Nat → Bool) (i : Nat) : inW (numsP (clip P) 400) i = clip P i := by
  unfold inW inL
  by_cases h : clip P i = true
  · have hi : i < 400 := by
      unfold clip at h
      rw [Bool.and_eq_true, decide_eq_true_eq] at h
      exact h.2
    rw [dec_t (mem_numsP.2 ⟨i, hi, h, rfl⟩), dec_t hi, h]
    rfl
  · rw [Bool.eq_false_iff.2 h]
    have : ¬ ((i : Int) ∈ numsP (clip P) 400 ∧ i < 400) := by
      rintro ⟨hm, hl⟩
      obtain ⟨k, hk, hp, he⟩ := mem_numsP.1 hm
      have : i = k := by omega
      subst this
      exact h hp
    rw [Bool.and_eq_false_iff]
    by_cases hm : (i : Int) ∈ numsP (clip P) 400
    · exact .inr (dec_n fun hl => this ⟨hm, hl⟩)
    · exact .inl (dec_n hm)
theorem cl_mk {g : Nat} {c : Cl} {W0 X : World} (h : ClAt W0 g c) (hb : Below W0.heap.size W0 X) : Below W0.heap.size W0 X ∧ X.cell? ⟨g, 8, none⟩ = some (.int .i64 c.n) ∧ X.cell? ⟨g, 9, none⟩ = some (.bool c.b) ∧ X.cell? ⟨g, 10, none⟩ = some (.int .u64 (c.D 0 : Nat)) ∧ X.cell? ⟨g, 11, none⟩ = some (.int .u64 (c.D 1 : Nat)) ∧ X.cell? ⟨g, 12, none⟩ = some (.int .u64 (c.D 2 : Nat)) ∧ X.cell? ⟨g, 13, none⟩ = some (.int .u64 (c.D 3 : Nat)) ∧ X.cell? ⟨g, 14, none⟩ = some (.int .u64 (c.D 4 : Nat)) ∧ X.cell? ⟨g, 15, none⟩ = some (.int .u64 (c.D 5 : Nat)) ∧ X.cell? ⟨g, 16, none⟩ = some (.int .u64 (c.D 6 : Nat)) ∧ X.cell? ⟨g, 17, none⟩ = some (.int .u64 (c.D 7 : Nat)) ∧ X.cell? ⟨g, 18, none⟩ = some (.int .u64 (wv c.P 0 : Nat)) ∧ X.cell? ⟨g, 19, none⟩ = some (.int .u64 (wv c.P 1 : Nat)) ∧ X.cell? ⟨g, 20, none⟩ = some (.int .u64 (wv c.P 2 : Nat)) ∧ X.cell? ⟨g, 21, none⟩ = some (.int .u64 (wv c.P 3 : Nat)) ∧ X.cell? ⟨g, 22, none⟩ = some (.int .u64 (wv c.P 4 : Nat)) ∧ X.cell? ⟨g, 23, none⟩ = some (.int .u64 (wv c.P 5 : Nat)) ∧ X.cell? ⟨g, 24, none⟩ = some (.int .u64 (wv c.P 6 : Nat)) ∧ X.cell? ⟨g, 25, none⟩ = some (.int .i64 c.u) ∧ X.cell? ⟨g, 26, none⟩ = some (.int .i64 c.st) ∧ X.cell? ⟨g, 27, none⟩ = some (.int .i64 c.an) := by
  have h' := h.below hb
  exact ⟨hb, blk_cell h' 8, blk_cell h' 9, blk_cell h' 10, blk_cell h' 11, blk_cell h' 12, blk_cell h' 13, blk_cell h' 14, blk_cell h' 15, blk_cell h' 16, blk_cell h' 17, blk_cell h' 18, blk_cell h' 19, blk_cell h' 20, blk_cell h' 21, blk_cell h' 22, blk_cell h' 23, blk_cell h' 24, blk_cell h' 25, blk_cell h' 26, blk_cell h' 27⟩
theorem same7_comm (P Q : Nat → Bool) : same7 P Q = decide (wv Q 0 = wv P 0 ∧ wv Q 1 = wv P 1 ∧ wv Q 2 = wv P 2 ∧ wv Q 3 = wv P 3 ∧ wv Q 4 = wv P 4 ∧ wv Q 5 = wv P 5 ∧ wv Q 6 = wv P 6) := by
  unfold same7
  rw [Bool.eq_iff_iff, decide_eq_true_eq, decide_eq_true_eq]
  constructor
  · rintro ⟨a, b, c, d, e, f, g⟩; exact ⟨a.symm, b.symm, c.symm, d.symm, e.symm, f.symm, g.symm⟩
  · rintro ⟨a, b, c, d, e, f, g⟩; exact ⟨a.symm, b.symm, c.symm, d.symm, e.symm, f.symm, g.symm⟩
set_option maxHeartbeats 1600000 in
set_option maxRecDepth 20000 in
theorem rmay_any (c : Cl) (hc : ClIn c) (w : World) : Calls Tryd.prog 116 #[clV c] w fun e w' => e = .returned (.bool (mayB c)) ∧ Below w.heap.size w w' := by
  obtain ⟨h1, h2, h3, h4, h5, h6, h7, hD⟩ := hc
  have HB0 := Lib.hid (show Below w.heap.size w (w.alloc (.cells (clC c) 70)) from (Below.refl _ _).alloc (Nat.le_refl _) _)
  have HC0 := Lib.hid (show ClAt (w.alloc (.cells (clC c) 70)) w.heap.size c from blk_new w _)
  obtain ⟨W0, hW0⟩ : ∃ W0, w.alloc (.cells (clC c) 70) = W0 := ⟨_, rfl⟩
  rw [hW0] at HB0 HC0
  have K0 := bits13_any c.s 0 59 h1 W0
  have K1 := bits13_any c.m 0 59 h2 W0
  have K2 := bits13_any c.h 0 23 h3 W0
  have K3 := bits13_any c.mo 1 12 h4 W0
  have K4 := bits13_any c.d 1 31 h5 W0
  have K5 := bits13_any c.e 1 31 h6 W0
  have K6 := bits13_any c.wk 1 7 h7 W0
  have KO0 := fun W => ord13_any c.n c.b c.D hD W
  unfold ordV ordC at KO0
  have KL0 := fun W => wrlist2_any c.P W
  have KF0 := fun A cc W h => wrof_any A cc (numsP (clip c.P) 400) W (by have := numsP_le (clip c.P) 400; omega) h
  rw [S7_congr fun i _ => nums_years c.P i] at KF0
  have hgd := guard7
  have he0 := fun W => eq7 (wv (clip c.P) 0) (wv (clip c.P) 1) (wv (clip c.P) 2) (wv (clip c.P) 3) (wv (clip c.P) 4) (wv (clip c.P) 5) (wv (clip c.P) 6) (wv c.P 0) (wv c.P 1) (wv c.P 2) (wv c.P 3) (wv c.P 4) (wv c.P 5) (wv c.P 6) W
  simp only [← same7_comm] at he0
  unfold S7 c7 at KL0 KF0
  have KU := Lib.hid (fun W => rmay10_any c.u W)
  have KA := Lib.hid (fun W => rin08_any c.an W)
  have HMB := Lib.hid (show mayB c = ((bitsI c.s 0 59 && (bitsI c.m 0 59 && (bitsI c.h 0 23 && (bitsI c.mo 1 12 && (bitsI c.d 1 31 && (bitsI c.e 1 31 && bitsI c.wk 1 7)))))) && (ordB c.n c.b c.D && (same7 c.P (clip c.P) && (decide (0 ≤ c.u ∧ c.u < 7) && (decide (1 ≤ c.st) && decide (0 ≤ c.an ∧ c.an < 12622780800)))))) from rfl)
  generalize mayB c = bb at HMB ⊢
  generalize bitsI c.s 0 59 = q0 at K0 HMB
  generalize bitsI c.m 0 59 = q1 at K1 HMB
  generalize bitsI c.h 0 23 = q2 at K2 HMB
  generalize bitsI c.mo 1 12 = q3 at K3 HMB
  generalize bitsI c.d 1 31 = q4 at K4 HMB
  generalize bitsI c.e 1 31 = q5 at K5 HMB
  generalize bitsI c.wk 1 7 = q6 at K6 HMB
  clear h1 h2 h3 h4 h5 h6 h7 hD
  generalize clip c.P = Q at *
  generalize numsP Q 400 = xs at *
  generalize ordB c.n c.b c.D = ob at *
  generalize same7 c.P Q = sb at *
  generalize decide (0 ≤ c.u ∧ c.u < 7) = ub at *
  generalize decide (0 ≤ c.an ∧ c.an < 12622780800) = ab at *
  have KO := Lib.hid KO0
  have KL := Lib.hid KL0
  have KF := Lib.hid KF0
  clear KO0 KL0 KF0
  unfold clV clC
  unfold clC at hW0
  obtain ⟨x0, x1, x2, x3, x4, x5, x6⟩ := HC0.out.masks
  go_enter Tryd.func116, Tryd.ntmps116
  go_wp2_with fail
  try rw [hW0]
  refine K0.mono ?_
  clear K0
  rintro e w1 ⟨rfl, rfl⟩
  cases q0
  · have HE := Lib.hid (show bb = false by rw [HMB.out]; rfl)
    clear HMB
    go_wp2
    go_ret
    exact ⟨by rw [HE.out]; rfl, HB0.out⟩
  · go_wp2_with fail
    refine K1.mono ?_
    clear K1
    rintro e w1 ⟨rfl, rfl⟩
    cases q1
    · have HE := Lib.hid (show bb = false by rw [HMB.out]; rfl)
      clear HMB
      go_wp2
      go_ret
      exact ⟨by rw [HE.out]; rfl, HB0.out⟩
    · go_wp2_with fail
      refine K2.mono ?_
      clear K2
      rintro e w1 ⟨rfl, rfl⟩
      cases q2
      · have HE := Lib.hid (show bb = false by rw [HMB.out]; rfl)
        clear HMB
        go_wp2
        go_ret
        exact ⟨by rw [HE.out]; rfl, HB0.out⟩
      · go_wp2_with fail
        refine K3.mono ?_
        clear K3
        rintro e w1 ⟨rfl, rfl⟩
        cases q3
        · have HE := Lib.hid (show bb = false by rw [HMB.out]; rfl)
          clear HMB
          go_wp2
          go_ret
          exact ⟨by rw [HE.out]; rfl, HB0.out⟩
        · go_wp2_with fail
          refine K4.mono ?_
          clear K4
          rintro e w1 ⟨rfl, rfl⟩
          cases q4
          · have HE := Lib.hid (show bb = false by rw [HMB.out]; rfl)
            clear HMB
            go_wp2
            go_ret
            exact ⟨by rw [HE.out]; rfl, HB0.out⟩
          · go_wp2_with fail
            refine K5.mono ?_
            clear K5
            rintro e w1 ⟨rfl, rfl⟩
            cases q5
            · have HE := Lib.hid (show bb = false by rw [HMB.out]; rfl)
              clear HMB
              go_wp2
              go_ret
              exact ⟨by rw [HE.out]; rfl, HB0.out⟩
            · go_wp2_with fail
              refine K6.mono ?_
              clear K6
              rintro e w1 ⟨rfl, rfl⟩
              cases q6
              · have HE := Lib.hid (show bb = false by rw [HMB.out]; rfl)
                clear HMB
                go_wp2
                go_ret
                exact ⟨by rw [HE.out]; rfl, HB0.out⟩
              · go_wp2_with fail
                have HMK := Lib.hid (fun (Y : World) (hb : Below W0.heap.size W0 Y) => cl_mk HC0.out hb)
                have HS := HMK.out W0.drew (Below.refl _ _).drew
                clear x0 x1 x2 x3 x4 x5 x6 hW0
                cases ob
                · have HE := Lib.hid (show bb = false by rw [HMB.out]; rfl)
                  clear HMB
                  have hB0 : Below W0.heap.size W0 W0.drew := (Below.refl _ _).drew
                  refine wp_region_held_drew (S := (fun X => Below W0.heap.size W0 X ∧ X.cell? ⟨w.heap.size, 8, none⟩ = some (.int .i64 c.n) ∧ X.cell? ⟨w.heap.size, 9, none⟩ = some (.bool c.b) ∧ X.cell? ⟨w.heap.size, 10, none⟩ = some (.int .u64 (c.D 0 : Nat)) ∧ X.cell? ⟨w.heap.size, 11, none⟩ = some (.int .u64 (c.D 1 : Nat)) ∧ X.cell? ⟨w.heap.size, 12, none⟩ = some (.int .u64 (c.D 2 : Nat)) ∧ X.cell? ⟨w.heap.size, 13, none⟩ = some (.int .u64 (c.D 3 : Nat)) ∧ X.cell? ⟨w.heap.size, 14, none⟩ = some (.int .u64 (c.D 4 : Nat)) ∧ X.cell? ⟨w.heap.size, 15, none⟩ = some (.int .u64 (c.D 5 : Nat)) ∧ X.cell? ⟨w.heap.size, 16, none⟩ = some (.int .u64 (c.D 6 : Nat)) ∧ X.cell? ⟨w.heap.size, 17, none⟩ = some (.int .u64 (c.D 7 : Nat)) ∧ X.cell? ⟨w.heap.size, 18, none⟩ = some (.int .u64 (wv c.P 0 : Nat)) ∧ X.cell? ⟨w.heap.size, 19, none⟩ = some (.int .u64 (wv c.P 1 : Nat)) ∧ X.cell? ⟨w.heap.size, 20, none⟩ = some (.int .u64 (wv c.P 2 : Nat)) ∧ X.cell? ⟨w.heap.size, 21, none⟩ = some (.int .u64 (wv c.P 3 : Nat)) ∧ X.cell? ⟨w.heap.size, 22, none⟩ = some (.int .u64 (wv c.P 4 : Nat)) ∧ X.cell? ⟨w.heap.size, 23, none⟩ = some (.int .u64 (wv c.P 5 : Nat)) ∧ X.cell? ⟨w.heap.size, 24, none⟩ = some (.int .u64 (wv c.P 6 : Nat)) ∧ X.cell? ⟨w.heap.size, 25, none⟩ = some (.int .i64 c.u) ∧ X.cell? ⟨w.heap.size, 26, none⟩ = some (.int .i64 c.st) ∧ X.cell? ⟨w.heap.size, 27, none⟩ = some (.int .i64 c.an))) (by kernel_rfl) HS (fun hHeld => ?_)
                  refine heldVal (v := ?v1) 0 rfl rfl (by kernel_rfl) (by kernel_rfl) (by kernel_rfl) (fun _ _ _ h => h) (by rfl) (fun w hSw => ?hy1) (by assumption) ?_
                  case hy1 => ((try dsimp only at hSw); go_simp; (try with_reducible rfl))
                  try simp only [Act.put, List.setIfInBounds_toArray, List.set_cons_zero, List.set_cons_succ]
                  refine heldVal (v := .agg #[.int .i64 c.n, .bool c.b, .int .u64 (c.D 0 : Nat), .int .u64 (c.D 1 : Nat), .int .u64 (c.D 2 : Nat), .int .u64 (c.D 3 : Nat), .int .u64 (c.D 4 : Nat), .int .u64 (c.D 5 : Nat), .int .u64 (c.D 6 : Nat), .int .u64 (c.D 7 : Nat)]) 1 rfl rfl (by kernel_rfl) (by kernel_rfl) (by kernel_rfl) (fun _ _ _ h => h) (by rfl) (fun w hSw => ?hy2) (by assumption) ?_
                  case hy2 => ((try dsimp only at hSw); go_simp)
                  try simp only [Act.put, List.setIfInBounds_toArray, List.set_cons_zero, List.set_cons_succ]
                  refine heldCall 2 rfl rfl (by kernel_rfl) (by rfl) (fun K hK => ?_)
                  go_simp
                  refine (KO.out _).mono ?_
                  rintro e w3 ⟨rfl, hb⟩
                  have hB1 : Below W0.heap.size W0 w3 := hB0.trans (hb.mono hB0.size)
                  have hS1 := HMK.out w3 hB1
                  clear hb
                  go_wp2_with fail
                  refine hK.out _ _ ?hS (fun hHeld => ?_)
                  case hS => (exact hS1)
                  clear hK K
                  try simp only [Act.put, List.setIfInBounds_toArray, List.set_cons_zero, List.set_cons_succ]
                  refine heldVal (v := ?v3) 3 rfl rfl (by kernel_rfl) (by kernel_rfl) (by kernel_rfl) (fun _ _ _ h => h) (by rfl) (fun w hSw => ?hy3) (by assumption) ?_
                  case hy3 => ((try dsimp only at hSw); go_simp; (try with_reducible rfl))
                  try simp only [Act.put, List.setIfInBounds_toArray, List.set_cons_zero, List.set_cons_succ]
                  refine heldSkip 4 rfl rfl (by kernel_rfl) (by kernel_rfl) (by kernel_rfl) (fun _ _ _ h => h) (by rfl) (by assumption) ?_
                  try simp only [Act.put, List.setIfInBounds_toArray, List.set_cons_zero, List.set_cons_succ]
                  refine heldSkip 5 rfl rfl (by kernel_rfl) (by kernel_rfl) (by kernel_rfl) (fun _ _ _ h => h) (by rfl) (by assumption) ?_
                  try simp only [Act.put, List.setIfInBounds_toArray, List.set_cons_zero, List.set_cons_succ]
                  refine heldSkip 6 rfl rfl (by kernel_rfl) (by kernel_rfl) (by kernel_rfl) (fun _ _ _ h => h) (by rfl) (by assumption) ?_
                  try simp only [Act.put, List.setIfInBounds_toArray, List.set_cons_zero, List.set_cons_succ]
                  refine heldSkip 7 rfl rfl (by kernel_rfl) (by kernel_rfl) (by kernel_rfl) (fun _ _ _ h => h) (by rfl) (by assumption) ?_
                  try simp only [Act.put, List.setIfInBounds_toArray, List.set_cons_zero, List.set_cons_succ]
                  refine heldSkip 8 rfl rfl (by kernel_rfl) (by kernel_rfl) (by kernel_rfl) (fun _ _ _ h => h) (by rfl) (by assumption) ?_
                  try simp only [Act.put, List.setIfInBounds_toArray, List.set_cons_zero, List.set_cons_succ]
                  refine heldSkip 9 rfl rfl (by kernel_rfl) (by kernel_rfl) (by kernel_rfl) (fun _ _ _ h => h) (by rfl) (by assumption) ?_
                  try simp only [Act.put, List.setIfInBounds_toArray, List.set_cons_zero, List.set_cons_succ]
                  refine heldSkip 10 rfl rfl (by kernel_rfl) (by kernel_rfl) (by kernel_rfl) (fun _ _ _ h => h) (by rfl) (by assumption) ?_
                  try simp only [Act.put, List.setIfInBounds_toArray, List.set_cons_zero, List.set_cons_succ]
                  refine heldVal (v := ?v4) 11 rfl rfl (by kernel_rfl) (by kernel_rfl) (by kernel_rfl) (fun _ _ _ h => h) (by rfl) (fun w hSw => ?hy4) (by assumption) ?_
                  case hy4 => ((try dsimp only at hSw); go_simp; (try with_reducible rfl))
                  try simp only [Act.put, List.setIfInBounds_toArray, List.set_cons_zero, List.set_cons_succ]
                  refine heldVal (v := ?v5) 12 rfl rfl (by kernel_rfl) (by kernel_rfl) (by kernel_rfl) (fun _ _ _ h => h) (by rfl) (fun w hSw => ?hy5) (by assumption) ?_
                  case hy5 => ((try dsimp only at hSw); go_simp; (try with_reducible rfl))
                  try simp only [Act.put, List.setIfInBounds_toArray, List.set_cons_zero, List.set_cons_succ]
                  refine heldSkip 13 rfl rfl (by kernel_rfl) (by kernel_rfl) (by kernel_rfl) (fun _ _ _ h => h) (by rfl) (by assumption) ?_
                  try simp only [Act.put, List.setIfInBounds_toArray, List.set_cons_zero, List.set_cons_succ]
                  refine heldSkip 14 rfl rfl (by kernel_rfl) (by kernel_rfl) (by kernel_rfl) (fun _ _ _ h => h) (by rfl) (by assumption) ?_
                  try simp only [Act.put, List.setIfInBounds_toArray, List.set_cons_zero, List.set_cons_succ]
                  refine heldSkip 15 rfl rfl (by kernel_rfl) (by kernel_rfl) (by kernel_rfl) (fun _ _ _ h => h) (by rfl) (by assumption) ?_
                  try simp only [Act.put, List.setIfInBounds_toArray, List.set_cons_zero, List.set_cons_succ]
                  refine heldVal (v := ?v6) 16 rfl rfl (by kernel_rfl) (by kernel_rfl) (by kernel_rfl) (fun _ _ _ h => h) (by rfl) (fun w hSw => ?hy6) (by assumption) ?_
                  case hy6 => ((try dsimp only at hSw); go_simp; (try with_reducible rfl))
                  try simp only [Act.put, List.setIfInBounds_toArray, List.set_cons_zero, List.set_cons_succ]
                  refine heldVal (v := ?v7) 17 rfl rfl (by kernel_rfl) (by kernel_rfl) (by kernel_rfl) (fun _ _ _ h => h) (by rfl) (fun w hSw => ?hy7) (by assumption) ?_
                  case hy7 => ((try dsimp only at hSw); go_simp; (try with_reducible rfl))
                  try simp only [Act.put, List.setIfInBounds_toArray, List.set_cons_zero, List.set_cons_succ]
                  refine heldSkip 18 rfl rfl (by kernel_rfl) (by kernel_rfl) (by kernel_rfl) (fun _ _ _ h => h) (by rfl) (by assumption) ?_
                  try simp only [Act.put, List.setIfInBounds_toArray, List.set_cons_zero, List.set_cons_succ]
                  refine heldSkip 19 rfl rfl (by kernel_rfl) (by kernel_rfl) (by kernel_rfl) (fun _ _ _ h => h) (by rfl) (by assumption) ?_
                  try simp only [Act.put, List.setIfInBounds_toArray, List.set_cons_zero, List.set_cons_succ]
                  refine heldSkip 20 rfl rfl (by kernel_rfl) (by kernel_rfl) (by kernel_rfl) (fun _ _ _ h => h) (by rfl) (by assumption) ?_
                  try simp only [Act.put, List.setIfInBounds_toArray, List.set_cons_zero, List.set_cons_succ]
                  refine heldVal (v := ?v8) 21 rfl rfl (by kernel_rfl) (by kernel_rfl) (by kernel_rfl) (fun _ _ _ h => h) (by rfl) (fun w hSw => ?hy8) (by assumption) ?_
                  case hy8 => ((try dsimp only at hSw); go_simp; (try with_reducible rfl))
                  try simp only [Act.put, List.setIfInBounds_toArray, List.set_cons_zero, List.set_cons_succ]
                  refine heldVal (v := ?v9) 22 rfl rfl (by kernel_rfl) (by kernel_rfl) (by kernel_rfl) (fun _ _ _ h => h) (by rfl) (fun w hSw => ?hy9) (by assumption) ?_
                  case hy9 => ((try dsimp only at hSw); go_simp; (try with_reducible rfl))
                  try simp only [Act.put, List.setIfInBounds_toArray, List.set_cons_zero, List.set_cons_succ]
                  refine heldSkip 23 rfl rfl (by kernel_rfl) (by kernel_rfl) (by kernel_rfl) (fun _ _ _ h => h) (by rfl) (by assumption) ?_
                  try simp only [Act.put, List.setIfInBounds_toArray, List.set_cons_zero, List.set_cons_succ]
                  refine heldSkip 24 rfl rfl (by kernel_rfl) (by kernel_rfl) (by kernel_rfl) (fun _ _ _ h => h) (by rfl) (by assumption) ?_
                  try simp only [Act.put, List.setIfInBounds_toArray, List.set_cons_zero, List.set_cons_succ]
                  refine heldSkip 25 rfl rfl (by kernel_rfl) (by kernel_rfl) (by kernel_rfl) (fun _ _ _ h => h) (by rfl) (by assumption) ?_
                  try simp only [Act.put, List.setIfInBounds_toArray, List.set_cons_zero, List.set_cons_succ]
                  refine heldVal (v := ?v10) 26 rfl rfl (by kernel_rfl) (by kernel_rfl) (by kernel_rfl) (fun _ _ _ h => h) (by rfl) (fun w hSw => ?hy10) (by assumption) ?_
                  case hy10 => ((try dsimp only at hSw); go_simp; (try with_reducible rfl))
                  try simp only [Act.put, List.setIfInBounds_toArray, List.set_cons_zero, List.set_cons_succ]
                  refine heldVal (v := ?v11) 27 rfl rfl (by kernel_rfl) (by kernel_rfl) (by kernel_rfl) (fun _ _ _ h => h) (by rfl) (fun w hSw => ?hy11) (by assumption) ?_
                  case hy11 => ((try dsimp only at hSw); go_simp; (try with_reducible rfl))
                  try simp only [Act.put, List.setIfInBounds_toArray, List.set_cons_zero, List.set_cons_succ]
                  refine wpAnyH_done (by kernel_rfl) ?_ _
                  have hbS := hB1
                  have HB3 := Lib.hid (HB0.out.trans (hbS.mono HB0.out.size))
                  go_wp2
                  go_ret
                  exact ⟨by rw [HE.out]; rfl, HB3.out⟩
                · cases sb
                  · have HE := Lib.hid (show bb = false by rw [HMB.out]; rfl)
                    clear HMB
                    have hB0 : Below W0.heap.size W0 W0.drew := (Below.refl _ _).drew
                    refine wp_region_held_drew (S := (fun X => Below W0.heap.size W0 X ∧ X.cell? ⟨w.heap.size, 8, none⟩ = some (.int .i64 c.n) ∧ X.cell? ⟨w.heap.size, 9, none⟩ = some (.bool c.b) ∧ X.cell? ⟨w.heap.size, 10, none⟩ = some (.int .u64 (c.D 0 : Nat)) ∧ X.cell? ⟨w.heap.size, 11, none⟩ = some (.int .u64 (c.D 1 : Nat)) ∧ X.cell? ⟨w.heap.size, 12, none⟩ = some (.int .u64 (c.D 2 : Nat)) ∧ X.cell? ⟨w.heap.size, 13, none⟩ = some (.int .u64 (c.D 3 : Nat)) ∧ X.cell? ⟨w.heap.size, 14, none⟩ = some (.int .u64 (c.D 4 : Nat)) ∧ X.cell? ⟨w.heap.size, 15, none⟩ = some (.int .u64 (c.D 5 : Nat)) ∧ X.cell? ⟨w.heap.size, 16, none⟩ = some (.int .u64 (c.D 6 : Nat)) ∧ X.cell? ⟨w.heap.size, 17, none⟩ = some (.int .u64 (c.D 7 : Nat)) ∧ X.cell? ⟨w.heap.size, 18, none⟩ = some (.int .u64 (wv c.P 0 : Nat)) ∧ X.cell? ⟨w.heap.size, 19, none⟩ = some (.int .u64 (wv c.P 1 : Nat)) ∧ X.cell? ⟨w.heap.size, 20, none⟩ = some (.int .u64 (wv c.P 2 : Nat)) ∧ X.cell? ⟨w.heap.size, 21, none⟩ = some (.int .u64 (wv c.P 3 : Nat)) ∧ X.cell? ⟨w.heap.size, 22, none⟩ = some (.int .u64 (wv c.P 4 : Nat)) ∧ X.cell? ⟨w.heap.size, 23, none⟩ = some (.int .u64 (wv c.P 5 : Nat)) ∧ X.cell? ⟨w.heap.size, 24, none⟩ = some (.int .u64 (wv c.P 6 : Nat)) ∧ X.cell? ⟨w.heap.size, 25, none⟩ = some (.int .i64 c.u) ∧ X.cell? ⟨w.heap.size, 26, none⟩ = some (.int .i64 c.st) ∧ X.cell? ⟨w.heap.size, 27, none⟩ = some (.int .i64 c.an))) (by kernel_rfl) HS (fun hHeld => ?_)
                    refine heldVal (v := ?v12) 0 rfl rfl (by kernel_rfl) (by kernel_rfl) (by kernel_rfl) (fun _ _ _ h => h) (by rfl) (fun w hSw => ?hy12) (by assumption) ?_
                    case hy12 => ((try dsimp only at hSw); go_simp; (try with_reducible rfl))
                    try simp only [Act.put, List.setIfInBounds_toArray, List.set_cons_zero, List.set_cons_succ]
                    refine heldVal (v := .agg #[.int .i64 c.n, .bool c.b, .int .u64 (c.D 0 : Nat), .int .u64 (c.D 1 : Nat), .int .u64 (c.D 2 : Nat), .int .u64 (c.D 3 : Nat), .int .u64 (c.D 4 : Nat), .int .u64 (c.D 5 : Nat), .int .u64 (c.D 6 : Nat), .int .u64 (c.D 7 : Nat)]) 1 rfl rfl (by kernel_rfl) (by kernel_rfl) (by kernel_rfl) (fun _ _ _ h => h) (by rfl) (fun w hSw => ?hy13) (by assumption) ?_
                    case hy13 => ((try dsimp only at hSw); go_simp)
                    try simp only [Act.put, List.setIfInBounds_toArray, List.set_cons_zero, List.set_cons_succ]
                    refine heldCall 2 rfl rfl (by kernel_rfl) (by rfl) (fun K hK => ?_)
                    go_simp
                    refine (KO.out _).mono ?_
                    rintro e w3 ⟨rfl, hb⟩
                    have hB1 : Below W0.heap.size W0 w3 := hB0.trans (hb.mono hB0.size)
                    have hS1 := HMK.out w3 hB1
                    clear hb
                    go_wp2_with fail
                    refine hK.out _ _ ?hS (fun hHeld => ?_)
                    case hS => (exact hS1)
                    clear hK K
                    try simp only [Act.put, List.setIfInBounds_toArray, List.set_cons_zero, List.set_cons_succ]
                    refine heldVal (v := ?v14) 3 rfl rfl (by kernel_rfl) (by kernel_rfl) (by kernel_rfl) (fun _ _ _ h => h) (by rfl) (fun w hSw => ?hy14) (by assumption) ?_
                    case hy14 => ((try dsimp only at hSw); go_simp; (try with_reducible rfl))
                    try simp only [Act.put, List.setIfInBounds_toArray, List.set_cons_zero, List.set_cons_succ]
                    refine heldVal (v := ?v15) 4 rfl rfl (by kernel_rfl) (by kernel_rfl) (by kernel_rfl) (fun _ _ _ h => h) (by rfl) (fun w hSw => ?hy15) (by assumption) ?_
                    case hy15 => ((try dsimp only at hSw); go_simp; (try with_reducible rfl))
                    try simp only [Act.put, List.setIfInBounds_toArray, List.set_cons_zero, List.set_cons_succ]
                    refine heldVal (v := .agg #[.int .u64 (wv c.P 0 : Nat), .int .u64 (wv c.P 1 : Nat), .int .u64 (wv c.P 2 : Nat), .int .u64 (wv c.P 3 : Nat), .int .u64 (wv c.P 4 : Nat), .int .u64 (wv c.P 5 : Nat), .int .u64 (wv c.P 6 : Nat)]) 5 rfl rfl (by kernel_rfl) (by kernel_rfl) (by kernel_rfl) (fun _ _ _ h => h) (by rfl) (fun w hSw => ?hy16) (by assumption) ?_
                    case hy16 => ((try dsimp only at hSw); go_simp)
                    try simp only [Act.put, List.setIfInBounds_toArray, List.set_cons_zero, List.set_cons_succ]
                    refine heldVal (v := ?v17) 8 rfl rfl (by kernel_rfl) (by kernel_rfl) (by kernel_rfl) (fun _ _ _ h => h) (by rfl) (fun w hSw => ?hy17) (by assumption) ?_
                    case hy17 => ((try dsimp only at hSw); go_simp; (try with_reducible rfl))
                    try simp only [Act.put, List.setIfInBounds_toArray, List.set_cons_zero, List.set_cons_succ]
                    refine heldVal (v := .agg #[.int .u64 (wv c.P 0 : Nat), .int .u64 (wv c.P 1 : Nat), .int .u64 (wv c.P 2 : Nat), .int .u64 (wv c.P 3 : Nat), .int .u64 (wv c.P 4 : Nat), .int .u64 (wv c.P 5 : Nat), .int .u64 (wv c.P 6 : Nat)]) 9 rfl rfl (by kernel_rfl) (by kernel_rfl) (by kernel_rfl) (fun _ _ _ h => h) (by rfl) (fun w hSw => ?hy18) (by assumption) ?_
                    case hy18 => ((try dsimp only at hSw); go_simp)
                    try simp only [Act.put, List.setIfInBounds_toArray, List.set_cons_zero, List.set_cons_succ]
                    refine heldCall 6 rfl rfl (by kernel_rfl) (by rfl) (fun K hK => ?_)
                    go_simp
                    refine (KL.out _).mono ?_
                    rintro e w4 ⟨A1, c1, rfl, hi, hb, _⟩
                    have hB2 : Below W0.heap.size W0 w4 := hB1.trans (hb.mono hB1.size)
                    have hS2 := HMK.out w4 hB2
                    clear hb
                    go_wp2_with fail
                    refine hK.out _ _ ?hS (fun hHeld => ?_)
                    case hS => (exact hS2)
                    clear hK K
                    try simp only [Act.put, List.setIfInBounds_toArray, List.set_cons_zero, List.set_cons_succ]
                    refine heldCall 7 rfl rfl (by kernel_rfl) (by rfl) (fun K hK => ?_)
                    go_simp
                    refine (KF.out _ _ _ hi).mono ?_
                    rintro e w5 ⟨rfl, hb⟩
                    have hB3 : Below W0.heap.size W0 w5 := hB2.trans (hb.mono hB2.size)
                    have hS3 := HMK.out w5 hB3
                    clear hb
                    go_wp2_with fail
                    refine hK.out _ _ ?hS (fun hHeld => ?_)
                    case hS => (exact hS3)
                    clear hK K
                    try simp only [Act.put, List.setIfInBounds_toArray, List.set_cons_zero, List.set_cons_succ]
                    refine heldVal (v := ?v19) 10 rfl rfl (by kernel_rfl) (by kernel_rfl) (by kernel_rfl) (fun _ _ _ h => h) (by rfl) (fun w hSw => ?hy19) (by assumption) ?_
                    case hy19 => ((try dsimp only at hSw); go_simp; (try with_reducible rfl))
                    try simp only [Act.put, List.setIfInBounds_toArray, List.set_cons_zero, List.set_cons_succ]
                    refine heldVal (v := ?v20) 11 rfl rfl (by kernel_rfl) (by kernel_rfl) (by kernel_rfl) (fun _ _ _ h => h) (by rfl) (fun w hSw => ?hy20) (by assumption) ?_
                    case hy20 => ((try dsimp only at hSw); go_simp; (try with_reducible rfl))
                    try simp only [Act.put, List.setIfInBounds_toArray, List.set_cons_zero, List.set_cons_succ]
                    refine heldVal (v := ?v21) 12 rfl rfl (by kernel_rfl) (by kernel_rfl) (by kernel_rfl) (fun _ _ _ h => h) (by rfl) (fun w hSw => ?hy21) (by assumption) ?_
                    case hy21 => ((try dsimp only at hSw); go_simp; (try with_reducible rfl))
                    try simp only [Act.put, List.setIfInBounds_toArray, List.set_cons_zero, List.set_cons_succ]
                    refine heldSkip 13 rfl rfl (by kernel_rfl) (by kernel_rfl) (by kernel_rfl) (fun _ _ _ h => h) (by rfl) (by assumption) ?_
                    try simp only [Act.put, List.setIfInBounds_toArray, List.set_cons_zero, List.set_cons_succ]
                    refine heldSkip 14 rfl rfl (by kernel_rfl) (by kernel_rfl) (by kernel_rfl) (fun _ _ _ h => h) (by rfl) (by assumption) ?_
                    try simp only [Act.put, List.setIfInBounds_toArray, List.set_cons_zero, List.set_cons_succ]
                    refine heldSkip 15 rfl rfl (by kernel_rfl) (by kernel_rfl) (by kernel_rfl) (fun _ _ _ h => h) (by rfl) (by assumption) ?_
                    try simp only [Act.put, List.setIfInBounds_toArray, List.set_cons_zero, List.set_cons_succ]
                    refine heldVal (v := ?v22) 16 rfl rfl (by kernel_rfl) (by kernel_rfl) (by kernel_rfl) (fun _ _ _ h => h) (by rfl) (fun w hSw => ?hy22) (by assumption) ?_
                    case hy22 => ((try dsimp only at hSw); go_simp; (try with_reducible rfl))
                    try simp only [Act.put, List.setIfInBounds_toArray, List.set_cons_zero, List.set_cons_succ]
                    refine heldVal (v := ?v23) 17 rfl rfl (by kernel_rfl) (by kernel_rfl) (by kernel_rfl) (fun _ _ _ h => h) (by rfl) (fun w hSw => ?hy23) (by assumption) ?_
                    case hy23 => ((try dsimp only at hSw); go_simp; (try with_reducible rfl))
                    try simp only [Act.put, List.setIfInBounds_toArray, List.set_cons_zero, List.set_cons_succ]
                    refine heldSkip 18 rfl rfl (by kernel_rfl) (by kernel_rfl) (by kernel_rfl) (fun _ _ _ h => h) (by rfl) (by assumption) ?_
                    try simp only [Act.put, List.setIfInBounds_toArray, List.set_cons_zero, List.set_cons_succ]
                    refine heldSkip 19 rfl rfl (by kernel_rfl) (by kernel_rfl) (by kernel_rfl) (fun _ _ _ h => h) (by rfl) (by assumption) ?_
                    try simp only [Act.put, List.setIfInBounds_toArray, List.set_cons_zero, List.set_cons_succ]
                    refine heldSkip 20 rfl rfl (by kernel_rfl) (by kernel_rfl) (by kernel_rfl) (fun _ _ _ h => h) (by rfl) (by assumption) ?_
                    try simp only [Act.put, List.setIfInBounds_toArray, List.set_cons_zero, List.set_cons_succ]
                    refine heldVal (v := ?v24) 21 rfl rfl (by kernel_rfl) (by kernel_rfl) (by kernel_rfl) (fun _ _ _ h => h) (by rfl) (fun w hSw => ?hy24) (by assumption) ?_
                    case hy24 => ((try dsimp only at hSw); go_simp; (try with_reducible rfl))
                    try simp only [Act.put, List.setIfInBounds_toArray, List.set_cons_zero, List.set_cons_succ]
                    refine heldVal (v := ?v25) 22 rfl rfl (by kernel_rfl) (by kernel_rfl) (by kernel_rfl) (fun _ _ _ h => h) (by rfl) (fun w hSw => ?hy25) (by assumption) ?_
                    case hy25 => ((try dsimp only at hSw); go_simp; (try with_reducible rfl))
                    try simp only [Act.put, List.setIfInBounds_toArray, List.set_cons_zero, List.set_cons_succ]
                    refine heldSkip 23 rfl rfl (by kernel_rfl) (by kernel_rfl) (by kernel_rfl) (fun _ _ _ h => h) (by rfl) (by assumption) ?_
                    try simp only [Act.put, List.setIfInBounds_toArray, List.set_cons_zero, List.set_cons_succ]
                    refine heldSkip 24 rfl rfl (by kernel_rfl) (by kernel_rfl) (by kernel_rfl) (fun _ _ _ h => h) (by rfl) (by assumption) ?_
                    try simp only [Act.put, List.setIfInBounds_toArray, List.set_cons_zero, List.set_cons_succ]
                    refine heldSkip 25 rfl rfl (by kernel_rfl) (by kernel_rfl) (by kernel_rfl) (fun _ _ _ h => h) (by rfl) (by assumption) ?_
                    try simp only [Act.put, List.setIfInBounds_toArray, List.set_cons_zero, List.set_cons_succ]
                    refine heldVal (v := ?v26) 26 rfl rfl (by kernel_rfl) (by kernel_rfl) (by kernel_rfl) (fun _ _ _ h => h) (by rfl) (fun w hSw => ?hy26) (by assumption) ?_
                    case hy26 => ((try dsimp only at hSw); go_simp; (try with_reducible rfl))
                    try simp only [Act.put, List.setIfInBounds_toArray, List.set_cons_zero, List.set_cons_succ]
                    refine heldVal (v := ?v27) 27 rfl rfl (by kernel_rfl) (by kernel_rfl) (by kernel_rfl) (fun _ _ _ h => h) (by rfl) (fun w hSw => ?hy27) (by assumption) ?_
                    case hy27 => ((try dsimp only at hSw); go_simp; (try with_reducible rfl))
                    try simp only [Act.put, List.setIfInBounds_toArray, List.set_cons_zero, List.set_cons_succ]
                    refine wpAnyH_done (by kernel_rfl) ?_ _
                    have hbS := hB3
                    have HB3 := Lib.hid (HB0.out.trans (hbS.mono HB0.out.size))
                    go_wp2
                    go_ret
                    exact ⟨by rw [HE.out]; rfl, HB3.out⟩
                  · cases ub
                    · have HE := Lib.hid (show bb = false by rw [HMB.out]; rfl)
                      clear HMB
                      have hB0 : Below W0.heap.size W0 W0.drew := (Below.refl _ _).drew
                      refine wp_region_held_drew (S := (fun X => Below W0.heap.size W0 X ∧ X.cell? ⟨w.heap.size, 8, none⟩ = some (.int .i64 c.n) ∧ X.cell? ⟨w.heap.size, 9, none⟩ = some (.bool c.b) ∧ X.cell? ⟨w.heap.size, 10, none⟩ = some (.int .u64 (c.D 0 : Nat)) ∧ X.cell? ⟨w.heap.size, 11, none⟩ = some (.int .u64 (c.D 1 : Nat)) ∧ X.cell? ⟨w.heap.size, 12, none⟩ = some (.int .u64 (c.D 2 : Nat)) ∧ X.cell? ⟨w.heap.size, 13, none⟩ = some (.int .u64 (c.D 3 : Nat)) ∧ X.cell? ⟨w.heap.size, 14, none⟩ = some (.int .u64 (c.D 4 : Nat)) ∧ X.cell? ⟨w.heap.size, 15, none⟩ = some (.int .u64 (c.D 5 : Nat)) ∧ X.cell? ⟨w.heap.size, 16, none⟩ = some (.int .u64 (c.D 6 : Nat)) ∧ X.cell? ⟨w.heap.size, 17, none⟩ = some (.int .u64 (c.D 7 : Nat)) ∧ X.cell? ⟨w.heap.size, 18, none⟩ = some (.int .u64 (wv c.P 0 : Nat)) ∧ X.cell? ⟨w.heap.size, 19, none⟩ = some (.int .u64 (wv c.P 1 : Nat)) ∧ X.cell? ⟨w.heap.size, 20, none⟩ = some (.int .u64 (wv c.P 2 : Nat)) ∧ X.cell? ⟨w.heap.size, 21, none⟩ = some (.int .u64 (wv c.P 3 : Nat)) ∧ X.cell? ⟨w.heap.size, 22, none⟩ = some (.int .u64 (wv c.P 4 : Nat)) ∧ X.cell? ⟨w.heap.size, 23, none⟩ = some (.int .u64 (wv c.P 5 : Nat)) ∧ X.cell? ⟨w.heap.size, 24, none⟩ = some (.int .u64 (wv c.P 6 : Nat)) ∧ X.cell? ⟨w.heap.size, 25, none⟩ = some (.int .i64 c.u) ∧ X.cell? ⟨w.heap.size, 26, none⟩ = some (.int .i64 c.st) ∧ X.cell? ⟨w.heap.size, 27, none⟩ = some (.int .i64 c.an))) (by kernel_rfl) HS (fun hHeld => ?_)
                      refine heldVal (v := ?v28) 0 rfl rfl (by kernel_rfl) (by kernel_rfl) (by kernel_rfl) (fun _ _ _ h => h) (by rfl) (fun w hSw => ?hy28) (by assumption) ?_
                      case hy28 => ((try dsimp only at hSw); go_simp; (try with_reducible rfl))
                      try simp only [Act.put, List.setIfInBounds_toArray, List.set_cons_zero, List.set_cons_succ]
                      refine heldVal (v := .agg #[.int .i64 c.n, .bool c.b, .int .u64 (c.D 0 : Nat), .int .u64 (c.D 1 : Nat), .int .u64 (c.D 2 : Nat), .int .u64 (c.D 3 : Nat), .int .u64 (c.D 4 : Nat), .int .u64 (c.D 5 : Nat), .int .u64 (c.D 6 : Nat), .int .u64 (c.D 7 : Nat)]) 1 rfl rfl (by kernel_rfl) (by kernel_rfl) (by kernel_rfl) (fun _ _ _ h => h) (by rfl) (fun w hSw => ?hy29) (by assumption) ?_
                      case hy29 => ((try dsimp only at hSw); go_simp)
                      try simp only [Act.put, List.setIfInBounds_toArray, List.set_cons_zero, List.set_cons_succ]
                      refine heldCall 2 rfl rfl (by kernel_rfl) (by rfl) (fun K hK => ?_)
                      go_simp
                      refine (KO.out _).mono ?_
                      rintro e w3 ⟨rfl, hb⟩
                      have hB1 : Below W0.heap.size W0 w3 := hB0.trans (hb.mono hB0.size)
                      have hS1 := HMK.out w3 hB1
                      clear hb
                      go_wp2_with fail
                      refine hK.out _ _ ?hS (fun hHeld => ?_)
                      case hS => (exact hS1)
                      clear hK K
                      try simp only [Act.put, List.setIfInBounds_toArray, List.set_cons_zero, List.set_cons_succ]
                      refine heldVal (v := ?v30) 3 rfl rfl (by kernel_rfl) (by kernel_rfl) (by kernel_rfl) (fun _ _ _ h => h) (by rfl) (fun w hSw => ?hy30) (by assumption) ?_
                      case hy30 => ((try dsimp only at hSw); go_simp; (try with_reducible rfl))
                      try simp only [Act.put, List.setIfInBounds_toArray, List.set_cons_zero, List.set_cons_succ]
                      refine heldVal (v := ?v31) 4 rfl rfl (by kernel_rfl) (by kernel_rfl) (by kernel_rfl) (fun _ _ _ h => h) (by rfl) (fun w hSw => ?hy31) (by assumption) ?_
                      case hy31 => ((try dsimp only at hSw); go_simp; (try with_reducible rfl))
                      try simp only [Act.put, List.setIfInBounds_toArray, List.set_cons_zero, List.set_cons_succ]
                      refine heldVal (v := .agg #[.int .u64 (wv c.P 0 : Nat), .int .u64 (wv c.P 1 : Nat), .int .u64 (wv c.P 2 : Nat), .int .u64 (wv c.P 3 : Nat), .int .u64 (wv c.P 4 : Nat), .int .u64 (wv c.P 5 : Nat), .int .u64 (wv c.P 6 : Nat)]) 5 rfl rfl (by kernel_rfl) (by kernel_rfl) (by kernel_rfl) (fun _ _ _ h => h) (by rfl) (fun w hSw => ?hy32) (by assumption) ?_
                      case hy32 => ((try dsimp only at hSw); go_simp)
                      try simp only [Act.put, List.setIfInBounds_toArray, List.set_cons_zero, List.set_cons_succ]
                      refine heldVal (v := ?v33) 8 rfl rfl (by kernel_rfl) (by kernel_rfl) (by kernel_rfl) (fun _ _ _ h => h) (by rfl) (fun w hSw => ?hy33) (by assumption) ?_
                      case hy33 => ((try dsimp only at hSw); go_simp; (try with_reducible rfl))
                      try simp only [Act.put, List.setIfInBounds_toArray, List.set_cons_zero, List.set_cons_succ]
                      refine heldVal (v := .agg #[.int .u64 (wv c.P 0 : Nat), .int .u64 (wv c.P 1 : Nat), .int .u64 (wv c.P 2 : Nat), .int .u64 (wv c.P 3 : Nat), .int .u64 (wv c.P 4 : Nat), .int .u64 (wv c.P 5 : Nat), .int .u64 (wv c.P 6 : Nat)]) 9 rfl rfl (by kernel_rfl) (by kernel_rfl) (by kernel_rfl) (fun _ _ _ h => h) (by rfl) (fun w hSw => ?hy34) (by assumption) ?_
                      case hy34 => ((try dsimp only at hSw); go_simp)
                      try simp only [Act.put, List.setIfInBounds_toArray, List.set_cons_zero, List.set_cons_succ]
                      refine heldCall 6 rfl rfl (by kernel_rfl) (by rfl) (fun K hK => ?_)
                      go_simp
                      refine (KL.out _).mono ?_
                      rintro e w4 ⟨A1, c1, rfl, hi, hb, _⟩
                      have hB2 : Below W0.heap.size W0 w4 := hB1.trans (hb.mono hB1.size)
                      have hS2 := HMK.out w4 hB2
                      clear hb
                      go_wp2_with fail
                      refine hK.out _ _ ?hS (fun hHeld => ?_)
                      case hS => (exact hS2)
                      clear hK K
                      try simp only [Act.put, List.setIfInBounds_toArray, List.set_cons_zero, List.set_cons_succ]
                      refine heldCall 7 rfl rfl (by kernel_rfl) (by rfl) (fun K hK => ?_)
                      go_simp
                      refine (KF.out _ _ _ hi).mono ?_
                      rintro e w5 ⟨rfl, hb⟩
                      have hB3 : Below W0.heap.size W0 w5 := hB2.trans (hb.mono hB2.size)
                      have hS3 := HMK.out w5 hB3
                      clear hb
                      go_wp2_with fail
                      refine hK.out _ _ ?hS (fun hHeld => ?_)
                      case hS => (exact hS3)
                      clear hK K
                      try simp only [Act.put, List.setIfInBounds_toArray, List.set_cons_zero, List.set_cons_succ]
                      refine heldVal (v := ?v35) 10 rfl rfl (by kernel_rfl) (by kernel_rfl) (by kernel_rfl) (fun _ _ _ h => h) (by rfl) (fun w hSw => ?hy35) (by assumption) ?_
                      case hy35 => ((try dsimp only at hSw); go_simp; (try with_reducible rfl))
                      try simp only [Act.put, List.setIfInBounds_toArray, List.set_cons_zero, List.set_cons_succ]
                      refine heldVal (v := ?v36) 11 rfl rfl (by kernel_rfl) (by kernel_rfl) (by kernel_rfl) (fun _ _ _ h => h) (by rfl) (fun w hSw => ?hy36) (by assumption) ?_
                      case hy36 => ((try dsimp only at hSw); go_simp; (try with_reducible rfl))
                      try simp only [Act.put, List.setIfInBounds_toArray, List.set_cons_zero, List.set_cons_succ]
                      refine heldVal (v := ?v37) 12 rfl rfl (by kernel_rfl) (by kernel_rfl) (by kernel_rfl) (fun _ _ _ h => h) (by rfl) (fun w hSw => ?hy37) (by assumption) ?_
                      case hy37 => ((try dsimp only at hSw); go_simp; (try with_reducible rfl))
                      try simp only [Act.put, List.setIfInBounds_toArray, List.set_cons_zero, List.set_cons_succ]
                      refine heldVal (v := ?v38) 13 rfl rfl (by kernel_rfl) (by kernel_rfl) (by kernel_rfl) (fun _ _ _ h => h) (by rfl) (fun w hSw => ?hy38) (by assumption) ?_
                      case hy38 => ((try dsimp only at hSw); go_simp; (try with_reducible rfl))
                      try simp only [Act.put, List.setIfInBounds_toArray, List.set_cons_zero, List.set_cons_succ]
                      refine heldVal (v := ?v39) 14 rfl rfl (by kernel_rfl) (by kernel_rfl) (by kernel_rfl) (fun _ _ _ h => h) (by rfl) (fun w hSw => ?hy39) (by assumption) ?_
                      case hy39 => ((try dsimp only at hSw); go_simp; (try with_reducible rfl))
                      try simp only [Act.put, List.setIfInBounds_toArray, List.set_cons_zero, List.set_cons_succ]
                      refine heldCall 15 rfl rfl (by kernel_rfl) (by rfl) (fun K hK => ?_)
                      go_simp
                      refine (KU.out _).mono ?_
                      rintro e w6 ⟨rfl, rfl⟩
                      have hB4 := hB3
                      have hS4 := HMK.out _ hB4
                      go_wp2_with fail
                      refine hK.out _ _ ?hS (fun hHeld => ?_)
                      case hS => (exact hS4)
                      clear hK K
                      try simp only [Act.put, List.setIfInBounds_toArray, List.set_cons_zero, List.set_cons_succ]
                      refine heldVal (v := ?v40) 16 rfl rfl (by kernel_rfl) (by kernel_rfl) (by kernel_rfl) (fun _ _ _ h => h) (by rfl) (fun w hSw => ?hy40) (by assumption) ?_
                      case hy40 => ((try dsimp only at hSw); go_simp; (try with_reducible rfl))
                      try simp only [Act.put, List.setIfInBounds_toArray, List.set_cons_zero, List.set_cons_succ]
                      refine heldVal (v := ?v41) 17 rfl rfl (by kernel_rfl) (by kernel_rfl) (by kernel_rfl) (fun _ _ _ h => h) (by rfl) (fun w hSw => ?hy41) (by assumption) ?_
                      case hy41 => ((try dsimp only at hSw); go_simp; (try with_reducible rfl))
                      try simp only [Act.put, List.setIfInBounds_toArray, List.set_cons_zero, List.set_cons_succ]
                      refine heldSkip 18 rfl rfl (by kernel_rfl) (by kernel_rfl) (by kernel_rfl) (fun _ _ _ h => h) (by rfl) (by assumption) ?_
                      try simp only [Act.put, List.setIfInBounds_toArray, List.set_cons_zero, List.set_cons_succ]
                      refine heldSkip 19 rfl rfl (by kernel_rfl) (by kernel_rfl) (by kernel_rfl) (fun _ _ _ h => h) (by rfl) (by assumption) ?_
                      try simp only [Act.put, List.setIfInBounds_toArray, List.set_cons_zero, List.set_cons_succ]
                      refine heldSkip 20 rfl rfl (by kernel_rfl) (by kernel_rfl) (by kernel_rfl) (fun _ _ _ h => h) (by rfl) (by assumption) ?_
                      try simp only [Act.put, List.setIfInBounds_toArray, List.set_cons_zero, List.set_cons_succ]
                      refine heldVal (v := ?v42) 21 rfl rfl (by kernel_rfl) (by kernel_rfl) (by kernel_rfl) (fun _ _ _ h => h) (by rfl) (fun w hSw => ?hy42) (by assumption) ?_
                      case hy42 => ((try dsimp only at hSw); go_simp; (try with_reducible rfl))
                      try simp only [Act.put, List.setIfInBounds_toArray, List.set_cons_zero, List.set_cons_succ]
                      refine heldVal (v := ?v43) 22 rfl rfl (by kernel_rfl) (by kernel_rfl) (by kernel_rfl) (fun _ _ _ h => h) (by rfl) (fun w hSw => ?hy43) (by assumption) ?_
                      case hy43 => ((try dsimp only at hSw); go_simp; (try with_reducible rfl))
                      try simp only [Act.put, List.setIfInBounds_toArray, List.set_cons_zero, List.set_cons_succ]
                      refine heldSkip 23 rfl rfl (by kernel_rfl) (by kernel_rfl) (by kernel_rfl) (fun _ _ _ h => h) (by rfl) (by assumption) ?_
                      try simp only [Act.put, List.setIfInBounds_toArray, List.set_cons_zero, List.set_cons_succ]
                      refine heldSkip 24 rfl rfl (by kernel_rfl) (by kernel_rfl) (by kernel_rfl) (fun _ _ _ h => h) (by rfl) (by assumption) ?_
                      try simp only [Act.put, List.setIfInBounds_toArray, List.set_cons_zero, List.set_cons_succ]
                      refine heldSkip 25 rfl rfl (by kernel_rfl) (by kernel_rfl) (by kernel_rfl) (fun _ _ _ h => h) (by rfl) (by assumption) ?_
                      try simp only [Act.put, List.setIfInBounds_toArray, List.set_cons_zero, List.set_cons_succ]
                      refine heldVal (v := ?v44) 26 rfl rfl (by kernel_rfl) (by kernel_rfl) (by kernel_rfl) (fun _ _ _ h => h) (by rfl) (fun w hSw => ?hy44) (by assumption) ?_
                      case hy44 => ((try dsimp only at hSw); go_simp; (try with_reducible rfl))
                      try simp only [Act.put, List.setIfInBounds_toArray, List.set_cons_zero, List.set_cons_succ]
                      refine heldVal (v := ?v45) 27 rfl rfl (by kernel_rfl) (by kernel_rfl) (by kernel_rfl) (fun _ _ _ h => h) (by rfl) (fun w hSw => ?hy45) (by assumption) ?_
                      case hy45 => ((try dsimp only at hSw); go_simp; (try with_reducible rfl))
                      try simp only [Act.put, List.setIfInBounds_toArray, List.set_cons_zero, List.set_cons_succ]
                      refine wpAnyH_done (by kernel_rfl) ?_ _
                      have hbS := hB4
                      have HB3 := Lib.hid (HB0.out.trans (hbS.mono HB0.out.size))
                      go_wp2
                      go_ret
                      exact ⟨by rw [HE.out]; rfl, HB3.out⟩
                    · by_cases hst : 1 ≤ c.st
                      · have d1 : decide (1 ≤ c.st) = true := dec_t hst
                        have HE := Lib.hid (show bb = ab by rw [HMB.out, d1]; rfl)
                        clear HMB
                        have hB0 : Below W0.heap.size W0 W0.drew := (Below.refl _ _).drew
                        refine wp_region_held_drew (S := (fun X => Below W0.heap.size W0 X ∧ X.cell? ⟨w.heap.size, 8, none⟩ = some (.int .i64 c.n) ∧ X.cell? ⟨w.heap.size, 9, none⟩ = some (.bool c.b) ∧ X.cell? ⟨w.heap.size, 10, none⟩ = some (.int .u64 (c.D 0 : Nat)) ∧ X.cell? ⟨w.heap.size, 11, none⟩ = some (.int .u64 (c.D 1 : Nat)) ∧ X.cell? ⟨w.heap.size, 12, none⟩ = some (.int .u64 (c.D 2 : Nat)) ∧ X.cell? ⟨w.heap.size, 13, none⟩ = some (.int .u64 (c.D 3 : Nat)) ∧ X.cell? ⟨w.heap.size, 14, none⟩ = some (.int .u64 (c.D 4 : Nat)) ∧ X.cell? ⟨w.heap.size, 15, none⟩ = some (.int .u64 (c.D 5 : Nat)) ∧ X.cell? ⟨w.heap.size, 16, none⟩ = some (.int .u64 (c.D 6 : Nat)) ∧ X.cell? ⟨w.heap.size, 17, none⟩ = some (.int .u64 (c.D 7 : Nat)) ∧ X.cell? ⟨w.heap.size, 18, none⟩ = some (.int .u64 (wv c.P 0 : Nat)) ∧ X.cell? ⟨w.heap.size, 19, none⟩ = some (.int .u64 (wv c.P 1 : Nat)) ∧ X.cell? ⟨w.heap.size, 20, none⟩ = some (.int .u64 (wv c.P 2 : Nat)) ∧ X.cell? ⟨w.heap.size, 21, none⟩ = some (.int .u64 (wv c.P 3 : Nat)) ∧ X.cell? ⟨w.heap.size, 22, none⟩ = some (.int .u64 (wv c.P 4 : Nat)) ∧ X.cell? ⟨w.heap.size, 23, none⟩ = some (.int .u64 (wv c.P 5 : Nat)) ∧ X.cell? ⟨w.heap.size, 24, none⟩ = some (.int .u64 (wv c.P 6 : Nat)) ∧ X.cell? ⟨w.heap.size, 25, none⟩ = some (.int .i64 c.u) ∧ X.cell? ⟨w.heap.size, 26, none⟩ = some (.int .i64 c.st) ∧ X.cell? ⟨w.heap.size, 27, none⟩ = some (.int .i64 c.an))) (by kernel_rfl) HS (fun hHeld => ?_)
                        refine heldVal (v := ?v46) 0 rfl rfl (by kernel_rfl) (by kernel_rfl) (by kernel_rfl) (fun _ _ _ h => h) (by rfl) (fun w hSw => ?hy46) (by assumption) ?_
                        case hy46 => ((try dsimp only at hSw); go_simp; (try with_reducible rfl))
                        try simp only [Act.put, List.setIfInBounds_toArray, List.set_cons_zero, List.set_cons_succ]
                        refine heldVal (v := .agg #[.int .i64 c.n, .bool c.b, .int .u64 (c.D 0 : Nat), .int .u64 (c.D 1 : Nat), .int .u64 (c.D 2 : Nat), .int .u64 (c.D 3 : Nat), .int .u64 (c.D 4 : Nat), .int .u64 (c.D 5 : Nat), .int .u64 (c.D 6 : Nat), .int .u64 (c.D 7 : Nat)]) 1 rfl rfl (by kernel_rfl) (by kernel_rfl) (by kernel_rfl) (fun _ _ _ h => h) (by rfl) (fun w hSw => ?hy47) (by assumption) ?_
                        case hy47 => ((try dsimp only at hSw); go_simp)
                        try simp only [Act.put, List.setIfInBounds_toArray, List.set_cons_zero, List.set_cons_succ]
                        refine heldCall 2 rfl rfl (by kernel_rfl) (by rfl) (fun K hK => ?_)
                        go_simp
                        refine (KO.out _).mono ?_
                        rintro e w3 ⟨rfl, hb⟩
                        have hB1 : Below W0.heap.size W0 w3 := hB0.trans (hb.mono hB0.size)
                        have hS1 := HMK.out w3 hB1
                        clear hb
                        go_wp2_with fail
                        refine hK.out _ _ ?hS (fun hHeld => ?_)
                        case hS => (exact hS1)
                        clear hK K
                        try simp only [Act.put, List.setIfInBounds_toArray, List.set_cons_zero, List.set_cons_succ]
                        refine heldVal (v := ?v48) 3 rfl rfl (by kernel_rfl) (by kernel_rfl) (by kernel_rfl) (fun _ _ _ h => h) (by rfl) (fun w hSw => ?hy48) (by assumption) ?_
                        case hy48 => ((try dsimp only at hSw); go_simp; (try with_reducible rfl))
                        try simp only [Act.put, List.setIfInBounds_toArray, List.set_cons_zero, List.set_cons_succ]
                        refine heldVal (v := ?v49) 4 rfl rfl (by kernel_rfl) (by kernel_rfl) (by kernel_rfl) (fun _ _ _ h => h) (by rfl) (fun w hSw => ?hy49) (by assumption) ?_
                        case hy49 => ((try dsimp only at hSw); go_simp; (try with_reducible rfl))
                        try simp only [Act.put, List.setIfInBounds_toArray, List.set_cons_zero, List.set_cons_succ]
                        refine heldVal (v := .agg #[.int .u64 (wv c.P 0 : Nat), .int .u64 (wv c.P 1 : Nat), .int .u64 (wv c.P 2 : Nat), .int .u64 (wv c.P 3 : Nat), .int .u64 (wv c.P 4 : Nat), .int .u64 (wv c.P 5 : Nat), .int .u64 (wv c.P 6 : Nat)]) 5 rfl rfl (by kernel_rfl) (by kernel_rfl) (by kernel_rfl) (fun _ _ _ h => h) (by rfl) (fun w hSw => ?hy50) (by assumption) ?_
                        case hy50 => ((try dsimp only at hSw); go_simp)
                        try simp only [Act.put, List.setIfInBounds_toArray, List.set_cons_zero, List.set_cons_succ]
                        refine heldVal (v := ?v51) 8 rfl rfl (by kernel_rfl) (by kernel_rfl) (by kernel_rfl) (fun _ _ _ h => h) (by rfl) (fun w hSw => ?hy51) (by assumption) ?_
                        case hy51 => ((try dsimp only at hSw); go_simp; (try with_reducible rfl))
                        try simp only [Act.put, List.setIfInBounds_toArray, List.set_cons_zero, List.set_cons_succ]
                        refine heldVal (v := .agg #[.int .u64 (wv c.P 0 : Nat), .int .u64 (wv c.P 1 : Nat), .int .u64 (wv c.P 2 : Nat), .int .u64 (wv c.P 3 : Nat), .int .u64 (wv c.P 4 : Nat), .int .u64 (wv c.P 5 : Nat), .int .u64 (wv c.P 6 : Nat)]) 9 rfl rfl (by kernel_rfl) (by kernel_rfl) (by kernel_rfl) (fun _ _ _ h => h) (by rfl) (fun w hSw => ?hy52) (by assumption) ?_
                        case hy52 => ((try dsimp only at hSw); go_simp)
                        try simp only [Act.put, List.setIfInBounds_toArray, List.set_cons_zero, List.set_cons_succ]
                        refine heldCall 6 rfl rfl (by kernel_rfl) (by rfl) (fun K hK => ?_)
                        go_simp
                        refine (KL.out _).mono ?_
                        rintro e w4 ⟨A1, c1, rfl, hi, hb, _⟩
                        have hB2 : Below W0.heap.size W0 w4 := hB1.trans (hb.mono hB1.size)
                        have hS2 := HMK.out w4 hB2
                        clear hb
                        go_wp2_with fail
                        refine hK.out _ _ ?hS (fun hHeld => ?_)
                        case hS => (exact hS2)
                        clear hK K
                        try simp only [Act.put, List.setIfInBounds_toArray, List.set_cons_zero, List.set_cons_succ]
                        refine heldCall 7 rfl rfl (by kernel_rfl) (by rfl) (fun K hK => ?_)
                        go_simp
                        refine (KF.out _ _ _ hi).mono ?_
                        rintro e w5 ⟨rfl, hb⟩
                        have hB3 : Below W0.heap.size W0 w5 := hB2.trans (hb.mono hB2.size)
                        have hS3 := HMK.out w5 hB3
                        clear hb
                        go_wp2_with fail
                        refine hK.out _ _ ?hS (fun hHeld => ?_)
                        case hS => (exact hS3)
                        clear hK K
                        try simp only [Act.put, List.setIfInBounds_toArray, List.set_cons_zero, List.set_cons_succ]
                        refine heldVal (v := ?v53) 10 rfl rfl (by kernel_rfl) (by kernel_rfl) (by kernel_rfl) (fun _ _ _ h => h) (by rfl) (fun w hSw => ?hy53) (by assumption) ?_
                        case hy53 => ((try dsimp only at hSw); go_simp; (try with_reducible rfl))
                        try simp only [Act.put, List.setIfInBounds_toArray, List.set_cons_zero, List.set_cons_succ]
                        refine heldVal (v := ?v54) 11 rfl rfl (by kernel_rfl) (by kernel_rfl) (by kernel_rfl) (fun _ _ _ h => h) (by rfl) (fun w hSw => ?hy54) (by assumption) ?_
                        case hy54 => ((try dsimp only at hSw); go_simp; (try with_reducible rfl))
                        try simp only [Act.put, List.setIfInBounds_toArray, List.set_cons_zero, List.set_cons_succ]
                        refine heldVal (v := ?v55) 12 rfl rfl (by kernel_rfl) (by kernel_rfl) (by kernel_rfl) (fun _ _ _ h => h) (by rfl) (fun w hSw => ?hy55) (by assumption) ?_
                        case hy55 => ((try dsimp only at hSw); go_simp; (try with_reducible rfl))
                        try simp only [Act.put, List.setIfInBounds_toArray, List.set_cons_zero, List.set_cons_succ]
                        refine heldVal (v := ?v56) 13 rfl rfl (by kernel_rfl) (by kernel_rfl) (by kernel_rfl) (fun _ _ _ h => h) (by rfl) (fun w hSw => ?hy56) (by assumption) ?_
                        case hy56 => ((try dsimp only at hSw); go_simp; (try with_reducible rfl))
                        try simp only [Act.put, List.setIfInBounds_toArray, List.set_cons_zero, List.set_cons_succ]
                        refine heldVal (v := ?v57) 14 rfl rfl (by kernel_rfl) (by kernel_rfl) (by kernel_rfl) (fun _ _ _ h => h) (by rfl) (fun w hSw => ?hy57) (by assumption) ?_
                        case hy57 => ((try dsimp only at hSw); go_simp; (try with_reducible rfl))
                        try simp only [Act.put, List.setIfInBounds_toArray, List.set_cons_zero, List.set_cons_succ]
                        refine heldCall 15 rfl rfl (by kernel_rfl) (by rfl) (fun K hK => ?_)
                        go_simp
                        refine (KU.out _).mono ?_
                        rintro e w6 ⟨rfl, rfl⟩
                        have hB4 := hB3
                        have hS4 := HMK.out _ hB4
                        go_wp2_with fail
                        refine hK.out _ _ ?hS (fun hHeld => ?_)
                        case hS => (exact hS4)
                        clear hK K
                        try simp only [Act.put, List.setIfInBounds_toArray, List.set_cons_zero, List.set_cons_succ]
                        refine heldVal (v := ?v58) 16 rfl rfl (by kernel_rfl) (by kernel_rfl) (by kernel_rfl) (fun _ _ _ h => h) (by rfl) (fun w hSw => ?hy58) (by assumption) ?_
                        case hy58 => ((try dsimp only at hSw); go_simp; (try with_reducible rfl))
                        try simp only [Act.put, List.setIfInBounds_toArray, List.set_cons_zero, List.set_cons_succ]
                        refine heldVal (v := ?v59) 17 rfl rfl (by kernel_rfl) (by kernel_rfl) (by kernel_rfl) (fun _ _ _ h => h) (by rfl) (fun w hSw => ?hy59) (by assumption) ?_
                        case hy59 => ((try dsimp only at hSw); go_simp; (try with_reducible rfl))
                        try simp only [Act.put, List.setIfInBounds_toArray, List.set_cons_zero, List.set_cons_succ]
                        refine heldVal (v := ?v60) 18 rfl rfl (by kernel_rfl) (by kernel_rfl) (by kernel_rfl) (fun _ _ _ h => h) (by rfl) (fun w hSw => ?hy60) (by assumption) ?_
                        case hy60 => ((try dsimp only at hSw); go_simp; (try with_reducible rfl))
                        try simp only [Act.put, List.setIfInBounds_toArray, List.set_cons_zero, List.set_cons_succ]
                        refine heldVal (v := ?v61) 19 rfl rfl (by kernel_rfl) (by kernel_rfl) (by kernel_rfl) (fun _ _ _ h => h) (by rfl) (fun w hSw => ?hy61) (by assumption) ?_
                        case hy61 => ((try dsimp only at hSw); go_simp; (try with_reducible rfl))
                        try simp only [Act.put, List.setIfInBounds_toArray, List.set_cons_zero, List.set_cons_succ]
                        refine heldVal (v := ?v62) 20 rfl rfl (by kernel_rfl) (by kernel_rfl) (by kernel_rfl) (fun _ _ _ h => h) (by rfl) (fun w hSw => ?hy62) (by assumption) ?_
                        case hy62 => ((try dsimp only at hSw); go_simp; (try with_reducible rfl))
                        try simp only [Act.put, List.setIfInBounds_toArray, List.set_cons_zero, List.set_cons_succ]
                        refine heldVal (v := ?v63) 21 rfl rfl (by kernel_rfl) (by kernel_rfl) (by kernel_rfl) (fun _ _ _ h => h) (by rfl) (fun w hSw => ?hy63) (by assumption) ?_
                        case hy63 => ((try dsimp only at hSw); go_simp; (try with_reducible rfl))
                        try simp only [Act.put, List.setIfInBounds_toArray, List.set_cons_zero, List.set_cons_succ]
                        refine heldVal (v := ?v64) 22 rfl rfl (by kernel_rfl) (by kernel_rfl) (by kernel_rfl) (fun _ _ _ h => h) (by rfl) (fun w hSw => ?hy64) (by assumption) ?_
                        case hy64 => ((try dsimp only at hSw); go_simp; (try with_reducible rfl))
                        try simp only [Act.put, List.setIfInBounds_toArray, List.set_cons_zero, List.set_cons_succ]
                        refine heldVal (v := ?v65) 23 rfl rfl (by kernel_rfl) (by kernel_rfl) (by kernel_rfl) (fun _ _ _ h => h) (by rfl) (fun w hSw => ?hy65) (by assumption) ?_
                        case hy65 => ((try dsimp only at hSw); go_simp; (try with_reducible rfl))
                        try simp only [Act.put, List.setIfInBounds_toArray, List.set_cons_zero, List.set_cons_succ]
                        refine heldVal (v := ?v66) 24 rfl rfl (by kernel_rfl) (by kernel_rfl) (by kernel_rfl) (fun _ _ _ h => h) (by rfl) (fun w hSw => ?hy66) (by assumption) ?_
                        case hy66 => ((try dsimp only at hSw); go_simp; (try with_reducible rfl))
                        try simp only [Act.put, List.setIfInBounds_toArray, List.set_cons_zero, List.set_cons_succ]
                        refine heldCall 25 rfl rfl (by kernel_rfl) (by rfl) (fun K hK => ?_)
                        go_simp
                        refine (KA.out _).mono ?_
                        rintro e w7 ⟨rfl, rfl⟩
                        have hB5 := hB4
                        have hS5 := HMK.out _ hB5
                        go_wp2_with fail
                        refine hK.out _ _ ?hS (fun hHeld => ?_)
                        case hS => (exact hS5)
                        clear hK K
                        try simp only [Act.put, List.setIfInBounds_toArray, List.set_cons_zero, List.set_cons_succ]
                        refine heldVal (v := ?v67) 26 rfl rfl (by kernel_rfl) (by kernel_rfl) (by kernel_rfl) (fun _ _ _ h => h) (by rfl) (fun w hSw => ?hy67) (by assumption) ?_
                        case hy67 => ((try dsimp only at hSw); go_simp; (try with_reducible rfl))
                        try simp only [Act.put, List.setIfInBounds_toArray, List.set_cons_zero, List.set_cons_succ]
                        refine heldVal (v := ?v68) 27 rfl rfl (by kernel_rfl) (by kernel_rfl) (by kernel_rfl) (fun _ _ _ h => h) (by rfl) (fun w hSw => ?hy68) (by assumption) ?_
                        case hy68 => ((try dsimp only at hSw); go_simp; (try with_reducible rfl))
                        try simp only [Act.put, List.setIfInBounds_toArray, List.set_cons_zero, List.set_cons_succ]
                        refine wpAnyH_done (by kernel_rfl) ?_ _
                        have hbS := hB5
                        have HB3 := Lib.hid (HB0.out.trans (hbS.mono HB0.out.size))
                        go_wp2
                        go_ret
                        exact ⟨by rw [HE.out]; rfl, HB3.out⟩
                      · have d1 : decide (1 ≤ c.st) = false := dec_n hst
                        have HE := Lib.hid (show bb = false by rw [HMB.out, d1]; rfl)
                        clear HMB
                        have hB0 : Below W0.heap.size W0 W0.drew := (Below.refl _ _).drew
                        refine wp_region_held_drew (S := (fun X => Below W0.heap.size W0 X ∧ X.cell? ⟨w.heap.size, 8, none⟩ = some (.int .i64 c.n) ∧ X.cell? ⟨w.heap.size, 9, none⟩ = some (.bool c.b) ∧ X.cell? ⟨w.heap.size, 10, none⟩ = some (.int .u64 (c.D 0 : Nat)) ∧ X.cell? ⟨w.heap.size, 11, none⟩ = some (.int .u64 (c.D 1 : Nat)) ∧ X.cell? ⟨w.heap.size, 12, none⟩ = some (.int .u64 (c.D 2 : Nat)) ∧ X.cell? ⟨w.heap.size, 13, none⟩ = some (.int .u64 (c.D 3 : Nat)) ∧ X.cell? ⟨w.heap.size, 14, none⟩ = some (.int .u64 (c.D 4 : Nat)) ∧ X.cell? ⟨w.heap.size, 15, none⟩ = some (.int .u64 (c.D 5 : Nat)) ∧ X.cell? ⟨w.heap.size, 16, none⟩ = some (.int .u64 (c.D 6 : Nat)) ∧ X.cell? ⟨w.heap.size, 17, none⟩ = some (.int .u64 (c.D 7 : Nat)) ∧ X.cell? ⟨w.heap.size, 18, none⟩ = some (.int .u64 (wv c.P 0 : Nat)) ∧ X.cell? ⟨w.heap.size, 19, none⟩ = some (.int .u64 (wv c.P 1 : Nat)) ∧ X.cell? ⟨w.heap.size, 20, none⟩ = some (.int .u64 (wv c.P 2 : Nat)) ∧ X.cell? ⟨w.heap.size, 21, none⟩ = some (.int .u64 (wv c.P 3 : Nat)) ∧ X.cell? ⟨w.heap.size, 22, none⟩ = some (.int .u64 (wv c.P 4 : Nat)) ∧ X.cell? ⟨w.heap.size, 23, none⟩ = some (.int .u64 (wv c.P 5 : Nat)) ∧ X.cell? ⟨w.heap.size, 24, none⟩ = some (.int .u64 (wv c.P 6 : Nat)) ∧ X.cell? ⟨w.heap.size, 25, none⟩ = some (.int .i64 c.u) ∧ X.cell? ⟨w.heap.size, 26, none⟩ = some (.int .i64 c.st) ∧ X.cell? ⟨w.heap.size, 27, none⟩ = some (.int .i64 c.an))) (by kernel_rfl) HS (fun hHeld => ?_)
                        refine heldVal (v := ?v69) 0 rfl rfl (by kernel_rfl) (by kernel_rfl) (by kernel_rfl) (fun _ _ _ h => h) (by rfl) (fun w hSw => ?hy69) (by assumption) ?_
                        case hy69 => ((try dsimp only at hSw); go_simp; (try with_reducible rfl))
                        try simp only [Act.put, List.setIfInBounds_toArray, List.set_cons_zero, List.set_cons_succ]
                        refine heldVal (v := .agg #[.int .i64 c.n, .bool c.b, .int .u64 (c.D 0 : Nat), .int .u64 (c.D 1 : Nat), .int .u64 (c.D 2 : Nat), .int .u64 (c.D 3 : Nat), .int .u64 (c.D 4 : Nat), .int .u64 (c.D 5 : Nat), .int .u64 (c.D 6 : Nat), .int .u64 (c.D 7 : Nat)]) 1 rfl rfl (by kernel_rfl) (by kernel_rfl) (by kernel_rfl) (fun _ _ _ h => h) (by rfl) (fun w hSw => ?hy70) (by assumption) ?_
                        case hy70 => ((try dsimp only at hSw); go_simp)
                        try simp only [Act.put, List.setIfInBounds_toArray, List.set_cons_zero, List.set_cons_succ]
                        refine heldCall 2 rfl rfl (by kernel_rfl) (by rfl) (fun K hK => ?_)
                        go_simp
                        refine (KO.out _).mono ?_
                        rintro e w3 ⟨rfl, hb⟩
                        have hB1 : Below W0.heap.size W0 w3 := hB0.trans (hb.mono hB0.size)
                        have hS1 := HMK.out w3 hB1
                        clear hb
                        go_wp2_with fail
                        refine hK.out _ _ ?hS (fun hHeld => ?_)
                        case hS => (exact hS1)
                        clear hK K
                        try simp only [Act.put, List.setIfInBounds_toArray, List.set_cons_zero, List.set_cons_succ]
                        refine heldVal (v := ?v71) 3 rfl rfl (by kernel_rfl) (by kernel_rfl) (by kernel_rfl) (fun _ _ _ h => h) (by rfl) (fun w hSw => ?hy71) (by assumption) ?_
                        case hy71 => ((try dsimp only at hSw); go_simp; (try with_reducible rfl))
                        try simp only [Act.put, List.setIfInBounds_toArray, List.set_cons_zero, List.set_cons_succ]
                        refine heldVal (v := ?v72) 4 rfl rfl (by kernel_rfl) (by kernel_rfl) (by kernel_rfl) (fun _ _ _ h => h) (by rfl) (fun w hSw => ?hy72) (by assumption) ?_
                        case hy72 => ((try dsimp only at hSw); go_simp; (try with_reducible rfl))
                        try simp only [Act.put, List.setIfInBounds_toArray, List.set_cons_zero, List.set_cons_succ]
                        refine heldVal (v := .agg #[.int .u64 (wv c.P 0 : Nat), .int .u64 (wv c.P 1 : Nat), .int .u64 (wv c.P 2 : Nat), .int .u64 (wv c.P 3 : Nat), .int .u64 (wv c.P 4 : Nat), .int .u64 (wv c.P 5 : Nat), .int .u64 (wv c.P 6 : Nat)]) 5 rfl rfl (by kernel_rfl) (by kernel_rfl) (by kernel_rfl) (fun _ _ _ h => h) (by rfl) (fun w hSw => ?hy73) (by assumption) ?_
                        case hy73 => ((try dsimp only at hSw); go_simp)
                        try simp only [Act.put, List.setIfInBounds_toArray, List.set_cons_zero, List.set_cons_succ]
                        refine heldVal (v := ?v74) 8 rfl rfl (by kernel_rfl) (by kernel_rfl) (by kernel_rfl) (fun _ _ _ h => h) (by rfl) (fun w hSw => ?hy74) (by assumption) ?_
                        case hy74 => ((try dsimp only at hSw); go_simp; (try with_reducible rfl))
                        try simp only [Act.put, List.setIfInBounds_toArray, List.set_cons_zero, List.set_cons_succ]
                        refine heldVal (v := .agg #[.int .u64 (wv c.P 0 : Nat), .int .u64 (wv c.P 1 : Nat), .int .u64 (wv c.P 2 : Nat), .int .u64 (wv c.P 3 : Nat), .int .u64 (wv c.P 4 : Nat), .int .u64 (wv c.P 5 : Nat), .int .u64 (wv c.P 6 : Nat)]) 9 rfl rfl (by kernel_rfl) (by kernel_rfl) (by kernel_rfl) (fun _ _ _ h => h) (by rfl) (fun w hSw => ?hy75) (by assumption) ?_
                        case hy75 => ((try dsimp only at hSw); go_simp)
                        try simp only [Act.put, List.setIfInBounds_toArray, List.set_cons_zero, List.set_cons_succ]
                        refine heldCall 6 rfl rfl (by kernel_rfl) (by rfl) (fun K hK => ?_)
                        go_simp
                        refine (KL.out _).mono ?_
                        rintro e w4 ⟨A1, c1, rfl, hi, hb, _⟩
                        have hB2 : Below W0.heap.size W0 w4 := hB1.trans (hb.mono hB1.size)
                        have hS2 := HMK.out w4 hB2
                        clear hb
                        go_wp2_with fail
                        refine hK.out _ _ ?hS (fun hHeld => ?_)
                        case hS => (exact hS2)
                        clear hK K
                        try simp only [Act.put, List.setIfInBounds_toArray, List.set_cons_zero, List.set_cons_succ]
                        refine heldCall 7 rfl rfl (by kernel_rfl) (by rfl) (fun K hK => ?_)
                        go_simp
                        refine (KF.out _ _ _ hi).mono ?_
                        rintro e w5 ⟨rfl, hb⟩
                        have hB3 : Below W0.heap.size W0 w5 := hB2.trans (hb.mono hB2.size)
                        have hS3 := HMK.out w5 hB3
                        clear hb
                        go_wp2_with fail
                        refine hK.out _ _ ?hS (fun hHeld => ?_)
                        case hS => (exact hS3)
                        clear hK K
                        try simp only [Act.put, List.setIfInBounds_toArray, List.set_cons_zero, List.set_cons_succ]
                        refine heldVal (v := ?v76) 10 rfl rfl (by kernel_rfl) (by kernel_rfl) (by kernel_rfl) (fun _ _ _ h => h) (by rfl) (fun w hSw => ?hy76) (by assumption) ?_
                        case hy76 => ((try dsimp only at hSw); go_simp; (try with_reducible rfl))
                        try simp only [Act.put, List.setIfInBounds_toArray, List.set_cons_zero, List.set_cons_succ]
                        refine heldVal (v := ?v77) 11 rfl rfl (by kernel_rfl) (by kernel_rfl) (by kernel_rfl) (fun _ _ _ h => h) (by rfl) (fun w hSw => ?hy77) (by assumption) ?_
                        case hy77 => ((try dsimp only at hSw); go_simp; (try with_reducible rfl))
                        try simp only [Act.put, List.setIfInBounds_toArray, List.set_cons_zero, List.set_cons_succ]
                        refine heldVal (v := ?v78) 12 rfl rfl (by kernel_rfl) (by kernel_rfl) (by kernel_rfl) (fun _ _ _ h => h) (by rfl) (fun w hSw => ?hy78) (by assumption) ?_
                        case hy78 => ((try dsimp only at hSw); go_simp; (try with_reducible rfl))
                        try simp only [Act.put, List.setIfInBounds_toArray, List.set_cons_zero, List.set_cons_succ]
                        refine heldVal (v := ?v79) 13 rfl rfl (by kernel_rfl) (by kernel_rfl) (by kernel_rfl) (fun _ _ _ h => h) (by rfl) (fun w hSw => ?hy79) (by assumption) ?_
                        case hy79 => ((try dsimp only at hSw); go_simp; (try with_reducible rfl))
                        try simp only [Act.put, List.setIfInBounds_toArray, List.set_cons_zero, List.set_cons_succ]
                        refine heldVal (v := ?v80) 14 rfl rfl (by kernel_rfl) (by kernel_rfl) (by kernel_rfl) (fun _ _ _ h => h) (by rfl) (fun w hSw => ?hy80) (by assumption) ?_
                        case hy80 => ((try dsimp only at hSw); go_simp; (try with_reducible rfl))
                        try simp only [Act.put, List.setIfInBounds_toArray, List.set_cons_zero, List.set_cons_succ]
                        refine heldCall 15 rfl rfl (by kernel_rfl) (by rfl) (fun K hK => ?_)
                        go_simp
                        refine (KU.out _).mono ?_
                        rintro e w6 ⟨rfl, rfl⟩
                        have hB4 := hB3
                        have hS4 := HMK.out _ hB4
                        go_wp2_with fail
                        refine hK.out _ _ ?hS (fun hHeld => ?_)
                        case hS => (exact hS4)
                        clear hK K
                        try simp only [Act.put, List.setIfInBounds_toArray, List.set_cons_zero, List.set_cons_succ]
                        refine heldVal (v := ?v81) 16 rfl rfl (by kernel_rfl) (by kernel_rfl) (by kernel_rfl) (fun _ _ _ h => h) (by rfl) (fun w hSw => ?hy81) (by assumption) ?_
                        case hy81 => ((try dsimp only at hSw); go_simp; (try with_reducible rfl))
                        try simp only [Act.put, List.setIfInBounds_toArray, List.set_cons_zero, List.set_cons_succ]
                        refine heldVal (v := ?v82) 17 rfl rfl (by kernel_rfl) (by kernel_rfl) (by kernel_rfl) (fun _ _ _ h => h) (by rfl) (fun w hSw => ?hy82) (by assumption) ?_
                        case hy82 => ((try dsimp only at hSw); go_simp; (try with_reducible rfl))
                        try simp only [Act.put, List.setIfInBounds_toArray, List.set_cons_zero, List.set_cons_succ]
                        refine heldVal (v := ?v83) 18 rfl rfl (by kernel_rfl) (by kernel_rfl) (by kernel_rfl) (fun _ _ _ h => h) (by rfl) (fun w hSw => ?hy83) (by assumption) ?_
                        case hy83 => ((try dsimp only at hSw); go_simp; (try with_reducible rfl))
                        try simp only [Act.put, List.setIfInBounds_toArray, List.set_cons_zero, List.set_cons_succ]
                        refine heldVal (v := ?v84) 19 rfl rfl (by kernel_rfl) (by kernel_rfl) (by kernel_rfl) (fun _ _ _ h => h) (by rfl) (fun w hSw => ?hy84) (by assumption) ?_
                        case hy84 => ((try dsimp only at hSw); go_simp; (try with_reducible rfl))
                        try simp only [Act.put, List.setIfInBounds_toArray, List.set_cons_zero, List.set_cons_succ]
                        refine heldVal (v := ?v85) 20 rfl rfl (by kernel_rfl) (by kernel_rfl) (by kernel_rfl) (fun _ _ _ h => h) (by rfl) (fun w hSw => ?hy85) (by assumption) ?_
                        case hy85 => ((try dsimp only at hSw); go_simp; (try with_reducible rfl))
                        try simp only [Act.put, List.setIfInBounds_toArray, List.set_cons_zero, List.set_cons_succ]
                        refine heldVal (v := ?v86) 21 rfl rfl (by kernel_rfl) (by kernel_rfl) (by kernel_rfl) (fun _ _ _ h => h) (by rfl) (fun w hSw => ?hy86) (by assumption) ?_
                        case hy86 => ((try dsimp only at hSw); go_simp; (try with_reducible rfl))
                        try simp only [Act.put, List.setIfInBounds_toArray, List.set_cons_zero, List.set_cons_succ]
                        refine heldVal (v := ?v87) 22 rfl rfl (by kernel_rfl) (by kernel_rfl) (by kernel_rfl) (fun _ _ _ h => h) (by rfl) (fun w hSw => ?hy87) (by assumption) ?_
                        case hy87 => ((try dsimp only at hSw); go_simp; (try with_reducible rfl))
                        try simp only [Act.put, List.setIfInBounds_toArray, List.set_cons_zero, List.set_cons_succ]
                        refine heldSkip 23 rfl rfl (by kernel_rfl) (by kernel_rfl) (by kernel_rfl) (fun _ _ _ h => h) (by rfl) (by assumption) ?_
                        try simp only [Act.put, List.setIfInBounds_toArray, List.set_cons_zero, List.set_cons_succ]
                        refine heldSkip 24 rfl rfl (by kernel_rfl) (by kernel_rfl) (by kernel_rfl) (fun _ _ _ h => h) (by rfl) (by assumption) ?_
                        try simp only [Act.put, List.setIfInBounds_toArray, List.set_cons_zero, List.set_cons_succ]
                        refine heldSkip 25 rfl rfl (by kernel_rfl) (by kernel_rfl) (by kernel_rfl) (fun _ _ _ h => h) (by rfl) (by assumption) ?_
                        try simp only [Act.put, List.setIfInBounds_toArray, List.set_cons_zero, List.set_cons_succ]
                        refine heldVal (v := ?v88) 26 rfl rfl (by kernel_rfl) (by kernel_rfl) (by kernel_rfl) (fun _ _ _ h => h) (by rfl) (fun w hSw => ?hy88) (by assumption) ?_
                        case hy88 => ((try dsimp only at hSw); go_simp; (try with_reducible rfl))
                        try simp only [Act.put, List.setIfInBounds_toArray, List.set_cons_zero, List.set_cons_succ]
                        refine heldVal (v := ?v89) 27 rfl rfl (by kernel_rfl) (by kernel_rfl) (by kernel_rfl) (fun _ _ _ h => h) (by rfl) (fun w hSw => ?hy89) (by assumption) ?_
                        case hy89 => ((try dsimp only at hSw); go_simp; (try with_reducible rfl))
                        try simp only [Act.put, List.setIfInBounds_toArray, List.set_cons_zero, List.set_cons_succ]
                        refine wpAnyH_done (by kernel_rfl) ?_ _
                        have hbS := hB4
                        have HB3 := Lib.hid (HB0.out.trans (hbS.mono HB0.out.size))
                        go_wp2
                        go_ret
                        exact ⟨by rw [HE.out]; rfl, HB3.out⟩
end Go.Proofs.YtjdoknbmnokkdaaDoor
