/- The text of an item, walked: cronshow.Item and the document's own (layer 26). -/
import Derived.Test.YtahlegempjlbbaaDoorCsB
import Derived.Deep.RegionHeld3
namespace Go.Proofs.YtahlegempjlbbaaDoor
open Go.RowKit
set_option linter.unusedVariables false

theorem stT_assoc (st : Int) (t : ByteArray) : stT st t = if st = 1 then t else t ++ chr 47 ++ tx st := by
  unfold stT
  rw [ByteArray.append_assoc]
set_option maxHeartbeats 1600000 in
set_option maxRecDepth 20000 in
theorem citem_any (q : Q4) (hq : Q4In q) (w : World) (hT : TabP w) : Calls Tryd.prog 10 #[qv q] w fun e w' => e = .returned (.string (itT q)) ∧ Below w.heap.size w w' := by
  obtain ⟨kd, fr, to, st⟩ := q
  obtain ⟨_, h1, h2, h3⟩ := hq
  have HB0 := Lib.hid (show Below w.heap.size w (w.alloc (.cells #[.int .i64 kd, .int .i64 fr, .int .i64 to, .int .i64 st] 36)) from (Below.refl _ _).alloc (Nat.le_refl _) _)
  have HR0 := Lib.hid (blk_new w (.cells #[.int .i64 kd, .int .i64 fr, .int .i64 to, .int .i64 st] 36))
  have HT0 := Lib.hid (hT.bel HB0.out)
  have KF := Lib.hid (fun W hh => itoa_any fr h1 W hh)
  have KT := Lib.hid (fun W hh => itoa_any to h2 W hh)
  have KS := Lib.hid (fun W hh => itoa_any st h3 W hh)
  obtain ⟨F, hF, hF2⟩ : ∃ F, F ≤ 21 ∧ (tx fr).size = F := ⟨_, txz fr h1, rfl⟩
  obtain ⟨U, hU, hU2⟩ : ∃ U, U ≤ 21 ∧ (tx to).size = U := ⟨_, txz to h2, rfl⟩
  obtain ⟨S, hS, hS2⟩ : ∃ S, S ≤ 21 ∧ (tx st).size = S := ⟨_, txz st h3, rfl⟩
  have HE := Lib.hid (show itT (kd, fr, to, st) = if kd = 1 then tx fr else if kd = 0 then stT st (chr 42) else if kd = 2 then stT st (tx fr ++ chr 45 ++ tx to) else ⟨#[]⟩ from rfl)
  have HST := Lib.hid (fun t => show stT st t = if st = 1 then t else t ++ (chr 47 ++ tx st) from rfl)
  generalize itT (kd, fr, to, st) = r at HE ⊢
  generalize tx fr = tf at *
  generalize tx to = tt at *
  generalize tx st = ts at *
  have zaa : ¬ (9223372036854775807 : Int) < 1 + (S : Int) := by omega
  have zab : 1 + (S : Int) ≤ 9223372036854775807 := by omega
  have zac : ¬ 9223372036854775807 < 1 + S := by omega
  have zad : 1 + S ≤ 9223372036854775807 := by omega
  have zba : ¬ (9223372036854775807 : Int) < 1 + (1 + (S : Int)) := by omega
  have zbb : 1 + (1 + (S : Int)) ≤ 9223372036854775807 := by omega
  have zbc : ¬ 9223372036854775807 < 1 + (1 + S) := by omega
  have zbd : 1 + (1 + S) ≤ 9223372036854775807 := by omega
  have zca : ¬ (9223372036854775807 : Int) < (F : Int) + 1 := by omega
  have zcb : (F : Int) + 1 ≤ 9223372036854775807 := by omega
  have zcc : ¬ 9223372036854775807 < F + 1 := by omega
  have zcd : F + 1 ≤ 9223372036854775807 := by omega
  have zda : ¬ (9223372036854775807 : Int) < (F : Int) + 1 + (U : Int) := by omega
  have zdb : (F : Int) + 1 + (U : Int) ≤ 9223372036854775807 := by omega
  have zdc : ¬ 9223372036854775807 < F + 1 + U := by omega
  have zdd : F + 1 + U ≤ 9223372036854775807 := by omega
  have zea : ¬ (9223372036854775807 : Int) < (F : Int) + 1 + (U : Int) + (1 + (S : Int)) := by omega
  have zeb : (F : Int) + 1 + (U : Int) + (1 + (S : Int)) ≤ 9223372036854775807 := by omega
  have zec : ¬ 9223372036854775807 < F + 1 + U + (1 + S) := by omega
  have zed : F + 1 + U + (1 + S) ≤ 9223372036854775807 := by omega
  have c45 : (ByteArray.mk #[45]).size = 1 := rfl
  have c47 : (ByteArray.mk #[47]).size = 1 := rfl
  have c42 : (ByteArray.mk #[42]).size = 1 := rfl
  show Calls Tryd.prog 10 #[.agg #[.int .i64 kd, .int .i64 fr, .int .i64 to, .int .i64 st]] w fun e w' => e = .returned (.string r) ∧ Below w.heap.size w w'
  obtain ⟨W0, hW0⟩ : ∃ W0, w.alloc (.cells #[.int .i64 kd, .int .i64 fr, .int .i64 to, .int .i64 st] 36) = W0 := ⟨_, rfl⟩
  rw [hW0] at HB0 HR0 HT0
  have x0 : W0.cell? ⟨w.heap.size, 0, none⟩ = some (.int .i64 kd) := blk_cell HR0.out 0
  have x1 : W0.cell? ⟨w.heap.size, 1, none⟩ = some (.int .i64 fr) := blk_cell HR0.out 1
  have x2 : W0.cell? ⟨w.heap.size, 2, none⟩ = some (.int .i64 to) := blk_cell HR0.out 2
  have x3 : W0.cell? ⟨w.heap.size, 3, none⟩ = some (.int .i64 st) := blk_cell HR0.out 3
  clear h1 h2 h3 hF hU hS
  clear hT
  by_cases k1 : kd = 1
  · have HF := Lib.hid (show r = tf by rw [HE.out, if_pos k1])
    have e1 : (kd == 1) = true := by simp [k1]
    have e0 : (kd == 0) = false := by rw [beq_eq_false_iff_ne]; omega
    have K := KF.out W0 (HT0.out.bel (Below.refl _ _))
    clear HE HST k1
    go_enter Tryd.func10, Tryd.ntmps10
    go_wp2_with fail
    try rw [hW0]
    refine K.mono ?_
    rintro e w1 ⟨rfl, hb⟩
    have HB1 := Lib.hid (HB0.out.trans (hb.mono HB0.out.size))
    clear hb K
    go_wp2
    go_ret
    exact ⟨by rw [HF.out]; rfl, HB1.out⟩
  have e1 : (kd == 1) = false := by rw [beq_eq_false_iff_ne]; exact k1
  rw [if_neg k1] at HE
  by_cases k0 : kd = 0
  · have e0 : (kd == 0) = true := by simp [k0]
    have e2 : (kd == 2) = false := by rw [beq_eq_false_iff_ne]; omega
    have l0 : decide (kd < 0) = false := dec_n (by omega)
    have l2 : decide (2 < kd) = false := dec_n (by omega)
    rw [if_pos k0] at HE
    clear k0 k1
    by_cases s1 : st = 1
    · have HF := Lib.hid (show r = chr 42 by rw [HE.out, HST.out, if_pos s1])
      have f1 : (st == 1) = true := by simp [s1]
      have f2 : (st != 1) = false := by simp [s1]
      clear HE HST s1
      go_enter Tryd.func10, Tryd.ntmps10
      go_wp2
      go_ret
      exact ⟨by rw [HF.out]; rfl, HB0.out⟩
    · have HF := Lib.hid (show r = chr 42 ++ (chr 47 ++ ts) by rw [HE.out, HST.out, if_neg s1])
      have f1 : (st == 1) = false := by rw [beq_eq_false_iff_ne]; exact s1
      have f2 : (st != 1) = true := by simp [s1]
      clear HE HST s1
      go_enter Tryd.func10, Tryd.ntmps10
      have K := KS.out W0 (HT0.out)
      go_wp2_with fail
      try rw [hW0]
      refine K.mono ?_
      rintro e w5 ⟨rfl, hb⟩
      have HB5 := Lib.hid (HB0.out.trans (hb.mono HB0.out.size))
      clear hb K
      go_wp2
      go_ret
      exact ⟨by rw [HF.out]; rfl, HB5.out⟩
  have e0 : (kd == 0) = false := by rw [beq_eq_false_iff_ne]; exact k0
  rw [if_neg k0] at HE
  by_cases k2 : kd = 2
  · have e2 : (kd == 2) = true := by simp [k2]
    have l0 : decide (kd < 0) = false := dec_n (by omega)
    have l2 : decide (2 < kd) = false := dec_n (by omega)
    rw [if_pos k2] at HE
    clear k0 k1 k2
    have HMK := Lib.hid (fun (Y : World) (hb : Below W0.heap.size W0 Y) => show Below W0.heap.size W0 Y ∧ Y.cell? ⟨w.heap.size, 0, none⟩ = some (.int .i64 kd) ∧ Y.cell? ⟨w.heap.size, 1, none⟩ = some (.int .i64 fr) ∧ Y.cell? ⟨w.heap.size, 2, none⟩ = some (.int .i64 to) ∧ Y.cell? ⟨w.heap.size, 3, none⟩ = some (.int .i64 st) from ⟨hb, by have q := (hb.block _ (lt_of_block HR0.out)).trans HR0.out; exact ⟨blk_cell q 0, blk_cell q 1, blk_cell q 2, blk_cell q 3⟩⟩)
    have HS := HMK.out W0.drew (Below.refl _ _).drew
    go_enter Tryd.func10, Tryd.ntmps10
    go_wp2_with fail
    try rw [hW0]
    clear hW0
    go_region_held3 (fun w' => Below W0.heap.size W0 w' ∧ w'.cell? ⟨w.heap.size, 0, none⟩ = some (.int .i64 kd) ∧ w'.cell? ⟨w.heap.size, 1, none⟩ = some (.int .i64 fr) ∧ w'.cell? ⟨w.heap.size, 2, none⟩ = some (.int .i64 to) ∧ w'.cell? ⟨w.heap.size, 3, none⟩ = some (.int .i64 st)) (first | exact HS | exact hSw | exact hSx) (first | (go_at_call 18; with_reducible refine (KF.out _ (HT0.out.bel HS.1)).mono ?_; rintro e w3 ⟨rfl, hb⟩; have hSw := HMK.out w3 (HS.1.trans (hb.mono HS.1.size)); clear hb KF) | (go_at_call 18; with_reducible refine (KT.out _ (HT0.out.bel hSw.1)).mono ?_; rintro e w4 ⟨rfl, hb⟩; have hSx := HMK.out w4 (hSw.1.trans (hb.mono hSw.1.size)); have hS2 := hSx; obtain ⟨hbS, y0, y1, y2, y3⟩ := hS2; clear hb KT))
    have HB4 := Lib.hid (HB0.out.trans (hbS.mono HB0.out.size))
    by_cases s1 : st = 1
    · have HF := Lib.hid (show r = (tf ++ chr 45 ++ tt) by rw [HE.out, HST.out, if_pos s1])
      have f1 : (st == 1) = true := by simp [s1]
      have f2 : (st != 1) = false := by simp [s1]
      clear HE HST s1
      go_wp2
      go_ret
      exact ⟨by rw [HF.out]; rfl, HB4.out⟩
    · have HF := Lib.hid (show r = (tf ++ chr 45 ++ tt) ++ (chr 47 ++ ts) by rw [HE.out, HST.out, if_neg s1])
      have f1 : (st == 1) = false := by rw [beq_eq_false_iff_ne]; exact s1
      have f2 : (st != 1) = true := by simp [s1]
      clear HE HST s1
      have K := KS.out w4 (HT0.out.bel hbS)
      go_wp2_with fail
      try rw [hW0]
      refine K.mono ?_
      rintro e w5 ⟨rfl, hb⟩
      have HB5 := Lib.hid (HB4.out.trans (hb.mono HB4.out.size))
      clear hb K
      go_wp2
      go_ret
      exact ⟨by rw [HF.out]; rfl, HB5.out⟩
  rw [if_neg k2] at HE
  have e2 : (kd == 2) = false := by rw [beq_eq_false_iff_ne]; exact k2
  clear k0 k1 k2 HST
  go_enter Tryd.func10, Tryd.ntmps10
  go_wp2
  go_ret
  exact ⟨by rw [HE.out]; rfl, HB0.out⟩
set_option maxHeartbeats 1600000 in
set_option maxRecDepth 20000 in
theorem ritem_any (q : Q4) (hq : Q4In q) (w : World) : Calls Tryd.prog 22 #[qv q] w fun e w' => e = .returned (.string (itT q)) ∧ Below w.heap.size w w' := by
  obtain ⟨kd, fr, to, st⟩ := q
  obtain ⟨_, h1, h2, h3⟩ := hq
  have HB0 := Lib.hid (show Below w.heap.size w (w.alloc (.cells #[.int .i64 kd, .int .i64 fr, .int .i64 to, .int .i64 st] 36)) from (Below.refl _ _).alloc (Nat.le_refl _) _)
  have HR0 := Lib.hid (blk_new w (.cells #[.int .i64 kd, .int .i64 fr, .int .i64 to, .int .i64 st] 36))
  have KF := Lib.hid (fun W => number_any fr h1 W)
  have KT := Lib.hid (fun W => number_any to h2 W)
  have KS := Lib.hid (fun W => number_any st h3 W)
  obtain ⟨F, hF, hF2⟩ : ∃ F, F ≤ 21 ∧ (tx fr).size = F := ⟨_, txz fr h1, rfl⟩
  obtain ⟨U, hU, hU2⟩ : ∃ U, U ≤ 21 ∧ (tx to).size = U := ⟨_, txz to h2, rfl⟩
  obtain ⟨S, hS, hS2⟩ : ∃ S, S ≤ 21 ∧ (tx st).size = S := ⟨_, txz st h3, rfl⟩
  have HE := Lib.hid (show itT (kd, fr, to, st) = if kd = 1 then tx fr else if kd = 0 then stT st (chr 42) else if kd = 2 then stT st (tx fr ++ chr 45 ++ tx to) else ⟨#[]⟩ from rfl)
  have HST := Lib.hid (fun t => show stT st t = if st = 1 then t else t ++ chr 47 ++ tx st from stT_assoc st t)
  generalize itT (kd, fr, to, st) = r at HE ⊢
  generalize tx fr = tf at *
  generalize tx to = tt at *
  generalize tx st = ts at *
  have zba : ¬ (9223372036854775807 : Int) < 2 + (S : Int) := by omega
  have zbb : 2 + (S : Int) ≤ 9223372036854775807 := by omega
  have zbc : ¬ 9223372036854775807 < 2 + S := by omega
  have zbd : 2 + S ≤ 9223372036854775807 := by omega
  have zca : ¬ (9223372036854775807 : Int) < (F : Int) + 1 := by omega
  have zcb : (F : Int) + 1 ≤ 9223372036854775807 := by omega
  have zcc : ¬ 9223372036854775807 < F + 1 := by omega
  have zcd : F + 1 ≤ 9223372036854775807 := by omega
  have zda : ¬ (9223372036854775807 : Int) < (F : Int) + 1 + (U : Int) := by omega
  have zdb : (F : Int) + 1 + (U : Int) ≤ 9223372036854775807 := by omega
  have zdc : ¬ 9223372036854775807 < F + 1 + U := by omega
  have zdd : F + 1 + U ≤ 9223372036854775807 := by omega
  have zea : ¬ (9223372036854775807 : Int) < (F : Int) + 1 + (U : Int) + 1 := by omega
  have zeb : (F : Int) + 1 + (U : Int) + 1 ≤ 9223372036854775807 := by omega
  have zec : ¬ 9223372036854775807 < F + 1 + U + 1 := by omega
  have zed : F + 1 + U + 1 ≤ 9223372036854775807 := by omega
  have zfa : ¬ (9223372036854775807 : Int) < (F : Int) + 1 + (U : Int) + 1 + (S : Int) := by omega
  have zfb : (F : Int) + 1 + (U : Int) + 1 + (S : Int) ≤ 9223372036854775807 := by omega
  have zfc : ¬ 9223372036854775807 < F + 1 + U + 1 + S := by omega
  have zfd : F + 1 + U + 1 + S ≤ 9223372036854775807 := by omega
  have zga : ¬ (9223372036854775807 : Int) < 1 + 1 + (S : Int) := by omega
  have zgb : 1 + 1 + (S : Int) ≤ 9223372036854775807 := by omega
  have zgc : ¬ 9223372036854775807 < 1 + 1 + S := by omega
  have zgd : 1 + 1 + S ≤ 9223372036854775807 := by omega
  have c45 : (ByteArray.mk #[45]).size = 1 := rfl
  have c47 : (ByteArray.mk #[47]).size = 1 := rfl
  have c42 : (ByteArray.mk #[42]).size = 1 := rfl
  show Calls Tryd.prog 22 #[.agg #[.int .i64 kd, .int .i64 fr, .int .i64 to, .int .i64 st]] w fun e w' => e = .returned (.string r) ∧ Below w.heap.size w w'
  obtain ⟨W0, hW0⟩ : ∃ W0, w.alloc (.cells #[.int .i64 kd, .int .i64 fr, .int .i64 to, .int .i64 st] 36) = W0 := ⟨_, rfl⟩
  rw [hW0] at HB0 HR0
  have x0 : W0.cell? ⟨w.heap.size, 0, none⟩ = some (.int .i64 kd) := blk_cell HR0.out 0
  have x1 : W0.cell? ⟨w.heap.size, 1, none⟩ = some (.int .i64 fr) := blk_cell HR0.out 1
  have x2 : W0.cell? ⟨w.heap.size, 2, none⟩ = some (.int .i64 to) := blk_cell HR0.out 2
  have x3 : W0.cell? ⟨w.heap.size, 3, none⟩ = some (.int .i64 st) := blk_cell HR0.out 3
  clear h1 h2 h3 hF hU hS
  by_cases k1 : kd = 1
  · have HF := Lib.hid (show r = tf by rw [HE.out, if_pos k1])
    have e1 : (kd == 1) = true := by simp [k1]
    have e0 : (kd == 0) = false := by rw [beq_eq_false_iff_ne]; omega
    have K := KF.out W0
    clear HE HST k1
    go_enter Tryd.func22, Tryd.ntmps22
    go_wp2_with fail
    try rw [hW0]
    refine K.mono ?_
    rintro e w1 ⟨rfl, hb⟩
    have HB1 := Lib.hid (HB0.out.trans (hb.mono HB0.out.size))
    clear hb K
    go_wp2
    go_ret
    exact ⟨by rw [HF.out]; rfl, HB1.out⟩
  have e1 : (kd == 1) = false := by rw [beq_eq_false_iff_ne]; exact k1
  rw [if_neg k1] at HE
  by_cases k0 : kd = 0
  · have e0 : (kd == 0) = true := by simp [k0]
    have e2 : (kd == 2) = false := by rw [beq_eq_false_iff_ne]; omega
    have l0 : decide (kd < 0) = false := dec_n (by omega)
    have l2 : decide (2 < kd) = false := dec_n (by omega)
    rw [if_pos k0] at HE
    clear k0 k1
    by_cases s1 : st = 1
    · have HF := Lib.hid (show r = chr 42 by rw [HE.out, HST.out, if_pos s1])
      have f1 : (st == 1) = true := by simp [s1]
      have f2 : (st != 1) = false := by simp [s1]
      clear HE HST s1
      go_enter Tryd.func22, Tryd.ntmps22
      go_wp2
      go_ret
      exact ⟨by rw [HF.out]; rfl, HB0.out⟩
    · have HF := Lib.hid (show r = chr 42 ++ chr 47 ++ ts by rw [HE.out, HST.out, if_neg s1])
      have f1 : (st == 1) = false := by rw [beq_eq_false_iff_ne]; exact s1
      have f2 : (st != 1) = true := by simp [s1]
      clear HE HST s1
      go_enter Tryd.func22, Tryd.ntmps22
      have K := KS.out W0
      go_wp2_with fail
      try rw [hW0]
      refine K.mono ?_
      rintro e w5 ⟨rfl, hb⟩
      have HB5 := Lib.hid (HB0.out.trans (hb.mono HB0.out.size))
      clear hb K
      go_wp2
      go_ret
      exact ⟨by rw [HF.out]; rfl, HB5.out⟩
  have e0 : (kd == 0) = false := by rw [beq_eq_false_iff_ne]; exact k0
  rw [if_neg k0] at HE
  by_cases k2 : kd = 2
  · have e2 : (kd == 2) = true := by simp [k2]
    have l0 : decide (kd < 0) = false := dec_n (by omega)
    have l2 : decide (2 < kd) = false := dec_n (by omega)
    rw [if_pos k2] at HE
    clear k0 k1 k2
    have HMK := Lib.hid (fun (Y : World) (hb : Below W0.heap.size W0 Y) => show Below W0.heap.size W0 Y ∧ Y.cell? ⟨w.heap.size, 0, none⟩ = some (.int .i64 kd) ∧ Y.cell? ⟨w.heap.size, 1, none⟩ = some (.int .i64 fr) ∧ Y.cell? ⟨w.heap.size, 2, none⟩ = some (.int .i64 to) ∧ Y.cell? ⟨w.heap.size, 3, none⟩ = some (.int .i64 st) from ⟨hb, by have q := (hb.block _ (lt_of_block HR0.out)).trans HR0.out; exact ⟨blk_cell q 0, blk_cell q 1, blk_cell q 2, blk_cell q 3⟩⟩)
    have HS := HMK.out W0.drew (Below.refl _ _).drew
    go_enter Tryd.func22, Tryd.ntmps22
    go_wp2_with fail
    try rw [hW0]
    clear hW0
    go_region_held3 (fun w' => Below W0.heap.size W0 w' ∧ w'.cell? ⟨w.heap.size, 0, none⟩ = some (.int .i64 kd) ∧ w'.cell? ⟨w.heap.size, 1, none⟩ = some (.int .i64 fr) ∧ w'.cell? ⟨w.heap.size, 2, none⟩ = some (.int .i64 to) ∧ w'.cell? ⟨w.heap.size, 3, none⟩ = some (.int .i64 st)) (first | exact HS | exact hSw | exact hSx) (first | (go_at_call 31; with_reducible refine (KF.out _).mono ?_; rintro e w3 ⟨rfl, hb⟩; have hSw := HMK.out w3 (HS.1.trans (hb.mono HS.1.size)); clear hb KF) | (go_at_call 31; with_reducible refine (KT.out _).mono ?_; rintro e w4 ⟨rfl, hb⟩; have hSx := HMK.out w4 (hSw.1.trans (hb.mono hSw.1.size)); have hS2 := hSx; obtain ⟨hbS, y0, y1, y2, y3⟩ := hS2; clear hb KT))
    have HB4 := Lib.hid (HB0.out.trans (hbS.mono HB0.out.size))
    by_cases s1 : st = 1
    · have HF := Lib.hid (show r = (tf ++ chr 45 ++ tt) by rw [HE.out, HST.out, if_pos s1])
      have f1 : (st == 1) = true := by simp [s1]
      have f2 : (st != 1) = false := by simp [s1]
      clear HE HST s1
      go_wp2
      go_ret
      exact ⟨by rw [HF.out]; rfl, HB4.out⟩
    · have HF := Lib.hid (show r = (tf ++ chr 45 ++ tt) ++ chr 47 ++ ts by rw [HE.out, HST.out, if_neg s1])
      have f1 : (st == 1) = false := by rw [beq_eq_false_iff_ne]; exact s1
      have f2 : (st != 1) = true := by simp [s1]
      clear HE HST s1
      have K := KS.out w4
      go_wp2_with fail
      try rw [hW0]
      refine K.mono ?_
      rintro e w5 ⟨rfl, hb⟩
      have HB5 := Lib.hid (HB4.out.trans (hb.mono HB4.out.size))
      clear hb K
      go_wp2
      go_ret
      exact ⟨by rw [HF.out]; rfl, HB5.out⟩
  rw [if_neg k2] at HE
  have e2 : (kd == 2) = false := by rw [beq_eq_false_iff_ne]; exact k2
  by_cases l : kd < 0
  · have l0 : decide (kd < 0) = true := dec_t l
    clear k0 k1 k2 l HST
    go_enter Tryd.func22, Tryd.ntmps22
    go_wp2
    go_ret
    exact ⟨by rw [HE.out]; rfl, HB0.out⟩
  have l0 : decide (kd < 0) = false := dec_n l
  have l2 : decide (2 < kd) = true := dec_t (by omega)
  clear l
  clear k0 k1 k2 HST
  go_enter Tryd.func22, Tryd.ntmps22
  go_wp2
  go_ret
  exact ⟨by rw [HE.out]; rfl, HB0.out⟩
end Go.Proofs.YtahlegempjlbbaaDoor
