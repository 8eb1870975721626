/- The walk of RuleTimes (layer 32). The walk of RuleTimes (layer 32). -/
import Derived.Test.YtigbbepgfofcoaaDoorRlW
import Derived.Test.YtigbbepgfofcoaaDoorRlS
import Derived.Test.YtigbbepgfofcoaaDoorRlN
import Derived.Deep.DeepCutAuto
namespace Go.Proofs.YtigbbepgfofcoaaDoor
open Go.RowKit Civ
set_option linter.unusedVariables false

theorem wf_u32 {a : Int} (h : (Lit.int .u32 a).wf = true) : 0 ≤ a ∧ a ≤ 4294967295 := by
  simp only [Lit.wf, Bool.and_eq_true, decide_eq_true_eq] at h
  exact h
theorem len_sum (R : Rl) (hz : ∀ j, j < 5 → (R.Z j).length * 8 ≤ reachBytes) (hn : R.N.length * 16 ≤ reachBytes) : lenR R ≤ 9223372036854775807 := by
  have z0 := hz 0 (by decide)
  have z1 := hz 1 (by decide)
  have z2 := hz 2 (by decide)
  have z3 := hz 3 (by decide)
  have z4 := hz 4 (by decide)
  unfold reachBytes at *
  unfold lenR
  omega
theorem inM_mk (p : Nat → Bool) (v : Int) (h0 : 0 ≤ v) (h1 : v < 64) : inM (mk p) v = p v.toNat := by
  unfold inM
  rw [mk_test, dec_t (show v.toNat < 64 by omega)]
  simp [h0, h1]
theorem any_mem (zs : List Int) (v : Int) (h0 : 0 ≤ v) : inL zs v.toNat = zs.any (fun z => decide (z = v)) := by
  unfold inL
  rw [Bool.eq_iff_iff, decide_eq_true_eq, List.any_eq_true, Int.toNat_of_nonneg h0]
  constructor
  · intro h; exact ⟨v, h, by simp⟩
  · rintro ⟨z, hz, h⟩
    rw [decide_eq_true_eq] at h
    subst h; exact hz
theorem inM_ofM (zs : List Int) (longer : Bool) (x v : Int) (all : Nat) (h0 : 0 ≤ v) (h1 : v < 64) (ha : inM all v = true) : inM (ofM zs longer x all) v = prtB zs (!longer) v x := by
  unfold ofM prtB
  by_cases h : 0 < zs.length
  · rw [if_pos h, inM_mk _ v h0 h1, any_mem zs v h0, dec_n (show ¬ zs.length = 0 by omega)]
    simp
  · rw [if_neg h]
    obtain rfl : zs = [] := List.length_eq_zero_iff.1 (by omega)
    cases longer
    · rw [if_neg (by simp), ha]; rfl
    · rw [if_pos rfl, inM_mk _ v h0 h1, any_mem [x] v h0]
      simp [eq_comm]
theorem longer_not (f k : Int) : (!decide (k ≤ f)) = decide (f < k) := by
  rw [Bool.eq_iff_iff]; simp
theorem inM_full (m : Nat) (n : Nat) (v : Int) (h0 : 0 ≤ v) (h1 : v < n) (h : ∀ i, i < n → inM m (i : Int) = true) : inM m v = true := by
  have q := h v.toNat (by omega)
  rwa [Int.toNat_of_nonneg h0] at q
theorem full_h (v : Int) (h0 : 0 ≤ v) (h1 : v < 24) : inM fullC.h v = true := inM_full _ 24 v h0 h1 (by decide +kernel)
theorem full_m (v : Int) (h0 : 0 ≤ v) (h1 : v < 60) : inM fullC.m v = true := inM_full _ 60 v h0 h1 (by decide +kernel)
theorem full_s (v : Int) (h0 : 0 ≤ v) (h1 : v < 60) : inM fullC.s v = true := inM_full _ 60 v h0 h1 (by decide +kernel)
theorem ofM_lt (zs : List Int) (longer : Bool) (x : Int) (all : Nat) (h : all < 18446744073709551616) : ofM zs longer x all < 18446744073709551616 := by
  unfold ofM
  split
  · exact mk_lt _
  · split
    · exact mk_lt _
    · exact h
theorem tim_eq (r : Rl) (k : Int) (h0 : 0 ≤ k) (h1 : k < 86400) (hs : r.start % 86400 / 60 % 60 = r.start % 3600 / 60) :
    (inM (ofM (r.Z 2) (decide (3 ≤ r.freq)) (r.start % 86400 / 3600) fullC.h) (k / 3600) && inM (ofM (r.Z 3) (decide (2 ≤ r.freq)) (r.start % 86400 / 60 % 60) fullC.m) (k % 3600 / 60) && inM (ofM (r.Z 4) (decide (1 ≤ r.freq)) (r.start % 60) fullC.s) (k % 60)) = timB r k := by
  unfold timB
  rw [inM_ofM _ _ _ _ _ (by omega) (by omega) (full_h _ (by omega) (by omega)), inM_ofM _ _ _ _ _ (by omega) (by omega) (full_m _ (by omega) (by omega)), inM_ofM _ _ _ _ _ (by omega) (by omega) (full_s _ (by omega) (by omega)), longer_not, longer_not, longer_not, hs]
end Go.Proofs.YtigbbepgfofcoaaDoor
namespace Go.Proofs.YtigbbepgfofcoaaDoor
open Go.RowKit Civ
set_option linter.unusedVariables false

set_option maxHeartbeats 3200000 in
set_option maxRecDepth 20000 in
theorem ruleTimes_g (R : Rl) (a : Int) (w : World) (hr : RlAt w R) (hi : RlIn R) (hsum : lenR R ≤ 9223372036854775807) (a0 : 0 ≤ a) (a1 : a ≤ 4294967295) (hT : TabUn w) (hg : 600 < lenR R) :
    Calls Tryd.prog 5 #[rlV R, .int .u32 a] w fun e w' => e = .returned (.bool true) ∧ Below w.heap.size w w' := by
  have HG0 := Lib.hid (blk_new w (.cells (rlC R) 25))
  have HB0 := Lib.hid (show Below w.heap.size w (w.alloc (.cells (rlC R) 25)) from (Below.refl _ _).alloc (Nat.le_refl _) _)
  have KG := great32_any R (w.alloc (.cells (rlC R) 25)) hsum
  have HR := Lib.hid hr
  have HT := Lib.hid hT
  have KL := Lib.hid (fun W h => lives32_any W h)
  rw [dec_t hg] at KG
  clear hg
  obtain ⟨W0, hW0⟩ : ∃ W0, w.alloc (.cells (rlC R) 25) = W0 := ⟨_, rfl⟩
  rw [hW0] at HG0 HB0 KG
  have x0 : W0.cell? ⟨w.heap.size, 0, none⟩ = some (.int .i64 R.start) := blk_cell HG0.out 0
  have x1 : W0.cell? ⟨w.heap.size, 1, none⟩ = some (.int .i64 R.freq) := blk_cell HG0.out 1
  have x2 : W0.cell? ⟨w.heap.size, 2, none⟩ = some (.int .i64 R.itv) := blk_cell HG0.out 2
  have x3 : W0.cell? ⟨w.heap.size, 3, none⟩ = some (.int .i64 R.cnt) := blk_cell HG0.out 3
  have x4 : W0.cell? ⟨w.heap.size, 4, none⟩ = some (.int .i64 R.unt) := blk_cell HG0.out 4
  have x5 : W0.cell? ⟨w.heap.size, 5, none⟩ = some (.slice (R.A 0) (R.Z 0).length (R.c 0)) := blk_cell HG0.out 5
  have x6 : W0.cell? ⟨w.heap.size, 6, none⟩ = some (.slice (R.A 1) (R.Z 1).length (R.c 1)) := blk_cell HG0.out 6
  have x7 : W0.cell? ⟨w.heap.size, 7, none⟩ = some (.slice R.AW R.N.length R.cw) := blk_cell HG0.out 7
  have x8 : W0.cell? ⟨w.heap.size, 8, none⟩ = some (.slice (R.A 2) (R.Z 2).length (R.c 2)) := blk_cell HG0.out 8
  have x9 : W0.cell? ⟨w.heap.size, 9, none⟩ = some (.slice (R.A 3) (R.Z 3).length (R.c 3)) := blk_cell HG0.out 9
  have x10 : W0.cell? ⟨w.heap.size, 10, none⟩ = some (.slice (R.A 4) (R.Z 4).length (R.c 4)) := blk_cell HG0.out 10
  have HW := Lib.hid hW0
  unfold rlV rlC at KG ⊢
  unfold rlC at HW
  clear hr hT hW0 hi hsum
  go_enter Tryd.func5, Tryd.ntmps5
  go_wp2_with fail
  try rw [HW.out]
  refine KG.mono ?_
  rintro e w1 ⟨rfl, hb⟩
  have HB1 := Lib.hid (HB0.out.trans (hb.mono HB0.out.size))
  have HG1 := Lib.hid ((hb.block _ (lt_of_block HG0.out)).trans HG0.out)
  clear hb KG HW x0 x1 x2 x3 x4 x5 x6 x7 x8 x9 x10 HB0 HG0
  go_wp2_with fail
  refine (KL.out _ (HT.out.bel HB1.out)).mono ?_
  rintro e w2 ⟨rfl, hb⟩
  go_wp2
  go_ret
  exact ⟨rfl, HB1.out.trans (hb.mono HB1.out.size)⟩
set_option maxHeartbeats 3200000 in
set_option maxRecDepth 20000 in
theorem ruleTimes_n (R : Rl) (a : Int) (w : World) (hr : RlAt w R) (hi : RlIn R) (hsum : lenR R ≤ 9223372036854775807) (a0 : 0 ≤ a) (a1 : a ≤ 4294967295) (hT : TabUn w) (hg : ¬ 600 < lenR R) (hc : chkE R ≠ 0) :
    Calls Tryd.prog 5 #[rlV R, .int .u32 a] w fun e w' => e = .returned (.bool true) ∧ Below w.heap.size w w' := by
  have HG0 := Lib.hid (blk_new w (.cells (rlC R) 25))
  have HB0 := Lib.hid (show Below w.heap.size w (w.alloc (.cells (rlC R) 25)) from (Below.refl _ _).alloc (Nat.le_refl _) _)
  have KG := great32_any R (w.alloc (.cells (rlC R) 25)) hsum
  have HR := Lib.hid hr
  have HT := Lib.hid hT
  have KL := Lib.hid (fun W h => lives32_any W h)
  rw [dec_n hg] at KG
  have hN : R.N.length ≤ 100000 := by unfold lenR at hg; omega
  have KC := Lib.hid (fun W h => rcheck32_any R W h hi hN)
  have KT := Lib.hid (fun W h ht => times_no R W h hi hN ht hc)
  have e1 : (chkE R != 0) = true := by simp [hc]
  have e2 : (chkE R == 0) = false := by rw [beq_eq_false_iff_ne]; exact hc
  generalize chkE R = ec at KC e1 e2
  clear hg hc hN
  obtain ⟨W0, hW0⟩ : ∃ W0, w.alloc (.cells (rlC R) 25) = W0 := ⟨_, rfl⟩
  rw [hW0] at HG0 HB0 KG
  have x0 : W0.cell? ⟨w.heap.size, 0, none⟩ = some (.int .i64 R.start) := blk_cell HG0.out 0
  have x1 : W0.cell? ⟨w.heap.size, 1, none⟩ = some (.int .i64 R.freq) := blk_cell HG0.out 1
  have x2 : W0.cell? ⟨w.heap.size, 2, none⟩ = some (.int .i64 R.itv) := blk_cell HG0.out 2
  have x3 : W0.cell? ⟨w.heap.size, 3, none⟩ = some (.int .i64 R.cnt) := blk_cell HG0.out 3
  have x4 : W0.cell? ⟨w.heap.size, 4, none⟩ = some (.int .i64 R.unt) := blk_cell HG0.out 4
  have x5 : W0.cell? ⟨w.heap.size, 5, none⟩ = some (.slice (R.A 0) (R.Z 0).length (R.c 0)) := blk_cell HG0.out 5
  have x6 : W0.cell? ⟨w.heap.size, 6, none⟩ = some (.slice (R.A 1) (R.Z 1).length (R.c 1)) := blk_cell HG0.out 6
  have x7 : W0.cell? ⟨w.heap.size, 7, none⟩ = some (.slice R.AW R.N.length R.cw) := blk_cell HG0.out 7
  have x8 : W0.cell? ⟨w.heap.size, 8, none⟩ = some (.slice (R.A 2) (R.Z 2).length (R.c 2)) := blk_cell HG0.out 8
  have x9 : W0.cell? ⟨w.heap.size, 9, none⟩ = some (.slice (R.A 3) (R.Z 3).length (R.c 3)) := blk_cell HG0.out 9
  have x10 : W0.cell? ⟨w.heap.size, 10, none⟩ = some (.slice (R.A 4) (R.Z 4).length (R.c 4)) := blk_cell HG0.out 10
  have HW := Lib.hid hW0
  unfold rlV rlC at KG ⊢
  unfold rlC at HW
  clear hr hT hW0 hi hsum
  go_enter Tryd.func5, Tryd.ntmps5
  go_wp2_with fail
  try rw [HW.out]
  refine KG.mono ?_
  rintro e w1 ⟨rfl, hb⟩
  have HB1 := Lib.hid (HB0.out.trans (hb.mono HB0.out.size))
  have HG1 := Lib.hid ((hb.block _ (lt_of_block HG0.out)).trans HG0.out)
  clear hb KG HW x0 x1 x2 x3 x4 x5 x6 x7 x8 x9 x10 HB0 HG0
  have y0 : w1.cell? ⟨w.heap.size, 0, none⟩ = some (.int .i64 R.start) := blk_cell HG1.out 0
  have y1 : w1.cell? ⟨w.heap.size, 1, none⟩ = some (.int .i64 R.freq) := blk_cell HG1.out 1
  have y2 : w1.cell? ⟨w.heap.size, 2, none⟩ = some (.int .i64 R.itv) := blk_cell HG1.out 2
  have y3 : w1.cell? ⟨w.heap.size, 3, none⟩ = some (.int .i64 R.cnt) := blk_cell HG1.out 3
  have y4 : w1.cell? ⟨w.heap.size, 4, none⟩ = some (.int .i64 R.unt) := blk_cell HG1.out 4
  have y5 : w1.cell? ⟨w.heap.size, 5, none⟩ = some (.slice (R.A 0) (R.Z 0).length (R.c 0)) := blk_cell HG1.out 5
  have y6 : w1.cell? ⟨w.heap.size, 6, none⟩ = some (.slice (R.A 1) (R.Z 1).length (R.c 1)) := blk_cell HG1.out 6
  have y7 : w1.cell? ⟨w.heap.size, 7, none⟩ = some (.slice R.AW R.N.length R.cw) := blk_cell HG1.out 7
  have y8 : w1.cell? ⟨w.heap.size, 8, none⟩ = some (.slice (R.A 2) (R.Z 2).length (R.c 2)) := blk_cell HG1.out 8
  have y9 : w1.cell? ⟨w.heap.size, 9, none⟩ = some (.slice (R.A 3) (R.Z 3).length (R.c 3)) := blk_cell HG1.out 9
  have y10 : w1.cell? ⟨w.heap.size, 10, none⟩ = some (.slice (R.A 4) (R.Z 4).length (R.c 4)) := blk_cell HG1.out 10
  go_wp2_with fail
  refine (KT.out _ (HR.out.below HB1.out) (HT.out.bel HB1.out)).mono ?_
  rintro e w2 ⟨rfl, hb⟩
  have HB2 := Lib.hid (HB1.out.trans (hb.mono HB1.out.size))
  have HG2 := Lib.hid ((hb.block _ (lt_of_block HG1.out)).trans HG1.out)
  clear hb y0 y1 y2 y3 y4 y5 y6 y7 y8 y9 y10 HB1 HG1
  have y0 : w2.cell? ⟨w.heap.size, 0, none⟩ = some (.int .i64 R.start) := blk_cell HG2.out 0
  have y1 : w2.cell? ⟨w.heap.size, 1, none⟩ = some (.int .i64 R.freq) := blk_cell HG2.out 1
  have y2 : w2.cell? ⟨w.heap.size, 2, none⟩ = some (.int .i64 R.itv) := blk_cell HG2.out 2
  have y3 : w2.cell? ⟨w.heap.size, 3, none⟩ = some (.int .i64 R.cnt) := blk_cell HG2.out 3
  have y4 : w2.cell? ⟨w.heap.size, 4, none⟩ = some (.int .i64 R.unt) := blk_cell HG2.out 4
  have y5 : w2.cell? ⟨w.heap.size, 5, none⟩ = some (.slice (R.A 0) (R.Z 0).length (R.c 0)) := blk_cell HG2.out 5
  have y6 : w2.cell? ⟨w.heap.size, 6, none⟩ = some (.slice (R.A 1) (R.Z 1).length (R.c 1)) := blk_cell HG2.out 6
  have y7 : w2.cell? ⟨w.heap.size, 7, none⟩ = some (.slice R.AW R.N.length R.cw) := blk_cell HG2.out 7
  have y8 : w2.cell? ⟨w.heap.size, 8, none⟩ = some (.slice (R.A 2) (R.Z 2).length (R.c 2)) := blk_cell HG2.out 8
  have y9 : w2.cell? ⟨w.heap.size, 9, none⟩ = some (.slice (R.A 3) (R.Z 3).length (R.c 3)) := blk_cell HG2.out 9
  have y10 : w2.cell? ⟨w.heap.size, 10, none⟩ = some (.slice (R.A 4) (R.Z 4).length (R.c 4)) := blk_cell HG2.out 10
  go_wp2_with fail
  refine (KC.out _ (HR.out.below HB2.out)).mono ?_
  rintro e w3 ⟨rfl, hb⟩
  have HB3 := Lib.hid (HB2.out.trans (hb.mono HB2.out.size))
  have HG3 := Lib.hid ((hb.block _ (lt_of_block HG2.out)).trans HG2.out)
  clear hb y0 y1 y2 y3 y4 y5 y6 y7 y8 y9 y10 HB2 HG2
  go_wp2_with fail
  refine (KL.out _ (HT.out.bel HB3.out)).mono ?_
  rintro e w4 ⟨rfl, hb⟩
  go_wp2
  go_ret
  exact ⟨rfl, HB3.out.trans (hb.mono HB3.out.size)⟩
set_option maxHeartbeats 3200000 in
set_option maxRecDepth 20000 in
theorem ruleTimes_y (R : Rl) (a : Int) (w : World) (hr : RlAt w R) (hi : RlIn R) (hsum : lenR R ≤ 9223372036854775807) (a0 : 0 ≤ a) (a1 : a ≤ 4294967295) (hT : TabUn w) (hg : ¬ 600 < lenR R) (hc : chkE R = 0) :
    Calls Tryd.prog 5 #[rlV R, .int .u32 a] w fun e w' => e = .returned (.bool true) ∧ Below w.heap.size w w' := by
  have HG0 := Lib.hid (blk_new w (.cells (rlC R) 25))
  have HB0 := Lib.hid (show Below w.heap.size w (w.alloc (.cells (rlC R) 25)) from (Below.refl _ _).alloc (Nat.le_refl _) _)
  have KG := great32_any R (w.alloc (.cells (rlC R) 25)) hsum
  have HR := Lib.hid hr
  have HT := Lib.hid hT
  have KL := Lib.hid (fun W h => lives32_any W h)
  rw [dec_n hg] at KG
  have hN : R.N.length ≤ 100000 := by unfold lenR at hg; omega
  have KC := Lib.hid (fun W h => rcheck32_any R W h hi hN)
  obtain ⟨s1, s2⟩ := chk_start R hc
  obtain ⟨y, m, d, hd⟩ := exists_date (R.start / 86400)
  have hl : ∀ i, i < 5 → (R.Z i).length ≤ 1000000 := fun i hi => by
    unfold lenR at hg
    obtain rfl | rfl | rfl | rfl | rfl : i = 0 ∨ i = 1 ∨ i = 2 ∨ i = 3 ∨ i = 4 := by omega
    all_goals omega
  have KT := Lib.hid (fun W h ht => times_yes R W h hi hN ht hc y m d hd hl)
  obtain ⟨k, hk⟩ : ∃ k, a % 86400 = k := ⟨_, rfl⟩
  have k0 : 0 ≤ k := by omega
  have k1 : k < 86400 := by omega
  have KM := Lib.hid (fun W h => rtime_any R k W h hi s1 s2 y m d hd k0 k1)
  have hq := tim_eq R k k0 k1 (by omega)
  rw [hc] at KC
  have l1 := ofM_lt (R.Z 2) (decide (3 ≤ R.freq)) (R.start % 86400 / 3600) fullC.h (by decide +kernel)
  have l2 := ofM_lt (R.Z 3) (decide (2 ≤ R.freq)) (R.start % 86400 / 60 % 60) fullC.m (by decide +kernel)
  have l3 := ofM_lt (R.Z 4) (decide (1 ≤ R.freq)) (R.start % 60) fullC.s (by decide +kernel)
  generalize ofM (R.Z 2) (decide (3 ≤ R.freq)) (R.start % 86400 / 3600) fullC.h = M1 at KT hq l1
  generalize ofM (R.Z 3) (decide (2 ≤ R.freq)) (R.start % 86400 / 60 % 60) fullC.m = M2 at KT hq l2
  generalize ofM (R.Z 4) (decide (1 ≤ R.freq)) (R.start % 60) fullC.s = M3 at KT hq l3
  have KH1 := Lib.hid (fun W => rhas_any M1 (k / 3600) W l1)
  have KH2 := Lib.hid (fun W => rhas_any M2 (k % 3600 / 60) W l2)
  have KH3 := Lib.hid (fun W => rhas_any M3 (k % 60) W l3)
  generalize inM M1 (k / 3600) = b1 at KH1 hq
  generalize inM M2 (k % 3600 / 60) = b2 at KH2 hq
  generalize inM M3 (k % 60) = b3 at KH3 hq
  generalize timB R k = tb at KM hq
  have HQ := Lib.hid hq
  have u1 : IntKind.i64.wrap k = k := IntWalk.i64_in _ ⟨by omega, by omega⟩
  clear hg hc hN s1 s2 hd hl hq l1 l2 l3
  obtain ⟨W0, hW0⟩ : ∃ W0, w.alloc (.cells (rlC R) 25) = W0 := ⟨_, rfl⟩
  rw [hW0] at HG0 HB0 KG
  have x0 : W0.cell? ⟨w.heap.size, 0, none⟩ = some (.int .i64 R.start) := blk_cell HG0.out 0
  have x1 : W0.cell? ⟨w.heap.size, 1, none⟩ = some (.int .i64 R.freq) := blk_cell HG0.out 1
  have x2 : W0.cell? ⟨w.heap.size, 2, none⟩ = some (.int .i64 R.itv) := blk_cell HG0.out 2
  have x3 : W0.cell? ⟨w.heap.size, 3, none⟩ = some (.int .i64 R.cnt) := blk_cell HG0.out 3
  have x4 : W0.cell? ⟨w.heap.size, 4, none⟩ = some (.int .i64 R.unt) := blk_cell HG0.out 4
  have x5 : W0.cell? ⟨w.heap.size, 5, none⟩ = some (.slice (R.A 0) (R.Z 0).length (R.c 0)) := blk_cell HG0.out 5
  have x6 : W0.cell? ⟨w.heap.size, 6, none⟩ = some (.slice (R.A 1) (R.Z 1).length (R.c 1)) := blk_cell HG0.out 6
  have x7 : W0.cell? ⟨w.heap.size, 7, none⟩ = some (.slice R.AW R.N.length R.cw) := blk_cell HG0.out 7
  have x8 : W0.cell? ⟨w.heap.size, 8, none⟩ = some (.slice (R.A 2) (R.Z 2).length (R.c 2)) := blk_cell HG0.out 8
  have x9 : W0.cell? ⟨w.heap.size, 9, none⟩ = some (.slice (R.A 3) (R.Z 3).length (R.c 3)) := blk_cell HG0.out 9
  have x10 : W0.cell? ⟨w.heap.size, 10, none⟩ = some (.slice (R.A 4) (R.Z 4).length (R.c 4)) := blk_cell HG0.out 10
  have HW := Lib.hid hW0
  unfold rlV rlC at KG ⊢
  unfold rlC at HW
  clear hr hT hW0 hi hsum
  go_enter Tryd.func5, Tryd.ntmps5
  go_wp2_with fail
  try rw [HW.out]
  refine KG.mono ?_
  rintro e w1 ⟨rfl, hb⟩
  have HB1 := Lib.hid (HB0.out.trans (hb.mono HB0.out.size))
  have HG1 := Lib.hid ((hb.block _ (lt_of_block HG0.out)).trans HG0.out)
  clear hb KG HW x0 x1 x2 x3 x4 x5 x6 x7 x8 x9 x10 HB0 HG0
  have y0 : w1.cell? ⟨w.heap.size, 0, none⟩ = some (.int .i64 R.start) := blk_cell HG1.out 0
  have y1 : w1.cell? ⟨w.heap.size, 1, none⟩ = some (.int .i64 R.freq) := blk_cell HG1.out 1
  have y2 : w1.cell? ⟨w.heap.size, 2, none⟩ = some (.int .i64 R.itv) := blk_cell HG1.out 2
  have y3 : w1.cell? ⟨w.heap.size, 3, none⟩ = some (.int .i64 R.cnt) := blk_cell HG1.out 3
  have y4 : w1.cell? ⟨w.heap.size, 4, none⟩ = some (.int .i64 R.unt) := blk_cell HG1.out 4
  have y5 : w1.cell? ⟨w.heap.size, 5, none⟩ = some (.slice (R.A 0) (R.Z 0).length (R.c 0)) := blk_cell HG1.out 5
  have y6 : w1.cell? ⟨w.heap.size, 6, none⟩ = some (.slice (R.A 1) (R.Z 1).length (R.c 1)) := blk_cell HG1.out 6
  have y7 : w1.cell? ⟨w.heap.size, 7, none⟩ = some (.slice R.AW R.N.length R.cw) := blk_cell HG1.out 7
  have y8 : w1.cell? ⟨w.heap.size, 8, none⟩ = some (.slice (R.A 2) (R.Z 2).length (R.c 2)) := blk_cell HG1.out 8
  have y9 : w1.cell? ⟨w.heap.size, 9, none⟩ = some (.slice (R.A 3) (R.Z 3).length (R.c 3)) := blk_cell HG1.out 9
  have y10 : w1.cell? ⟨w.heap.size, 10, none⟩ = some (.slice (R.A 4) (R.Z 4).length (R.c 4)) := blk_cell HG1.out 10
  go_wp2_with fail
  refine (KT.out _ (HR.out.below HB1.out) (HT.out.bel HB1.out)).mono ?_
  rintro e w2 ⟨rfl, hb⟩
  have HB2 := Lib.hid (HB1.out.trans (hb.mono HB1.out.size))
  have HG2 := Lib.hid ((hb.block _ (lt_of_block HG1.out)).trans HG1.out)
  clear hb y0 y1 y2 y3 y4 y5 y6 y7 y8 y9 y10 HB1 HG1
  have y0 : w2.cell? ⟨w.heap.size, 0, none⟩ = some (.int .i64 R.start) := blk_cell HG2.out 0
  have y1 : w2.cell? ⟨w.heap.size, 1, none⟩ = some (.int .i64 R.freq) := blk_cell HG2.out 1
  have y2 : w2.cell? ⟨w.heap.size, 2, none⟩ = some (.int .i64 R.itv) := blk_cell HG2.out 2
  have y3 : w2.cell? ⟨w.heap.size, 3, none⟩ = some (.int .i64 R.cnt) := blk_cell HG2.out 3
  have y4 : w2.cell? ⟨w.heap.size, 4, none⟩ = some (.int .i64 R.unt) := blk_cell HG2.out 4
  have y5 : w2.cell? ⟨w.heap.size, 5, none⟩ = some (.slice (R.A 0) (R.Z 0).length (R.c 0)) := blk_cell HG2.out 5
  have y6 : w2.cell? ⟨w.heap.size, 6, none⟩ = some (.slice (R.A 1) (R.Z 1).length (R.c 1)) := blk_cell HG2.out 6
  have y7 : w2.cell? ⟨w.heap.size, 7, none⟩ = some (.slice R.AW R.N.length R.cw) := blk_cell HG2.out 7
  have y8 : w2.cell? ⟨w.heap.size, 8, none⟩ = some (.slice (R.A 2) (R.Z 2).length (R.c 2)) := blk_cell HG2.out 8
  have y9 : w2.cell? ⟨w.heap.size, 9, none⟩ = some (.slice (R.A 3) (R.Z 3).length (R.c 3)) := blk_cell HG2.out 9
  have y10 : w2.cell? ⟨w.heap.size, 10, none⟩ = some (.slice (R.A 4) (R.Z 4).length (R.c 4)) := blk_cell HG2.out 10
  go_wp2_with fail
  refine (KC.out _ (HR.out.below HB2.out)).mono ?_
  rintro e w3 ⟨rfl, hb⟩
  have HB3 := Lib.hid (HB2.out.trans (hb.mono HB2.out.size))
  have HG3 := Lib.hid ((hb.block _ (lt_of_block HG2.out)).trans HG2.out)
  clear hb y0 y1 y2 y3 y4 y5 y6 y7 y8 y9 y10 HB2 HG2
  go_upto_region 7 with fail
  go_cut [9] (fun s9 wx => s9 = .bool (b1 && b2 && b3) ∧ w3 = wx)
  case first =>
    go_wp2_with fail
    refine (KH1.out _).mono ?_
    rintro e w4 ⟨rfl, rfl⟩
    cases b1
    · go_wp2_with fail
      go_meet
      exact ⟨rfl, rfl⟩
    · go_wp2_with fail
      refine (KH2.out _).mono ?_
      rintro e w4 ⟨rfl, rfl⟩
      cases b2
      · go_wp2_with fail
        go_meet
        exact ⟨rfl, rfl⟩
      · go_wp2_with fail
        refine (KH3.out _).mono ?_
        rintro e w4 ⟨rfl, rfl⟩
        go_wp2_with fail
        go_meet
        exact ⟨rfl, rfl⟩
  case rest =>
  obtain ⟨rfl, rfl⟩ := hcut
  rw [HQ.out]
  clear KH1 KH2 KH3 HQ
  have y0 : w3.cell? ⟨w.heap.size, 0, none⟩ = some (.int .i64 R.start) := blk_cell HG3.out 0
  have y1 : w3.cell? ⟨w.heap.size, 1, none⟩ = some (.int .i64 R.freq) := blk_cell HG3.out 1
  have y2 : w3.cell? ⟨w.heap.size, 2, none⟩ = some (.int .i64 R.itv) := blk_cell HG3.out 2
  have y3 : w3.cell? ⟨w.heap.size, 3, none⟩ = some (.int .i64 R.cnt) := blk_cell HG3.out 3
  have y4 : w3.cell? ⟨w.heap.size, 4, none⟩ = some (.int .i64 R.unt) := blk_cell HG3.out 4
  have y5 : w3.cell? ⟨w.heap.size, 5, none⟩ = some (.slice (R.A 0) (R.Z 0).length (R.c 0)) := blk_cell HG3.out 5
  have y6 : w3.cell? ⟨w.heap.size, 6, none⟩ = some (.slice (R.A 1) (R.Z 1).length (R.c 1)) := blk_cell HG3.out 6
  have y7 : w3.cell? ⟨w.heap.size, 7, none⟩ = some (.slice R.AW R.N.length R.cw) := blk_cell HG3.out 7
  have y8 : w3.cell? ⟨w.heap.size, 8, none⟩ = some (.slice (R.A 2) (R.Z 2).length (R.c 2)) := blk_cell HG3.out 8
  have y9 : w3.cell? ⟨w.heap.size, 9, none⟩ = some (.slice (R.A 3) (R.Z 3).length (R.c 3)) := blk_cell HG3.out 9
  have y10 : w3.cell? ⟨w.heap.size, 10, none⟩ = some (.slice (R.A 4) (R.Z 4).length (R.c 4)) := blk_cell HG3.out 10
  go_wp2_with fail
  refine (KM.out _ (HR.out.below HB3.out)).mono ?_
  rintro e w4 ⟨rfl, hb⟩
  have HB4 := Lib.hid (HB3.out.trans (hb.mono HB3.out.size))
  have HG4 := Lib.hid ((hb.block _ (lt_of_block HG3.out)).trans HG3.out)
  clear hb y0 y1 y2 y3 y4 y5 y6 y7 y8 y9 y10 HB3 HG3
  have htb : (tb == tb) = true := by simp
  go_wp2_with fail
  refine (KL.out _ (HT.out.bel HB4.out)).mono ?_
  rintro e w5 ⟨rfl, hb⟩
  go_wp2
  go_ret
  exact ⟨rfl, HB4.out.trans (hb.mono HB4.out.size)⟩
theorem ruleTimes_any (R : Rl) (a : Int) (w : World) (hr : RlAt w R) (hi : RlIn R) (hz : ∀ j, j < 5 → (R.Z j).length * 8 ≤ reachBytes) (hn : R.N.length * 16 ≤ reachBytes) (wa : (Lit.int .u32 a).wf = true) (hT : TabUn w) :
    Calls Tryd.prog 5 #[rlV R, .int .u32 a] w fun e w' => e = .returned (.bool true) ∧ Below w.heap.size w w' := by
  obtain ⟨a0, a1⟩ := wf_u32 wa
  have hsum := len_sum R hz hn
  by_cases hg : 600 < lenR R
  · exact ruleTimes_g R a w hr hi hsum a0 a1 hT hg
  · by_cases hc : chkE R = 0
    · exact ruleTimes_y R a w hr hi hsum a0 a1 hT hg hc
    · exact ruleTimes_n R a w hr hi hsum a0 a1 hT hg hc
end Go.Proofs.YtigbbepgfofcoaaDoor
