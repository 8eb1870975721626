/- A rule's hours, minutes and seconds: rule.Times (layer 32). Has a second of the day a rule's hours, minutes and seconds: feriaref32.Time (layer 32). -/
import Derived.Test.YtigbbepgfofcoaaDoorRlQ
import Derived.Test.YtigbbepgfofcoaaDoorRlN
import Derived.Test.YtigbbepgfofcoaaDoorCm3
import Derived.Deep.DeepCutAuto
namespace Go.Proofs.YtigbbepgfofcoaaDoor
open Go.RowKit Civ
set_option linter.unusedVariables false

set_option maxHeartbeats 1600000 in
set_option maxRecDepth 20000 in
theorem times_no (r : Rl) (w : World) (hr : RlAt w r) (hin : RlIn r) (hN : r.N.length ≤ 100000) (hT : TabUn w) (h : chkE r ≠ 0) :
    Calls Tryd.prog 20 #[rlV r] w fun e w' => e = .returned (.tuple #[.int .u64 0, .int .u64 0, .int .u64 0]) ∧ Below w.heap.size w w' := by
  have HG0 := Lib.hid (blk_new w (.cells (rlC r) 25))
  have HB0 := Lib.hid (show Below w.heap.size w (w.alloc (.cells (rlC r) 25)) from (Below.refl _ _).alloc (Nat.le_refl _) _)
  have K := begun_no r (w.alloc (.cells (rlC r) 25)) (hr.below HB0.out) hin hN (hT.bel HB0.out) h
  have HR := Lib.hid hr
  obtain ⟨W0, hW0⟩ : ∃ W0, w.alloc (.cells (rlC r) 25) = W0 := ⟨_, rfl⟩
  rw [hW0] at HG0 HB0 K
  have x0 : W0.cell? ⟨w.heap.size, 0, none⟩ = some (.int .i64 r.start) := blk_cell HG0.out 0
  have x1 : W0.cell? ⟨w.heap.size, 1, none⟩ = some (.int .i64 r.freq) := blk_cell HG0.out 1
  have x2 : W0.cell? ⟨w.heap.size, 2, none⟩ = some (.int .i64 r.itv) := blk_cell HG0.out 2
  have x3 : W0.cell? ⟨w.heap.size, 3, none⟩ = some (.int .i64 r.cnt) := blk_cell HG0.out 3
  have x4 : W0.cell? ⟨w.heap.size, 4, none⟩ = some (.int .i64 r.unt) := blk_cell HG0.out 4
  have x5 : W0.cell? ⟨w.heap.size, 5, none⟩ = some (.slice (r.A 0) (r.Z 0).length (r.c 0)) := blk_cell HG0.out 5
  have x6 : W0.cell? ⟨w.heap.size, 6, none⟩ = some (.slice (r.A 1) (r.Z 1).length (r.c 1)) := blk_cell HG0.out 6
  have x7 : W0.cell? ⟨w.heap.size, 7, none⟩ = some (.slice r.AW r.N.length r.cw) := blk_cell HG0.out 7
  have x8 : W0.cell? ⟨w.heap.size, 8, none⟩ = some (.slice (r.A 2) (r.Z 2).length (r.c 2)) := blk_cell HG0.out 8
  have x9 : W0.cell? ⟨w.heap.size, 9, none⟩ = some (.slice (r.A 3) (r.Z 3).length (r.c 3)) := blk_cell HG0.out 9
  have x10 : W0.cell? ⟨w.heap.size, 10, none⟩ = some (.slice (r.A 4) (r.Z 4).length (r.c 4)) := blk_cell HG0.out 10
  have HW := Lib.hid hW0
  unfold rlV rlC at K ⊢
  unfold rlC at HW
  clear hr hin hN hT h hW0
  go_enter Tryd.func20, Tryd.ntmps20
  go_wp2_with fail
  try rw [HW.out]
  refine K.mono ?_
  rintro e w1 ⟨rfl, hb⟩
  have HB1 := Lib.hid (HB0.out.trans (hb.mono HB0.out.size))
  have HG1 := Lib.hid ((hb.block _ (lt_of_block HG0.out)).trans HG0.out)
  have HWG := Lib.hid (Nat.lt_of_lt_of_le (lt_of_block HG0.out) hb.size)
  clear hb K HW x0 x1 x2 x3 x4 x5 x6 x7 x8 x9 x10
  go_wp2_with (refine wpList_storeNew #[.int .i64 0, .int .i64 0, .int .i64 0, .int .i64 0, .int .i64 0, .int .i64 0] rfl _ _ _ rfl rfl rfl (by kernel_rfl) rfl (by simp [Value.oneCell']) ?_)
  have HB2 := Lib.hid (HB1.out.alloc HB1.out.size (.cells #[.int .i64 0, .int .i64 0, .int .i64 0, .int .i64 0, .int .i64 0, .int .i64 0] 69))
  exact bodyPost_ret (v := .tuple #[.int .u64 0, .int .u64 0, .int .u64 0]) (by simp [results, Tryd.results20, go_sem]) rfl ⟨rfl, HB2.out⟩
set_option maxHeartbeats 1600000 in
set_option maxRecDepth 20000 in
theorem times_yes (r : Rl) (w : World) (hr : RlAt w r) (hin : RlIn r) (hN : r.N.length ≤ 100000) (hT : TabUn w) (h : chkE r = 0) (y m d : Int) (hd : IsDate (r.start / 86400) y m d) (hl : ∀ i, i < 5 → (r.Z i).length ≤ 1000000) :
    Calls Tryd.prog 20 #[rlV r] w fun e w' => e = .returned (.tuple #[.int .u64 (ofM (r.Z 2) (decide (3 ≤ r.freq)) (r.start % 86400 / 3600) fullC.h : Nat), .int .u64 (ofM (r.Z 3) (decide (2 ≤ r.freq)) (r.start % 86400 / 60 % 60) fullC.m : Nat), .int .u64 (ofM (r.Z 4) (decide (1 ≤ r.freq)) (r.start % 60) fullC.s : Nat)]) ∧ Below w.heap.size w w' := by
  have HG0 := Lib.hid (blk_new w (.cells (rlC r) 25))
  have HB0 := Lib.hid (show Below w.heap.size w (w.alloc (.cells (rlC r) 25)) from (Below.refl _ _).alloc (Nat.le_refl _) _)
  have K := begun_yes r (w.alloc (.cells (rlC r) 25)) (hr.below HB0.out) hin hN (hT.bel HB0.out) h y m d hd
  have HR := Lib.hid hr
  obtain ⟨W0, hW0⟩ : ∃ W0, w.alloc (.cells (rlC r) 25) = W0 := ⟨_, rfl⟩
  rw [hW0] at HG0 HB0 K
  unfold stampV at K
  generalize r.start % 86400 / 3600 = hh at K ⊢
  generalize r.start % 86400 / 60 % 60 = hm at K ⊢
  generalize r.start % 60 = hs at K ⊢
  have KA := Lib.hid (fun b x a W hi => times1_any (r.A 2) (r.c 2) (r.Z 2) b x a W (hl 2 (by decide)) hi)
  have KB := Lib.hid (fun b x a W hi => times1_any (r.A 3) (r.c 3) (r.Z 3) b x a W (hl 3 (by decide)) hi)
  have KC := Lib.hid (fun b x a W hi => times1_any (r.A 4) (r.c 4) (r.Z 4) b x a W (hl 4 (by decide)) hi)
  have KF := Lib.hid (fun W => cfull_any W)
  have hC := fun args W => entersR (P := Tryd.prog) Tryd.func81 (by kernel_rfl) rfl args W
  unfold clV at KF
  generalize fullC = fc at KF ⊢
  have x0 : W0.cell? ⟨w.heap.size, 0, none⟩ = some (.int .i64 r.start) := blk_cell HG0.out 0
  have x1 : W0.cell? ⟨w.heap.size, 1, none⟩ = some (.int .i64 r.freq) := blk_cell HG0.out 1
  have x2 : W0.cell? ⟨w.heap.size, 2, none⟩ = some (.int .i64 r.itv) := blk_cell HG0.out 2
  have x3 : W0.cell? ⟨w.heap.size, 3, none⟩ = some (.int .i64 r.cnt) := blk_cell HG0.out 3
  have x4 : W0.cell? ⟨w.heap.size, 4, none⟩ = some (.int .i64 r.unt) := blk_cell HG0.out 4
  have x5 : W0.cell? ⟨w.heap.size, 5, none⟩ = some (.slice (r.A 0) (r.Z 0).length (r.c 0)) := blk_cell HG0.out 5
  have x6 : W0.cell? ⟨w.heap.size, 6, none⟩ = some (.slice (r.A 1) (r.Z 1).length (r.c 1)) := blk_cell HG0.out 6
  have x7 : W0.cell? ⟨w.heap.size, 7, none⟩ = some (.slice r.AW r.N.length r.cw) := blk_cell HG0.out 7
  have x8 : W0.cell? ⟨w.heap.size, 8, none⟩ = some (.slice (r.A 2) (r.Z 2).length (r.c 2)) := blk_cell HG0.out 8
  have x9 : W0.cell? ⟨w.heap.size, 9, none⟩ = some (.slice (r.A 3) (r.Z 3).length (r.c 3)) := blk_cell HG0.out 9
  have x10 : W0.cell? ⟨w.heap.size, 10, none⟩ = some (.slice (r.A 4) (r.Z 4).length (r.c 4)) := blk_cell HG0.out 10
  have HW := Lib.hid hW0
  unfold rlV rlC at K ⊢
  unfold rlC at HW
  clear hr hin hN hT h hW0 hd hl
  go_enter Tryd.func20, Tryd.ntmps20
  go_wp2_with fail
  try rw [HW.out]
  refine K.mono ?_
  rintro e w1 ⟨rfl, hb⟩
  have HB1 := Lib.hid (HB0.out.trans (hb.mono HB0.out.size))
  have HG1 := Lib.hid ((hb.block _ (lt_of_block HG0.out)).trans HG0.out)
  have HWG := Lib.hid (Nat.lt_of_lt_of_le (lt_of_block HG0.out) hb.size)
  clear hb K HW x0 x1 x2 x3 x4 x5 x6 x7 x8 x9 x10
  have HS2 := Lib.hid (blk_new w1 (.cells #[.int .i64 y, .int .i64 m, .int .i64 d, .int .i64 hh, .int .i64 hm, .int .i64 hs] 69))
  have HB2 := Lib.hid (HB1.out.alloc HB1.out.size (.cells #[.int .i64 y, .int .i64 m, .int .i64 d, .int .i64 hh, .int .i64 hm, .int .i64 hs] 69))
  have HG2 := Lib.hid (blk_more HG1.out (.cells #[.int .i64 y, .int .i64 m, .int .i64 d, .int .i64 hh, .int .i64 hm, .int .i64 hs] 69))
  go_wp2_with (refine wpList_storeNew #[.int .i64 y, .int .i64 m, .int .i64 d, .int .i64 hh, .int .i64 hm, .int .i64 hs] rfl _ _ _ rfl rfl rfl (by kernel_rfl) rfl (by simp [Value.oneCell']) ?_)
  refine (KF.out _).mono ?_
  rintro e w3 ⟨rfl, hb3⟩
  have HB3 := Lib.hid ((HB2.out.trans (hb3.mono HB2.out.size)).alloc (HB2.out.trans (hb3.mono HB2.out.size)).size (.cells (clC fc) 75))
  have HG3 := Lib.hid (blk_more ((hb3.block _ (lt_of_block HG2.out)).trans HG2.out) (.cells (clC fc) 75))
  have HS3 := Lib.hid (blk_more ((hb3.block _ (lt_of_block HS2.out)).trans HS2.out) (.cells (clC fc) 75))
  have HF3 := Lib.hid (show ClAt (w3.alloc (.cells (clC fc) 75)) w3.heap.size fc from blk_new w3 _)
  obtain ⟨W4, hW4⟩ : ∃ W4, w3.alloc (.cells (clC fc) 75) = W4 := ⟨_, rfl⟩
  rw [hW4] at HB3 HG3 HS3 HF3
  have HW4 := Lib.hid hW4
  clear hb3 hW4 HS2 HB2 HG2
  generalize w1.heap.size = g1 at *
  have HR4 := Lib.hid (HR.out.below HB3.out)
  have yr_1 : (w3.alloc (.cells (clC fc) 75)).cell? ⟨w.heap.size, 1, none⟩ = some (.int .i64 r.freq) := by rw [HW4.out]; exact blk_cell HG3.out 1
  have yr_8 : (w3.alloc (.cells (clC fc) 75)).cell? ⟨w.heap.size, 8, none⟩ = some (.slice (r.A 2) (r.Z 2).length (r.c 2)) := by rw [HW4.out]; exact blk_cell HG3.out 8
  have yr_9 : (w3.alloc (.cells (clC fc) 75)).cell? ⟨w.heap.size, 9, none⟩ = some (.slice (r.A 3) (r.Z 3).length (r.c 3)) := by rw [HW4.out]; exact blk_cell HG3.out 9
  have yr_10 : (w3.alloc (.cells (clC fc) 75)).cell? ⟨w.heap.size, 10, none⟩ = some (.slice (r.A 4) (r.Z 4).length (r.c 4)) := by rw [HW4.out]; exact blk_cell HG3.out 10
  have ys_3 : (w3.alloc (.cells (clC fc) 75)).cell? ⟨g1, 3, none⟩ = some (.int .i64 hh) := by rw [HW4.out]; exact blk_cell HS3.out 3
  have ys_4 : (w3.alloc (.cells (clC fc) 75)).cell? ⟨g1, 4, none⟩ = some (.int .i64 hm) := by rw [HW4.out]; exact blk_cell HS3.out 4
  have ys_5 : (w3.alloc (.cells (clC fc) 75)).cell? ⟨g1, 5, none⟩ = some (.int .i64 hs) := by rw [HW4.out]; exact blk_cell HS3.out 5
  have yf_2 : (w3.alloc (.cells (clC fc) 75)).cell? ⟨w3.heap.size, 2, none⟩ = some (.int .u64 (fc.h : Nat)) := by rw [HW4.out]; exact blk_cell HF3.out 2
  have yf_1 : (w3.alloc (.cells (clC fc) 75)).cell? ⟨w3.heap.size, 1, none⟩ = some (.int .u64 (fc.m : Nat)) := by rw [HW4.out]; exact blk_cell HF3.out 1
  have yf_0 : (w3.alloc (.cells (clC fc) 75)).cell? ⟨w3.heap.size, 0, none⟩ = some (.int .u64 (fc.s : Nat)) := by rw [HW4.out]; exact blk_cell HF3.out 0
  clear HR HB0 HG0 HB1 HG1 HWG
  go_wp2_with (refine wpList_storeNew (clC fc) rfl _ _ _ rfl rfl rfl (by kernel_rfl) (by unfold clC; kernel_rfl) (by unfold clC; kernel_rfl) ?_)
  try rw [HW4.out]
  clear HW4
  generalize w3.heap.size = F at *
  refine (KA.out _ _ _ _ (HR4.out.ints 2 (by decide))).mono ?_
  rintro e w5 ⟨rfl, hb⟩
  have HB5 := Lib.hid (HB3.out.trans (hb.mono HB3.out.size))
  have HR4 := Lib.hid (HR4.out.below hb)
  have HG5 := Lib.hid ((hb.block _ (lt_of_block HG3.out)).trans HG3.out)
  have HS5 := Lib.hid ((hb.block _ (lt_of_block HS3.out)).trans HS3.out)
  have HF5 := Lib.hid ((hb.block _ (lt_of_block HF3.out)).trans HF3.out)
  clear hb yr_1 yr_8 yr_9 yr_10 ys_3 ys_4 ys_5 yf_2 yf_1 yf_0 HG3 HS3 HF3 HB3
  have y5r_1 : w5.cell? ⟨w.heap.size, 1, none⟩ = some (.int .i64 r.freq) := blk_cell HG5.out 1
  have y5r_8 : w5.cell? ⟨w.heap.size, 8, none⟩ = some (.slice (r.A 2) (r.Z 2).length (r.c 2)) := blk_cell HG5.out 8
  have y5r_9 : w5.cell? ⟨w.heap.size, 9, none⟩ = some (.slice (r.A 3) (r.Z 3).length (r.c 3)) := blk_cell HG5.out 9
  have y5r_10 : w5.cell? ⟨w.heap.size, 10, none⟩ = some (.slice (r.A 4) (r.Z 4).length (r.c 4)) := blk_cell HG5.out 10
  have y5s_3 : w5.cell? ⟨g1, 3, none⟩ = some (.int .i64 hh) := blk_cell HS5.out 3
  have y5s_4 : w5.cell? ⟨g1, 4, none⟩ = some (.int .i64 hm) := blk_cell HS5.out 4
  have y5s_5 : w5.cell? ⟨g1, 5, none⟩ = some (.int .i64 hs) := blk_cell HS5.out 5
  have y5f_2 : w5.cell? ⟨F, 2, none⟩ = some (.int .u64 (fc.h : Nat)) := blk_cell HF5.out 2
  have y5f_1 : w5.cell? ⟨F, 1, none⟩ = some (.int .u64 (fc.m : Nat)) := blk_cell HF5.out 1
  have y5f_0 : w5.cell? ⟨F, 0, none⟩ = some (.int .u64 (fc.s : Nat)) := blk_cell HF5.out 0
  go_wp2_with fail
  refine (KB.out _ _ _ _ (HR4.out.ints 3 (by decide))).mono ?_
  rintro e w6 ⟨rfl, hb⟩
  have HB6 := Lib.hid (HB5.out.trans (hb.mono HB5.out.size))
  have HR4 := Lib.hid (HR4.out.below hb)
  have HG6 := Lib.hid ((hb.block _ (lt_of_block HG5.out)).trans HG5.out)
  have HS6 := Lib.hid ((hb.block _ (lt_of_block HS5.out)).trans HS5.out)
  have HF6 := Lib.hid ((hb.block _ (lt_of_block HF5.out)).trans HF5.out)
  clear hb y5r_1 y5r_8 y5r_9 y5r_10 y5s_3 y5s_4 y5s_5 y5f_2 y5f_1 y5f_0 HG5 HS5 HF5 HB5
  have y6r_1 : w6.cell? ⟨w.heap.size, 1, none⟩ = some (.int .i64 r.freq) := blk_cell HG6.out 1
  have y6r_8 : w6.cell? ⟨w.heap.size, 8, none⟩ = some (.slice (r.A 2) (r.Z 2).length (r.c 2)) := blk_cell HG6.out 8
  have y6r_9 : w6.cell? ⟨w.heap.size, 9, none⟩ = some (.slice (r.A 3) (r.Z 3).length (r.c 3)) := blk_cell HG6.out 9
  have y6r_10 : w6.cell? ⟨w.heap.size, 10, none⟩ = some (.slice (r.A 4) (r.Z 4).length (r.c 4)) := blk_cell HG6.out 10
  have y6s_3 : w6.cell? ⟨g1, 3, none⟩ = some (.int .i64 hh) := blk_cell HS6.out 3
  have y6s_4 : w6.cell? ⟨g1, 4, none⟩ = some (.int .i64 hm) := blk_cell HS6.out 4
  have y6s_5 : w6.cell? ⟨g1, 5, none⟩ = some (.int .i64 hs) := blk_cell HS6.out 5
  have y6f_2 : w6.cell? ⟨F, 2, none⟩ = some (.int .u64 (fc.h : Nat)) := blk_cell HF6.out 2
  have y6f_1 : w6.cell? ⟨F, 1, none⟩ = some (.int .u64 (fc.m : Nat)) := blk_cell HF6.out 1
  have y6f_0 : w6.cell? ⟨F, 0, none⟩ = some (.int .u64 (fc.s : Nat)) := blk_cell HF6.out 0
  go_wp2_with fail
  refine (KC.out _ _ _ _ (HR4.out.ints 4 (by decide))).mono ?_
  rintro e w7 ⟨rfl, hb⟩
  have HB7 := Lib.hid (HB6.out.trans (hb.mono HB6.out.size))
  clear hb y6r_1 y6r_8 y6r_9 y6r_10 y6s_3 y6s_4 y6s_5 y6f_2 y6f_1 y6f_0 HG6 HS6 HF6 HB6
  go_wp2_with fail
  exact bodyPost_ret (v := .tuple #[.int .u64 (ofM (r.Z 2) (decide (3 ≤ r.freq)) hh fc.h : Nat), .int .u64 (ofM (r.Z 3) (decide (2 ≤ r.freq)) hm fc.m : Nat), .int .u64 (ofM (r.Z 4) (decide (1 ≤ r.freq)) hs fc.s : Nat)]) (by simp [results, Tryd.results20, go_sem]) rfl ⟨rfl, HB7.out⟩
end Go.Proofs.YtigbbepgfofcoaaDoor
namespace Go.Proofs.YtigbbepgfofcoaaDoor
open Go.RowKit Civ
set_option linter.unusedVariables false

def prtB (zs : List Int) (short : Bool) (x s : Int) : Bool := (decide (zs.length = 0) && (short || decide (x = s))) || zs.any (fun z => decide (z = x))
def timB (r : Rl) (n : Int) : Bool := prtB (r.Z 2) (decide (r.freq < 3)) (n / 3600) (r.start % 86400 / 3600) && prtB (r.Z 3) (decide (r.freq < 2)) (n % 3600 / 60) (r.start % 3600 / 60) && prtB (r.Z 4) (decide (r.freq < 1)) (n % 60) (r.start % 60)
theorem prt_mk (zs : List Int) (short : Bool) (x s : Int) (p q u d : Bool) (h1 : decide (zs.length = 0) = p) (h2 : short = q) (h3 : decide (x = s) = u) (h4 : zs.any (fun z => decide (z = x)) = d) : prtB zs short x s = ((p && (q || u)) || d) := by
  unfold prtB
  rw [h1, h2, h3, h4]
set_option maxHeartbeats 1600000 in
set_option maxRecDepth 20000 in
theorem rtime_any (r : Rl) (n : Int) (w : World) (hr : RlAt w r) (hin : RlIn r) (h1 : 0 ≤ r.start) (h2 : r.start < 12622780800) (y m d : Int) (hd : IsDate (r.start / 86400) y m d) (n1 : 0 ≤ n) (n2 : n < 86400) :
    Calls Tryd.prog 21 #[rlV r, .int .i64 n] w fun e w' => e = .returned (.bool (timB r n)) ∧ Below w.heap.size w w' := by
  obtain ⟨y1, y2⟩ := year_bd hd (by omega) (by omega)
  have hL := hin.2.2.2.2.2.1
  have KS := Lib.hid (fun W => rstp_yes r.start y m d _ _ _ W h1 h2 hd (by omega) (by omega) rfl rfl rfl)
  have KH := Lib.hid (fun j (hj : j < 5) x W (h : Ints .i64 W (r.A j) (r.Z j)) => rhas32_any x (r.A j) (r.c j) (r.Z j) W (hL j hj).2 h)

  have HG0 := Lib.hid (blk_new w (.cells (rlC r) 25))
  have HB0 := Lib.hid (show Below w.heap.size w (w.alloc (.cells (rlC r) 25)) from (Below.refl _ _).alloc (Nat.le_refl _) _)
  have HR0 := Lib.hid (hr.below HB0.out)
  have HT := Lib.hid (show timB r n = (prtB (r.Z 2) (decide (r.freq < 3)) (n / 3600) (r.start % 86400 / 3600) && prtB (r.Z 3) (decide (r.freq < 2)) (n % 3600 / 60) (r.start % 3600 / 60) && prtB (r.Z 4) (decide (r.freq < 1)) (n % 60) (r.start % 60)) from rfl)
  generalize timB r n = res at HT ⊢
  obtain ⟨hn, ehn⟩ : ∃ x, n / 3600 = x := ⟨_, rfl⟩
  obtain ⟨mn, emn⟩ : ∃ x, n % 3600 / 60 = x := ⟨_, rfl⟩
  obtain ⟨sn, esn⟩ : ∃ x, n % 60 = x := ⟨_, rfl⟩
  rw [ehn, emn, esn] at HT
  generalize r.start % 86400 / 3600 = hh at KS HT
  generalize r.start % 3600 / 60 = hm at KS HT
  generalize r.start % 60 = hs at KS HT
  obtain ⟨p0, hp0⟩ : ∃ b, decide ((r.Z 2).length = 0) = b := ⟨_, rfl⟩
  obtain ⟨q0, hq0⟩ : ∃ b, decide (r.freq < 3) = b := ⟨_, rfl⟩
  obtain ⟨u0, hu0⟩ : ∃ b, decide (hn = hh) = b := ⟨_, rfl⟩
  obtain ⟨d0, hd0⟩ : ∃ b, (r.Z 2).any (fun z => decide (z = hn)) = b := ⟨_, rfl⟩
  have HP0 := Lib.hid (prt_mk _ _ _ _ _ _ _ _ hp0 hq0 hu0 hd0)
  generalize prtB (r.Z 2) (decide (r.freq < 3)) hn hh = P0 at HT HP0
  have hp0n : (((r.Z 2).length : Int) == 0) = p0 := by rw [← hp0, Bool.eq_iff_iff]; simp
  have hp0m : ((r.Z 2).length == 0) = p0 := by rw [← hp0, Bool.eq_iff_iff]; simp
  have hu0n : (hn == hh) = u0 := by rw [← hu0]; rfl
  have KH0 := Lib.hid (fun W h => KH.out 2 (by decide) hn W h)
  rw [hd0] at KH0
  clear hp0 hu0 hd0
  obtain ⟨p1, hp1⟩ : ∃ b, decide ((r.Z 3).length = 0) = b := ⟨_, rfl⟩
  obtain ⟨q1, hq1⟩ : ∃ b, decide (r.freq < 2) = b := ⟨_, rfl⟩
  obtain ⟨u1, hu1⟩ : ∃ b, decide (mn = hm) = b := ⟨_, rfl⟩
  obtain ⟨d1, hd1⟩ : ∃ b, (r.Z 3).any (fun z => decide (z = mn)) = b := ⟨_, rfl⟩
  have HP1 := Lib.hid (prt_mk _ _ _ _ _ _ _ _ hp1 hq1 hu1 hd1)
  generalize prtB (r.Z 3) (decide (r.freq < 2)) mn hm = P1 at HT HP1
  have hp1n : (((r.Z 3).length : Int) == 0) = p1 := by rw [← hp1, Bool.eq_iff_iff]; simp
  have hp1m : ((r.Z 3).length == 0) = p1 := by rw [← hp1, Bool.eq_iff_iff]; simp
  have hu1n : (mn == hm) = u1 := by rw [← hu1]; rfl
  have KH1 := Lib.hid (fun W h => KH.out 3 (by decide) mn W h)
  rw [hd1] at KH1
  clear hp1 hu1 hd1
  obtain ⟨p2, hp2⟩ : ∃ b, decide ((r.Z 4).length = 0) = b := ⟨_, rfl⟩
  obtain ⟨q2, hq2⟩ : ∃ b, decide (r.freq < 1) = b := ⟨_, rfl⟩
  obtain ⟨u2, hu2⟩ : ∃ b, decide (sn = hs) = b := ⟨_, rfl⟩
  obtain ⟨d2, hd2⟩ : ∃ b, (r.Z 4).any (fun z => decide (z = sn)) = b := ⟨_, rfl⟩
  have HP2 := Lib.hid (prt_mk _ _ _ _ _ _ _ _ hp2 hq2 hu2 hd2)
  generalize prtB (r.Z 4) (decide (r.freq < 1)) sn hs = P2 at HT HP2
  have hp2n : (((r.Z 4).length : Int) == 0) = p2 := by rw [← hp2, Bool.eq_iff_iff]; simp
  have hp2m : ((r.Z 4).length == 0) = p2 := by rw [← hp2, Bool.eq_iff_iff]; simp
  have hu2n : (sn == hs) = u2 := by rw [← hu2]; rfl
  have KH2 := Lib.hid (fun W h => KH.out 4 (by decide) sn W h)
  rw [hd2] at KH2
  clear hp2 hu2 hd2
  obtain ⟨W0, hW0⟩ : ∃ W0, w.alloc (.cells (rlC r) 25) = W0 := ⟨_, rfl⟩
  rw [hW0] at HG0 HB0 HR0
  have x0 : W0.cell? ⟨w.heap.size, 0, none⟩ = some (.int .i64 r.start) := blk_cell HG0.out 0
  have HW := Lib.hid hW0
  unfold rlV rlC
  unfold rlC at HW
  clear hr hin hL KH hd h1 h2 y1 y2 hW0
  go_enter Tryd.func21, Tryd.ntmps21
  go_upto_region 1 with fail
  rw [HW.out]
  go_wp2_with fail
  refine (KS.out _).mono ?_
  rintro e w1 ⟨rfl, hb⟩
  have HB1 := Lib.hid ((HB0.out.trans (hb.mono HB0.out.size)).alloc (HB0.out.trans (hb.mono HB0.out.size)).size (.cells #[.int .i64 y, .int .i64 m, .int .i64 d, .int .i64 hh, .int .i64 hm, .int .i64 hs] 69))
  have HG1 := Lib.hid (blk_more ((hb.block _ (lt_of_block HG0.out)).trans HG0.out) (.cells #[.int .i64 y, .int .i64 m, .int .i64 d, .int .i64 hh, .int .i64 hm, .int .i64 hs] 69))
  have HS1 := Lib.hid (blk_new w1 (.cells #[.int .i64 y, .int .i64 m, .int .i64 d, .int .i64 hh, .int .i64 hm, .int .i64 hs] 69))
  have HR1 := Lib.hid ((HR0.out.below hb).below ((Below.refl _ _).alloc (Nat.le_refl _) (.cells #[.int .i64 y, .int .i64 m, .int .i64 d, .int .i64 hh, .int .i64 hm, .int .i64 hs] 69)))
  clear hb HG0 HB0 HR0 x0 HW
  go_upto_region 2 with (refine wpList_storeNew #[.int .i64 y, .int .i64 m, .int .i64 d, .int .i64 hh, .int .i64 hm, .int .i64 hs] rfl _ _ _ rfl rfl rfl (by kernel_rfl) rfl (by simp [Value.oneCell']) ?_)
  generalize w1.heap.size = g1 at *
  generalize w1.alloc (.cells #[.int .i64 y, .int .i64 m, .int .i64 d, .int .i64 hh, .int .i64 hm, .int .i64 hs] 69) = W2 at *
  have y1 : W2.cell? ⟨w.heap.size, 1, none⟩ = some (.int .i64 r.freq) := blk_cell HG1.out 1
  have y8 : W2.cell? ⟨w.heap.size, 8, none⟩ = some (.slice (r.A 2) (r.Z 2).length (r.c 2)) := blk_cell HG1.out 8
  have y9 : W2.cell? ⟨w.heap.size, 9, none⟩ = some (.slice (r.A 3) (r.Z 3).length (r.c 3)) := blk_cell HG1.out 9
  have y10 : W2.cell? ⟨w.heap.size, 10, none⟩ = some (.slice (r.A 4) (r.Z 4).length (r.c 4)) := blk_cell HG1.out 10
  have z3 : W2.cell? ⟨g1, 3, none⟩ = some (.int .i64 hh) := blk_cell HS1.out 3
  have z4 : W2.cell? ⟨g1, 4, none⟩ = some (.int .i64 hm) := blk_cell HS1.out 4
  have z5 : W2.cell? ⟨g1, 5, none⟩ = some (.int .i64 hs) := blk_cell HS1.out 5
  clear HG1 HS1 KS
  go_upto_region 3 with fail
  simp only [ehn, emn, esn]
  clear ehn emn esn
  go_cut [9] (fun s9 wx => s9 = .bool P0 ∧ W2 = wx)
  case first =>
    cases p0
    · go_wp2_with fail
      refine (KH0.out _ (HR1.out.ints 2 (by decide))).mono ?_
      rintro e w3 ⟨rfl, rfl⟩
      go_wp2_with fail
      go_meet
      exact ⟨by rw [HP0.out]; cases d0 <;> rfl, rfl⟩
    · cases q0
      · cases u0
        · go_wp2_with fail
          refine (KH0.out _ (HR1.out.ints 2 (by decide))).mono ?_
          rintro e w3 ⟨rfl, rfl⟩
          go_wp2_with fail
          go_meet
          exact ⟨by rw [HP0.out]; cases d0 <;> rfl, rfl⟩
        · go_wp2_with fail
          go_meet
          exact ⟨by rw [HP0.out]; rfl, rfl⟩
      · go_wp2_with fail
        go_meet
        exact ⟨by rw [HP0.out]; rfl, rfl⟩
  case rest =>
  obtain ⟨rfl, rfl⟩ := hcut
  clear HP0 KH0 hp0n hp0m hq0 hu0n
  go_upto_region 4 with fail
  go_cut [10] (fun s10 wx => s10 = .bool P1 ∧ W2 = wx)
  case first =>
    cases p1
    · go_wp2_with fail
      refine (KH1.out _ (HR1.out.ints 3 (by decide))).mono ?_
      rintro e w3 ⟨rfl, rfl⟩
      go_wp2_with fail
      go_meet
      exact ⟨by rw [HP1.out]; cases d1 <;> rfl, rfl⟩
    · cases q1
      · cases u1
        · go_wp2_with fail
          refine (KH1.out _ (HR1.out.ints 3 (by decide))).mono ?_
          rintro e w3 ⟨rfl, rfl⟩
          go_wp2_with fail
          go_meet
          exact ⟨by rw [HP1.out]; cases d1 <;> rfl, rfl⟩
        · go_wp2_with fail
          go_meet
          exact ⟨by rw [HP1.out]; rfl, rfl⟩
      · go_wp2_with fail
        go_meet
        exact ⟨by rw [HP1.out]; rfl, rfl⟩
  case rest =>
  obtain ⟨rfl, rfl⟩ := hcut
  clear HP1 KH1 hp1n hp1m hq1 hu1n
  go_upto_region 5 with fail
  cases P0
  case false =>
    go_wp2_with fail
    go_ret
    exact ⟨by rw [HT.out]; rfl, HB1.out⟩
  case true =>
  cases P1
  case false =>
    go_wp2_with fail
    go_ret
    exact ⟨by rw [HT.out]; rfl, HB1.out⟩
  case true =>
  cases p2
  case false =>
    go_wp2_with fail
    refine (KH2.out _ (HR1.out.ints 4 (by decide))).mono ?_
    rintro e w3 ⟨rfl, rfl⟩
    go_wp2_with fail
    go_ret
    exact ⟨by rw [HT.out, HP2.out]; cases d2 <;> rfl, HB1.out⟩
  case true =>
  cases q2
  case true =>
    go_wp2_with fail
    go_ret
    exact ⟨by rw [HT.out, HP2.out]; rfl, HB1.out⟩
  case false =>
  cases u2
  case true =>
    go_wp2_with fail
    go_ret
    exact ⟨by rw [HT.out, HP2.out]; rfl, HB1.out⟩
  case false =>
    go_wp2_with fail
    refine (KH2.out _ (HR1.out.ints 4 (by decide))).mono ?_
    rintro e w3 ⟨rfl, rfl⟩
    go_wp2_with fail
    go_ret
    exact ⟨by rw [HT.out, HP2.out]; cases d2 <;> rfl, HB1.out⟩
end Go.Proofs.YtigbbepgfofcoaaDoor
