/- The walk of CronChecks (layer 24). -/
import Derived.Test.YtjgifiaokmmjfaaDoorWalk24
namespace Go.Proofs.YtjgifiaokmmjfaaDoor
open Go.RowKit
set_option linter.unusedVariables false

set_option maxHeartbeats 3200000 in
set_option maxRecDepth 20000 in
theorem cronChecks_in (A : Nat → Option Addr) (c : Nat → Nat) (L : Nat → List Q4) (w : World) (hL : Lists 5 w A c L) (hl : ∀ f, f < 5 → (L f).length ≤ 200) (hT : TabCr w) :
    Calls Tryd.prog 3 #[vCr A c L] w fun e w' => e = .returned (.bool true) ∧ Below w.heap.size w w' := by
  have hg0 := blk_new w (.cells #[.slice (A 0) (L 0).length (c 0), .slice (A 1) (L 1).length (c 1), .slice (A 2) (L 2).length (c 2), .slice (A 3) (L 3).length (c 3), .slice (A 4) (L 4).length (c 4)] 24)
  have HB0 := Lib.hid (show Below w.heap.size w (w.alloc (.cells #[.slice (A 0) (L 0).length (c 0), .slice (A 1) (L 1).length (c 1), .slice (A 2) (L 2).length (c 2), .slice (A 3) (L 3).length (c 3), .slice (A 4) (L 4).length (c 4)] 24)) from (Below.refl _ _).alloc (Nat.le_refl _) _)
  have HL := Lib.hid hL
  have HT := Lib.hid hT
  have HG0 := Lib.hid hg0
  have HLen := Lib.hid (show ∀ f, f < 5 → (L f).length ≤ 1000000 from fun f hf => by have := hl f hf; omega)
  have K1 := fun W => greatCr_no A c L W hl
  unfold vCr at K1
  have K2 := Lib.hid (fun W hW hTW => checkCr_all A c L W hW HLen.out hTW)
  have K3 := Lib.hid (fun W hW => rcheckCr_all A c L W hW)
  generalize (chkGo (fun f => chkCr f (L f)) 0 5).1 = r1 at K2 K3
  generalize (chkGo (fun f => chkCr f (L f)) 0 5).2 = r2 at K2 K3
  clear hL hT hl hg0
  unfold vCr at K2 K3 ⊢
  go_enter Tryd.func3, Tryd.ntmps3
  go_wp2_with fail
  refine (K1 _).mono ?_
  rintro e w1 ⟨rfl, hb1⟩
  have HB1 := Lib.hid (HB0.out.trans (hb1.mono HB0.out.size))
  have hg1 := (hb1.block _ (lt_of_block HG0.out)).trans HG0.out
  have HG1 := Lib.hid hg1
  have x0 : w1.cell? ⟨w.heap.size, 0, none⟩ = some (.slice (A 0) (L 0).length (c 0)) := blk_cell hg1 0
  have x1 : w1.cell? ⟨w.heap.size, 1, none⟩ = some (.slice (A 1) (L 1).length (c 1)) := blk_cell hg1 1
  have x2 : w1.cell? ⟨w.heap.size, 2, none⟩ = some (.slice (A 2) (L 2).length (c 2)) := blk_cell hg1 2
  have x3 : w1.cell? ⟨w.heap.size, 3, none⟩ = some (.slice (A 3) (L 3).length (c 3)) := blk_cell hg1 3
  have x4 : w1.cell? ⟨w.heap.size, 4, none⟩ = some (.slice (A 4) (L 4).length (c 4)) := blk_cell hg1 4
  have K4 := K2.out w1 (HL.out.below HB1.out) (HT.out.below HB1.out)
  clear K1 hb1 hg1
  go_wp2_with fail
  refine K4.mono ?_
  rintro e w2 ⟨rfl, hb2⟩
  have HB2 := Lib.hid (HB1.out.trans (hb2.mono HB1.out.size))
  have hg2 := (hb2.block _ (lt_of_block HG1.out)).trans HG1.out
  have y0 : w2.cell? ⟨w.heap.size, 0, none⟩ = some (.slice (A 0) (L 0).length (c 0)) := blk_cell hg2 0
  have y1 : w2.cell? ⟨w.heap.size, 1, none⟩ = some (.slice (A 1) (L 1).length (c 1)) := blk_cell hg2 1
  have y2 : w2.cell? ⟨w.heap.size, 2, none⟩ = some (.slice (A 2) (L 2).length (c 2)) := blk_cell hg2 2
  have y3 : w2.cell? ⟨w.heap.size, 3, none⟩ = some (.slice (A 3) (L 3).length (c 3)) := blk_cell hg2 3
  have y4 : w2.cell? ⟨w.heap.size, 4, none⟩ = some (.slice (A 4) (L 4).length (c 4)) := blk_cell hg2 4
  have K5 := K3.out w2 (HL.out.below HB2.out)
  clear K4 hb2 hg2 x0 x1 x2 x3 x4
  go_wp2_with fail
  refine K5.mono ?_
  rintro e w3 ⟨rfl, hb3⟩
  have HB3 := Lib.hid (HB2.out.trans (hb3.mono HB2.out.size))
  have d1 : (r1 == r1) = true := by rw [beq_iff_eq]
  have d2 : (r2 == r2) = true := by rw [beq_iff_eq]
  have K6 := lives24_any w3 (HT.out.below HB3.out)
  clear K5 hb3 y0 y1 y2 y3 y4
  go_wp2_with fail
  refine K6.mono ?_
  rintro e w4 ⟨rfl, hb4⟩
  go_wp2
  go_ret
  exact ⟨rfl, HB3.out.trans (hb4.mono HB3.out.size)⟩
set_option maxHeartbeats 1600000 in
theorem cronChecks_out (A : Nat → Option Addr) (c : Nat → Nat) (L : Nat → List Q4) (w : World) (f0 : Nat) (hf0 : f0 < 5) (h : 200 < (L f0).length) (hT : TabCr w) :
    Calls Tryd.prog 3 #[vCr A c L] w fun e w' => e = .returned (.bool true) ∧ Below w.heap.size w w' := by
  have HB0 := Lib.hid (show Below w.heap.size w (w.alloc (.cells #[.slice (A 0) (L 0).length (c 0), .slice (A 1) (L 1).length (c 1), .slice (A 2) (L 2).length (c 2), .slice (A 3) (L 3).length (c 3), .slice (A 4) (L 4).length (c 4)] 24)) from (Below.refl _ _).alloc (Nat.le_refl _) _)
  have HT := Lib.hid hT
  have K1 := fun W => greatCr_yes A c L W f0 hf0 h
  clear hT h
  unfold vCr at K1 ⊢
  go_enter Tryd.func3, Tryd.ntmps3
  go_wp2_with fail
  refine (K1 _).mono ?_
  rintro e w1 ⟨rfl, hb1⟩
  have HB1 := Lib.hid (HB0.out.trans (hb1.mono HB0.out.size))
  have K6 := lives24_any w1 (HT.out.below HB1.out)
  clear K1 hb1
  go_wp2_with fail
  refine K6.mono ?_
  rintro e w4 ⟨rfl, hb4⟩
  go_wp2
  go_ret
  exact ⟨rfl, HB1.out.trans (hb4.mono HB1.out.size)⟩
theorem cronChecks_walk (A : Nat → Option Addr) (c : Nat → Nat) (L : Nat → List Q4) (w : World) (hL : Lists 5 w A c L) (hT : TabCr w) :
    Calls Tryd.prog 3 #[vCr A c L] w fun e w' => e = .returned (.bool true) ∧ Below w.heap.size w w' := by
  by_cases h : ∃ f0, f0 < 5 ∧ 200 < (L f0).length
  · obtain ⟨f0, h1, h2⟩ := h
    exact cronChecks_out A c L w f0 h1 h2 hT
  · refine cronChecks_in A c L w hL (fun f hf => ?_) hT
    rcases Nat.lt_or_ge 200 (L f).length with g | g
    · exact absurd ⟨f, hf, g⟩ h
    · exact g
end Go.Proofs.YtjgifiaokmmjfaaDoor
