/- The walk of CalChecks (layer 28). -/
import Derived.Test.YtjgifiaokmmjfaaDoorWalk28
namespace Go.Proofs.YtjgifiaokmmjfaaDoor
open Go.RowKit
set_option linter.unusedVariables false

set_option maxHeartbeats 3200000 in
set_option maxRecDepth 20000 in
theorem calChecks_in (bk : Bool) (A : Nat → Option Addr) (c : Nat → Nat) (L : Nat → List Q4) (w : World) (hL : Lists 7 w A c L) (hl : ∀ f, f < 7 → (L f).length ≤ 500) (hT : TabCl w) :
    Calls Tryd.prog 5 #[vCl bk A c L] w fun e w' => e = .returned (.bool true) ∧ Below w.heap.size w w' := by
  have hg0 := blk_new w (.cells #[.slice (A 0) (L 0).length (c 0), .slice (A 1) (L 1).length (c 1), .slice (A 2) (L 2).length (c 2), .slice (A 3) (L 3).length (c 3), .bool bk, .slice (A 4) (L 4).length (c 4), .slice (A 5) (L 5).length (c 5), .slice (A 6) (L 6).length (c 6)] 40)
  have HB0 := Lib.hid (show Below w.heap.size w (w.alloc (.cells #[.slice (A 0) (L 0).length (c 0), .slice (A 1) (L 1).length (c 1), .slice (A 2) (L 2).length (c 2), .slice (A 3) (L 3).length (c 3), .bool bk, .slice (A 4) (L 4).length (c 4), .slice (A 5) (L 5).length (c 5), .slice (A 6) (L 6).length (c 6)] 40)) from (Below.refl _ _).alloc (Nat.le_refl _) _)
  have HL := Lib.hid hL
  have HT := Lib.hid hT
  have HG0 := Lib.hid hg0
  have HLen := Lib.hid (show ∀ f, f < 7 → (L f).length ≤ 1000000 from fun f hf => by have := hl f hf; omega)
  have K1 := fun W => greatCl_no bk A c L W hl
  unfold vCl at K1
  have K2 := Lib.hid (fun W hW hTW => checkCl_all bk A c L W hW HLen.out hTW)
  have K3 := Lib.hid (fun W hW => rcheckCl_all bk A c L W hW)
  generalize (chkGo (fun f => chkCl f (L f)) 0 7).1 = r1 at K2 K3
  generalize (chkGo (fun f => chkCl f (L f)) 0 7).2 = r2 at K2 K3
  clear hL hT hl hg0
  unfold vCl at K2 K3 ⊢
  go_enter Tryd.func5, Tryd.ntmps5
  go_wp2_with fail
  refine (K1 _).mono ?_
  rintro e w1 ⟨rfl, hb1⟩
  have HB1 := Lib.hid (HB0.out.trans (hb1.mono HB0.out.size))
  have hg1 := (hb1.block _ (lt_of_block HG0.out)).trans HG0.out
  have HG1 := Lib.hid hg1
  have x0 : w1.cell? ⟨w.heap.size, 0, none⟩ = some (.slice (A 0) (L 0).length (c 0)) := blk_cell hg1 0
  have x1 : w1.cell? ⟨w.heap.size, 1, none⟩ = some (.slice (A 1) (L 1).length (c 1)) := blk_cell hg1 1
  have x2 : w1.cell? ⟨w.heap.size, 2, none⟩ = some (.slice (A 2) (L 2).length (c 2)) := blk_cell hg1 2
  have x3 : w1.cell? ⟨w.heap.size, 3, none⟩ = some (.slice (A 3) (L 3).length (c 3)) := blk_cell hg1 3
  have x4 : w1.cell? ⟨w.heap.size, 4, none⟩ = some (.bool bk) := blk_cell hg1 4
  have x5 : w1.cell? ⟨w.heap.size, 5, none⟩ = some (.slice (A 4) (L 4).length (c 4)) := blk_cell hg1 5
  have x6 : w1.cell? ⟨w.heap.size, 6, none⟩ = some (.slice (A 5) (L 5).length (c 5)) := blk_cell hg1 6
  have x7 : w1.cell? ⟨w.heap.size, 7, none⟩ = some (.slice (A 6) (L 6).length (c 6)) := blk_cell hg1 7
  have K4 := K2.out w1 (HL.out.below HB1.out) (HT.out.below HB1.out)
  clear K1 hb1 hg1
  go_wp2_with fail
  refine K4.mono ?_
  rintro e w2 ⟨rfl, hb2⟩
  have HB2 := Lib.hid (HB1.out.trans (hb2.mono HB1.out.size))
  have hg2 := (hb2.block _ (lt_of_block HG1.out)).trans HG1.out
  have y0 : w2.cell? ⟨w.heap.size, 0, none⟩ = some (.slice (A 0) (L 0).length (c 0)) := blk_cell hg2 0
  have y1 : w2.cell? ⟨w.heap.size, 1, none⟩ = some (.slice (A 1) (L 1).length (c 1)) := blk_cell hg2 1
  have y2 : w2.cell? ⟨w.heap.size, 2, none⟩ = some (.slice (A 2) (L 2).length (c 2)) := blk_cell hg2 2
  have y3 : w2.cell? ⟨w.heap.size, 3, none⟩ = some (.slice (A 3) (L 3).length (c 3)) := blk_cell hg2 3
  have y4 : w2.cell? ⟨w.heap.size, 4, none⟩ = some (.bool bk) := blk_cell hg2 4
  have y5 : w2.cell? ⟨w.heap.size, 5, none⟩ = some (.slice (A 4) (L 4).length (c 4)) := blk_cell hg2 5
  have y6 : w2.cell? ⟨w.heap.size, 6, none⟩ = some (.slice (A 5) (L 5).length (c 5)) := blk_cell hg2 6
  have y7 : w2.cell? ⟨w.heap.size, 7, none⟩ = some (.slice (A 6) (L 6).length (c 6)) := blk_cell hg2 7
  have K5 := K3.out w2 (HL.out.below HB2.out)
  clear K4 hb2 hg2 x0 x1 x2 x3 x4 x5 x6 x7
  go_wp2_with fail
  refine K5.mono ?_
  rintro e w3 ⟨rfl, hb3⟩
  have HB3 := Lib.hid (HB2.out.trans (hb3.mono HB2.out.size))
  have d1 : (r1 == r1) = true := by rw [beq_iff_eq]
  have d2 : (r2 == r2) = true := by rw [beq_iff_eq]
  have K6 := lives28_any w3 (HT.out.below HB3.out)
  clear K5 hb3 y0 y1 y2 y3 y4 y5 y6 y7
  go_wp2_with fail
  refine K6.mono ?_
  rintro e w4 ⟨rfl, hb4⟩
  go_wp2
  go_ret
  exact ⟨rfl, HB3.out.trans (hb4.mono HB3.out.size)⟩
set_option maxHeartbeats 1600000 in
theorem calChecks_out (bk : Bool) (A : Nat → Option Addr) (c : Nat → Nat) (L : Nat → List Q4) (w : World) (f0 : Nat) (hf0 : f0 < 7) (h : 500 < (L f0).length) (hT : TabCl w) :
    Calls Tryd.prog 5 #[vCl bk A c L] w fun e w' => e = .returned (.bool true) ∧ Below w.heap.size w w' := by
  have HB0 := Lib.hid (show Below w.heap.size w (w.alloc (.cells #[.slice (A 0) (L 0).length (c 0), .slice (A 1) (L 1).length (c 1), .slice (A 2) (L 2).length (c 2), .slice (A 3) (L 3).length (c 3), .bool bk, .slice (A 4) (L 4).length (c 4), .slice (A 5) (L 5).length (c 5), .slice (A 6) (L 6).length (c 6)] 40)) from (Below.refl _ _).alloc (Nat.le_refl _) _)
  have HT := Lib.hid hT
  have K1 := fun W => greatCl_yes bk A c L W f0 hf0 h
  clear hT h
  unfold vCl at K1 ⊢
  go_enter Tryd.func5, Tryd.ntmps5
  go_wp2_with fail
  refine (K1 _).mono ?_
  rintro e w1 ⟨rfl, hb1⟩
  have HB1 := Lib.hid (HB0.out.trans (hb1.mono HB0.out.size))
  have K6 := lives28_any w1 (HT.out.below HB1.out)
  clear K1 hb1
  go_wp2_with fail
  refine K6.mono ?_
  rintro e w4 ⟨rfl, hb4⟩
  go_wp2
  go_ret
  exact ⟨rfl, HB1.out.trans (hb4.mono HB1.out.size)⟩
theorem calChecks_walk (bk : Bool) (A : Nat → Option Addr) (c : Nat → Nat) (L : Nat → List Q4) (w : World) (hL : Lists 7 w A c L) (hT : TabCl w) :
    Calls Tryd.prog 5 #[vCl bk A c L] w fun e w' => e = .returned (.bool true) ∧ Below w.heap.size w w' := by
  by_cases h : ∃ f0, f0 < 7 ∧ 500 < (L f0).length
  · obtain ⟨f0, h1, h2⟩ := h
    exact calChecks_out bk A c L w f0 h1 h2 hT
  · refine calChecks_in bk A c L w hL (fun f hf => ?_) hT
    rcases Nat.lt_or_ge 500 (L f).length with g | g
    · exact absurd ⟨f, hf, g⟩ h
    · exact g
end Go.Proofs.YtjgifiaokmmjfaaDoor
