/- The walk of CronshowShows (layer 26). -/
import Derived.Test.YtahlegempjlbbaaDoorCsF
import Derived.Test.YtahlegempjlbbaaDoorWalk26
import Derived.Test.YtahlegempjlbbaaDoorCsO
namespace Go.Proofs.YtahlegempjlbbaaDoor
open Go.RowKit
set_option linter.unusedVariables false

set_option maxHeartbeats 3200000 in
set_option maxRecDepth 20000 in
theorem cronshowShows_out (A : Nat → Option Addr) (c : Nat → Nat) (L : Nat → List Q4) (w : World) (hL : Lists 5 w A c L) (f0 : Nat) (hf0 : f0 < 5) (h : 200 < (L f0).length) (hT : TabCr w) (hP : TabP w) :
    Calls Tryd.prog 3 #[vCr A c L] w fun e w' => e = .returned (.bool true) ∧ Below w.heap.size w w' := by
  have HG0 := Lib.hid (blk_new w (.cells #[.slice (A 0) (L 0).length (c 0), .slice (A 1) (L 1).length (c 1), .slice (A 2) (L 2).length (c 2), .slice (A 3) (L 3).length (c 3), .slice (A 4) (L 4).length (c 4)] 24))
  have HB0 := Lib.hid (show Below w.heap.size w (w.alloc (.cells #[.slice (A 0) (L 0).length (c 0), .slice (A 1) (L 1).length (c 1), .slice (A 2) (L 2).length (c 2), .slice (A 3) (L 3).length (c 3), .slice (A 4) (L 4).length (c 4)] 24)) from (Below.refl _ _).alloc (Nat.le_refl _) _)
  have K1 := greatCr_yes A c L (w.alloc (.cells #[.slice (A 0) (L 0).length (c 0), .slice (A 1) (L 1).length (c 1), .slice (A 2) (L 2).length (c 2), .slice (A 3) (L 3).length (c 3), .slice (A 4) (L 4).length (c 4)] 24)) f0 hf0 h
  have KL := Lib.hid (fun W hW => lives26_any W hW)
  have HP := Lib.hid hP
  have x0 : (w.alloc (.cells #[.slice (A 0) (L 0).length (c 0), .slice (A 1) (L 1).length (c 1), .slice (A 2) (L 2).length (c 2), .slice (A 3) (L 3).length (c 3), .slice (A 4) (L 4).length (c 4)] 24)).cell? ⟨w.heap.size, 0, none⟩ = some (.slice (A 0) (L 0).length (c 0)) := blk_cell HG0.out 0
  have x1 : (w.alloc (.cells #[.slice (A 0) (L 0).length (c 0), .slice (A 1) (L 1).length (c 1), .slice (A 2) (L 2).length (c 2), .slice (A 3) (L 3).length (c 3), .slice (A 4) (L 4).length (c 4)] 24)).cell? ⟨w.heap.size, 1, none⟩ = some (.slice (A 1) (L 1).length (c 1)) := blk_cell HG0.out 1
  have x2 : (w.alloc (.cells #[.slice (A 0) (L 0).length (c 0), .slice (A 1) (L 1).length (c 1), .slice (A 2) (L 2).length (c 2), .slice (A 3) (L 3).length (c 3), .slice (A 4) (L 4).length (c 4)] 24)).cell? ⟨w.heap.size, 2, none⟩ = some (.slice (A 2) (L 2).length (c 2)) := blk_cell HG0.out 2
  have x3 : (w.alloc (.cells #[.slice (A 0) (L 0).length (c 0), .slice (A 1) (L 1).length (c 1), .slice (A 2) (L 2).length (c 2), .slice (A 3) (L 3).length (c 3), .slice (A 4) (L 4).length (c 4)] 24)).cell? ⟨w.heap.size, 3, none⟩ = some (.slice (A 3) (L 3).length (c 3)) := blk_cell HG0.out 3
  have x4 : (w.alloc (.cells #[.slice (A 0) (L 0).length (c 0), .slice (A 1) (L 1).length (c 1), .slice (A 2) (L 2).length (c 2), .slice (A 3) (L 3).length (c 3), .slice (A 4) (L 4).length (c 4)] 24)).cell? ⟨w.heap.size, 4, none⟩ = some (.slice (A 4) (L 4).length (c 4)) := blk_cell HG0.out 4
  unfold vCr at K1 ⊢
  clear hL hT hP h hf0
  go_enter Tryd.func3, Tryd.ntmps3
  go_wp2_with fail
  refine K1.mono ?_
  rintro e w1 ⟨rfl, hb1⟩
  have HB1 := Lib.hid (HB0.out.trans (hb1.mono HB0.out.size))
  have HG1 := Lib.hid ((hb1.block _ (lt_of_block HG0.out)).trans HG0.out)
  have K2 := KL.out w1 (HP.out.bel HB1.out)
  clear hb1 K1
  go_wp2_with fail
  refine K2.mono ?_
  rintro e w2 ⟨rfl, hb2⟩
  have HB2 := Lib.hid (HB1.out.trans (hb2.mono HB1.out.size))
  have HG2 := Lib.hid ((hb2.block _ (lt_of_block HG1.out)).trans HG1.out)
  clear hb2 K2
  go_wp2
  go_ret
  exact ⟨rfl, HB2.out⟩
set_option maxHeartbeats 3200000 in
set_option maxRecDepth 20000 in
theorem cronshowShows_no (A : Nat → Option Addr) (c : Nat → Nat) (L : Nat → List Q4) (w : World) (hL : Lists 5 w A c L) (hl : ∀ f, f < 5 → (L f).length ≤ 200) (hin : ∀ f, f < 5 → ∀ k, k < (L f).length → Q4In (nthQ (L f) k)) (hr : (chkGo (fun f => chkCr f (L f)) 0 5).2 ≠ 0) (hT : TabCr w) (hP : TabP w) :
    Calls Tryd.prog 3 #[vCr A c L] w fun e w' => e = .returned (.bool true) ∧ Below w.heap.size w w' := by
  have HG0 := Lib.hid (blk_new w (.cells #[.slice (A 0) (L 0).length (c 0), .slice (A 1) (L 1).length (c 1), .slice (A 2) (L 2).length (c 2), .slice (A 3) (L 3).length (c 3), .slice (A 4) (L 4).length (c 4)] 24))
  have HB0 := Lib.hid (show Below w.heap.size w (w.alloc (.cells #[.slice (A 0) (L 0).length (c 0), .slice (A 1) (L 1).length (c 1), .slice (A 2) (L 2).length (c 2), .slice (A 3) (L 3).length (c 3), .slice (A 4) (L 4).length (c 4)] 24)) from (Below.refl _ _).alloc (Nat.le_refl _) _)
  have hl2 : ∀ f, f < 5 → (L f).length ≤ 1000 := fun f hf => by have := hl f hf; omega
  have K1 := greatCr_no A c L (w.alloc (.cells #[.slice (A 0) (L 0).length (c 0), .slice (A 1) (L 1).length (c 1), .slice (A 2) (L 2).length (c 2), .slice (A 3) (L 3).length (c 3), .slice (A 4) (L 4).length (c 4)] 24)) hl
  have KL := Lib.hid (fun W hW => lives26_any W hW)
  have HP := Lib.hid hP
  have HT := Lib.hid hT
  have HL := Lib.hid hL
  have KC := Lib.hid (fun W hW => rcheckCr_all A c L W hW)
  have KS := Lib.hid (fun W h1 h2 => cshow_no A c L W h1 hl2 h2 hr)
  generalize (chkGo (fun f => chkCr f (L f)) 0 5).1 = r1 at KC
  generalize (chkGo (fun f => chkCr f (L f)) 0 5).2 = r2 at KC KS hr
  have e1 : (r2 != 0) = true := by simp [hr]
  have e2 : (r2 == 0) = false := by rw [beq_eq_false_iff_ne]; exact hr
  have e3 : (r2 == r2) = true := by rw [beq_iff_eq]
  have x0 : (w.alloc (.cells #[.slice (A 0) (L 0).length (c 0), .slice (A 1) (L 1).length (c 1), .slice (A 2) (L 2).length (c 2), .slice (A 3) (L 3).length (c 3), .slice (A 4) (L 4).length (c 4)] 24)).cell? ⟨w.heap.size, 0, none⟩ = some (.slice (A 0) (L 0).length (c 0)) := blk_cell HG0.out 0
  have x1 : (w.alloc (.cells #[.slice (A 0) (L 0).length (c 0), .slice (A 1) (L 1).length (c 1), .slice (A 2) (L 2).length (c 2), .slice (A 3) (L 3).length (c 3), .slice (A 4) (L 4).length (c 4)] 24)).cell? ⟨w.heap.size, 1, none⟩ = some (.slice (A 1) (L 1).length (c 1)) := blk_cell HG0.out 1
  have x2 : (w.alloc (.cells #[.slice (A 0) (L 0).length (c 0), .slice (A 1) (L 1).length (c 1), .slice (A 2) (L 2).length (c 2), .slice (A 3) (L 3).length (c 3), .slice (A 4) (L 4).length (c 4)] 24)).cell? ⟨w.heap.size, 2, none⟩ = some (.slice (A 2) (L 2).length (c 2)) := blk_cell HG0.out 2
  have x3 : (w.alloc (.cells #[.slice (A 0) (L 0).length (c 0), .slice (A 1) (L 1).length (c 1), .slice (A 2) (L 2).length (c 2), .slice (A 3) (L 3).length (c 3), .slice (A 4) (L 4).length (c 4)] 24)).cell? ⟨w.heap.size, 3, none⟩ = some (.slice (A 3) (L 3).length (c 3)) := blk_cell HG0.out 3
  have x4 : (w.alloc (.cells #[.slice (A 0) (L 0).length (c 0), .slice (A 1) (L 1).length (c 1), .slice (A 2) (L 2).length (c 2), .slice (A 3) (L 3).length (c 3), .slice (A 4) (L 4).length (c 4)] 24)).cell? ⟨w.heap.size, 4, none⟩ = some (.slice (A 4) (L 4).length (c 4)) := blk_cell HG0.out 4
  unfold vCr at K1 KS KC ⊢
  clear hL hT hP hl hl2 hin hr
  go_enter Tryd.func3, Tryd.ntmps3
  go_wp2_with fail
  refine K1.mono ?_
  rintro e w1 ⟨rfl, hb1⟩
  have HB1 := Lib.hid (HB0.out.trans (hb1.mono HB0.out.size))
  have HG1 := Lib.hid ((hb1.block _ (lt_of_block HG0.out)).trans HG0.out)
  have y0 : w1.cell? ⟨w.heap.size, 0, none⟩ = some (.slice (A 0) (L 0).length (c 0)) := blk_cell HG1.out 0
  have y1 : w1.cell? ⟨w.heap.size, 1, none⟩ = some (.slice (A 1) (L 1).length (c 1)) := blk_cell HG1.out 1
  have y2 : w1.cell? ⟨w.heap.size, 2, none⟩ = some (.slice (A 2) (L 2).length (c 2)) := blk_cell HG1.out 2
  have y3 : w1.cell? ⟨w.heap.size, 3, none⟩ = some (.slice (A 3) (L 3).length (c 3)) := blk_cell HG1.out 3
  have y4 : w1.cell? ⟨w.heap.size, 4, none⟩ = some (.slice (A 4) (L 4).length (c 4)) := blk_cell HG1.out 4
  have K2 := KS.out w1 (HL.out.below HB1.out) (HT.out.below HB1.out)
  clear hb1 K1 x0 x1 x2 x3 x4
  go_wp2_with fail
  refine K2.mono ?_
  rintro e w2 ⟨rfl, hb2⟩
  have HB2 := Lib.hid (HB1.out.trans (hb2.mono HB1.out.size))
  have HG2 := Lib.hid ((hb2.block _ (lt_of_block HG1.out)).trans HG1.out)
  have z0 : w2.cell? ⟨w.heap.size, 0, none⟩ = some (.slice (A 0) (L 0).length (c 0)) := blk_cell HG2.out 0
  have z1 : w2.cell? ⟨w.heap.size, 1, none⟩ = some (.slice (A 1) (L 1).length (c 1)) := blk_cell HG2.out 1
  have z2 : w2.cell? ⟨w.heap.size, 2, none⟩ = some (.slice (A 2) (L 2).length (c 2)) := blk_cell HG2.out 2
  have z3 : w2.cell? ⟨w.heap.size, 3, none⟩ = some (.slice (A 3) (L 3).length (c 3)) := blk_cell HG2.out 3
  have z4 : w2.cell? ⟨w.heap.size, 4, none⟩ = some (.slice (A 4) (L 4).length (c 4)) := blk_cell HG2.out 4
  have K3 := KC.out w2 (HL.out.below HB2.out)
  clear hb2 K2 y0 y1 y2 y3 y4
  go_wp2_with fail
  refine K3.mono ?_
  rintro e w3 ⟨rfl, hb3⟩
  have HB3 := Lib.hid (HB2.out.trans (hb3.mono HB2.out.size))
  have HG3 := Lib.hid ((hb3.block _ (lt_of_block HG2.out)).trans HG2.out)
  have K4 := KL.out w3 (HP.out.bel HB3.out)
  clear hb3 K3 z0 z1 z2 z3 z4
  go_wp2_with fail
  refine K4.mono ?_
  rintro e w4 ⟨rfl, hb4⟩
  have HB4 := Lib.hid (HB3.out.trans (hb4.mono HB3.out.size))
  have HG4 := Lib.hid ((hb4.block _ (lt_of_block HG3.out)).trans HG3.out)
  clear hb4 K4
  go_wp2
  go_ret
  exact ⟨rfl, HB4.out⟩
set_option maxHeartbeats 3200000 in
set_option maxRecDepth 20000 in
theorem cronshowShows_ok (A : Nat → Option Addr) (c : Nat → Nat) (L : Nat → List Q4) (w : World) (hL : Lists 5 w A c L) (hl : ∀ f, f < 5 → (L f).length ≤ 200) (hin : ∀ f, f < 5 → ∀ k, k < (L f).length → Q4In (nthQ (L f) k)) (hr : (chkGo (fun f => chkCr f (L f)) 0 5).2 = 0) (hT : TabCr w) (hP : TabP w) :
    Calls Tryd.prog 3 #[vCr A c L] w fun e w' => e = .returned (.bool true) ∧ Below w.heap.size w w' := by
  have HG0 := Lib.hid (blk_new w (.cells #[.slice (A 0) (L 0).length (c 0), .slice (A 1) (L 1).length (c 1), .slice (A 2) (L 2).length (c 2), .slice (A 3) (L 3).length (c 3), .slice (A 4) (L 4).length (c 4)] 24))
  have HB0 := Lib.hid (show Below w.heap.size w (w.alloc (.cells #[.slice (A 0) (L 0).length (c 0), .slice (A 1) (L 1).length (c 1), .slice (A 2) (L 2).length (c 2), .slice (A 3) (L 3).length (c 3), .slice (A 4) (L 4).length (c 4)] 24)) from (Below.refl _ _).alloc (Nat.le_refl _) _)
  have hl2 : ∀ f, f < 5 → (L f).length ≤ 1000 := fun f hf => by have := hl f hf; omega
  have K1 := greatCr_no A c L (w.alloc (.cells #[.slice (A 0) (L 0).length (c 0), .slice (A 1) (L 1).length (c 1), .slice (A 2) (L 2).length (c 2), .slice (A 3) (L 3).length (c 3), .slice (A 4) (L 4).length (c 4)] 24)) hl
  have KL := Lib.hid (fun W hW => lives26_any W hW)
  have HP := Lib.hid hP
  have HT := Lib.hid hT
  have HL := Lib.hid hL
  have KC := Lib.hid (fun W hW => rcheckCr_all A c L W hW)
  have KS := Lib.hid (fun W h1 h2 h3 => cshow_ok A c L W h1 hl2 hin h2 h3 hr)
  have KR := Lib.hid (fun W h1 => rshow_any A c L W h1 hl2 hin)
  generalize joinW (shTs L 5) = r at KS KR
  rw [hr] at KC
  generalize (chkGo (fun f => chkCr f (L f)) 0 5).1 = r1 at KC
  have x0 : (w.alloc (.cells #[.slice (A 0) (L 0).length (c 0), .slice (A 1) (L 1).length (c 1), .slice (A 2) (L 2).length (c 2), .slice (A 3) (L 3).length (c 3), .slice (A 4) (L 4).length (c 4)] 24)).cell? ⟨w.heap.size, 0, none⟩ = some (.slice (A 0) (L 0).length (c 0)) := blk_cell HG0.out 0
  have x1 : (w.alloc (.cells #[.slice (A 0) (L 0).length (c 0), .slice (A 1) (L 1).length (c 1), .slice (A 2) (L 2).length (c 2), .slice (A 3) (L 3).length (c 3), .slice (A 4) (L 4).length (c 4)] 24)).cell? ⟨w.heap.size, 1, none⟩ = some (.slice (A 1) (L 1).length (c 1)) := blk_cell HG0.out 1
  have x2 : (w.alloc (.cells #[.slice (A 0) (L 0).length (c 0), .slice (A 1) (L 1).length (c 1), .slice (A 2) (L 2).length (c 2), .slice (A 3) (L 3).length (c 3), .slice (A 4) (L 4).length (c 4)] 24)).cell? ⟨w.heap.size, 2, none⟩ = some (.slice (A 2) (L 2).length (c 2)) := blk_cell HG0.out 2
  have x3 : (w.alloc (.cells #[.slice (A 0) (L 0).length (c 0), .slice (A 1) (L 1).length (c 1), .slice (A 2) (L 2).length (c 2), .slice (A 3) (L 3).length (c 3), .slice (A 4) (L 4).length (c 4)] 24)).cell? ⟨w.heap.size, 3, none⟩ = some (.slice (A 3) (L 3).length (c 3)) := blk_cell HG0.out 3
  have x4 : (w.alloc (.cells #[.slice (A 0) (L 0).length (c 0), .slice (A 1) (L 1).length (c 1), .slice (A 2) (L 2).length (c 2), .slice (A 3) (L 3).length (c 3), .slice (A 4) (L 4).length (c 4)] 24)).cell? ⟨w.heap.size, 4, none⟩ = some (.slice (A 4) (L 4).length (c 4)) := blk_cell HG0.out 4
  unfold vCr at K1 KS KC KR ⊢
  clear hL hT hP hl hl2 hin hr
  go_enter Tryd.func3, Tryd.ntmps3
  go_wp2_with fail
  refine K1.mono ?_
  rintro e w1 ⟨rfl, hb1⟩
  have HB1 := Lib.hid (HB0.out.trans (hb1.mono HB0.out.size))
  have HG1 := Lib.hid ((hb1.block _ (lt_of_block HG0.out)).trans HG0.out)
  have y0 : w1.cell? ⟨w.heap.size, 0, none⟩ = some (.slice (A 0) (L 0).length (c 0)) := blk_cell HG1.out 0
  have y1 : w1.cell? ⟨w.heap.size, 1, none⟩ = some (.slice (A 1) (L 1).length (c 1)) := blk_cell HG1.out 1
  have y2 : w1.cell? ⟨w.heap.size, 2, none⟩ = some (.slice (A 2) (L 2).length (c 2)) := blk_cell HG1.out 2
  have y3 : w1.cell? ⟨w.heap.size, 3, none⟩ = some (.slice (A 3) (L 3).length (c 3)) := blk_cell HG1.out 3
  have y4 : w1.cell? ⟨w.heap.size, 4, none⟩ = some (.slice (A 4) (L 4).length (c 4)) := blk_cell HG1.out 4
  have K2 := KS.out w1 (HL.out.below HB1.out) (HT.out.below HB1.out) (HP.out.bel HB1.out)
  clear hb1 K1 x0 x1 x2 x3 x4
  go_wp2_with fail
  refine K2.mono ?_
  rintro e w2 ⟨rfl, hb2⟩
  have HB2 := Lib.hid (HB1.out.trans (hb2.mono HB1.out.size))
  have HG2 := Lib.hid ((hb2.block _ (lt_of_block HG1.out)).trans HG1.out)
  have z0 : w2.cell? ⟨w.heap.size, 0, none⟩ = some (.slice (A 0) (L 0).length (c 0)) := blk_cell HG2.out 0
  have z1 : w2.cell? ⟨w.heap.size, 1, none⟩ = some (.slice (A 1) (L 1).length (c 1)) := blk_cell HG2.out 1
  have z2 : w2.cell? ⟨w.heap.size, 2, none⟩ = some (.slice (A 2) (L 2).length (c 2)) := blk_cell HG2.out 2
  have z3 : w2.cell? ⟨w.heap.size, 3, none⟩ = some (.slice (A 3) (L 3).length (c 3)) := blk_cell HG2.out 3
  have z4 : w2.cell? ⟨w.heap.size, 4, none⟩ = some (.slice (A 4) (L 4).length (c 4)) := blk_cell HG2.out 4
  have K3 := KC.out w2 (HL.out.below HB2.out)
  clear hb2 K2 y0 y1 y2 y3 y4
  go_wp2_with fail
  refine K3.mono ?_
  rintro e w3 ⟨rfl, hb3⟩
  have HB3 := Lib.hid (HB2.out.trans (hb3.mono HB2.out.size))
  have HG3 := Lib.hid ((hb3.block _ (lt_of_block HG2.out)).trans HG2.out)
  have u0 : w3.cell? ⟨w.heap.size, 0, none⟩ = some (.slice (A 0) (L 0).length (c 0)) := blk_cell HG3.out 0
  have u1 : w3.cell? ⟨w.heap.size, 1, none⟩ = some (.slice (A 1) (L 1).length (c 1)) := blk_cell HG3.out 1
  have u2 : w3.cell? ⟨w.heap.size, 2, none⟩ = some (.slice (A 2) (L 2).length (c 2)) := blk_cell HG3.out 2
  have u3 : w3.cell? ⟨w.heap.size, 3, none⟩ = some (.slice (A 3) (L 3).length (c 3)) := blk_cell HG3.out 3
  have u4 : w3.cell? ⟨w.heap.size, 4, none⟩ = some (.slice (A 4) (L 4).length (c 4)) := blk_cell HG3.out 4
  have K4 := KR.out w3 (HL.out.below HB3.out)
  clear hb3 K3 z0 z1 z2 z3 z4
  go_wp2_with fail
  refine K4.mono ?_
  rintro e w4 ⟨rfl, hb4⟩
  have HB4 := Lib.hid (HB3.out.trans (hb4.mono HB3.out.size))
  have HG4 := Lib.hid ((hb4.block _ (lt_of_block HG3.out)).trans HG3.out)
  have K5 := KL.out w4 (HP.out.bel HB4.out)
  clear hb4 K4 u0 u1 u2 u3 u4
  go_wp2_with fail
  refine K5.mono ?_
  rintro e w5 ⟨rfl, hb5⟩
  have HB5 := Lib.hid (HB4.out.trans (hb5.mono HB4.out.size))
  have HG5 := Lib.hid ((hb5.block _ (lt_of_block HG4.out)).trans HG4.out)
  clear hb5 K5
  go_wp2
  go_ret
  exact ⟨rfl, HB5.out⟩
theorem cronshowShows_any (A : Nat → Option Addr) (c : Nat → Nat) (L : Nat → List Q4) (w : World) (hL : Lists 5 w A c L) (hin : ∀ f, f < 5 → ∀ k, k < (L f).length → Q4In (nthQ (L f) k)) (hP : TabP w) (hT : TabCr w) :
    Calls Tryd.prog 3 #[vCr A c L] w fun e w' => e = .returned (.bool true) ∧ Below w.heap.size w w' := by
  by_cases h : ∃ f0, f0 < 5 ∧ 200 < (L f0).length
  · obtain ⟨f0, h1, h2⟩ := h
    exact cronshowShows_out A c L w hL f0 h1 h2 hT hP
  · have hl : ∀ f, f < 5 → (L f).length ≤ 200 := fun f hf => by
      rcases Nat.lt_or_ge 200 (L f).length with g | g
      · exact absurd ⟨f, hf, g⟩ h
      · exact g
    by_cases hr : (chkGo (fun f => chkCr f (L f)) 0 5).2 = 0
    · exact cronshowShows_ok A c L w hL hl hin hr hT hP
    · exact cronshowShows_no A c L w hL hl hin hr hT hP
end Go.Proofs.YtahlegempjlbbaaDoor
