/- The walk of CronFields (layer 24). -/
import Derived.Test.YtjgifiaokmmjfaaDoorWalk24
import Derived.Test.YtjgifiaokmmjfaaDoorCrS
namespace Go.Proofs.YtjgifiaokmmjfaaDoor
open Go.RowKit
set_option linter.unusedVariables false

set_option maxHeartbeats 3200000 in
set_option maxRecDepth 20000 in
theorem cronFields_out1 (A1 A2 : Nat → Option Addr) (c1 c2 : Nat → Nat) (L1 L2 : Nat → List Q4) (z : Int) (w : World) (f0 : Nat) (hf0 : f0 < 5) (h : 200 < (L1 f0).length) (hT : TabCr w) :
    Calls Tryd.prog 4 #[vCr A1 c1 L1, vCr A2 c2 L2, .int .i64 z] w fun e w' => e = .returned (.bool true) ∧ Below w.heap.size w w' := by
  obtain ⟨W0, hW0⟩ : ∃ W0, (w.alloc (.cells #[.slice (A1 0) (L1 0).length (c1 0), .slice (A1 1) (L1 1).length (c1 1), .slice (A1 2) (L1 2).length (c1 2), .slice (A1 3) (L1 3).length (c1 3), .slice (A1 4) (L1 4).length (c1 4)] 24)).alloc (.cells #[.slice (A2 0) (L2 0).length (c2 0), .slice (A2 1) (L2 1).length (c2 1), .slice (A2 2) (L2 2).length (c2 2), .slice (A2 3) (L2 3).length (c2 3), .slice (A2 4) (L2 4).length (c2 4)] 24) = W0 := ⟨_, rfl⟩
  have HB0 := Lib.hid (show Below w.heap.size w W0 by rw [← hW0]; exact ((Below.refl _ _).alloc (Nat.le_refl _) _).alloc (by simp) _)
  have h0 : W0.heap[w.heap.size]? = some (.cells #[.slice (A1 0) (L1 0).length (c1 0), .slice (A1 1) (L1 1).length (c1 1), .slice (A1 2) (L1 2).length (c1 2), .slice (A1 3) (L1 3).length (c1 3), .slice (A1 4) (L1 4).length (c1 4)] 24 (0, 0)) := by rw [← hW0]; exact blk_more (blk_new w _) _
  have h1 : W0.heap[w.heap.size + 1]? = some (.cells #[.slice (A2 0) (L2 0).length (c2 0), .slice (A2 1) (L2 1).length (c2 1), .slice (A2 2) (L2 2).length (c2 2), .slice (A2 3) (L2 3).length (c2 3), .slice (A2 4) (L2 4).length (c2 4)] 24 (0, 0)) := by
    rw [← hW0]
    have := blk_new (w.alloc (.cells #[.slice (A1 0) (L1 0).length (c1 0), .slice (A1 1) (L1 1).length (c1 1), .slice (A1 2) (L1 2).length (c1 2), .slice (A1 3) (L1 3).length (c1 3), .slice (A1 4) (L1 4).length (c1 4)] 24)) (.cells #[.slice (A2 0) (L2 0).length (c2 0), .slice (A2 1) (L2 1).length (c2 1), .slice (A2 2) (L2 2).length (c2 2), .slice (A2 3) (L2 3).length (c2 3), .slice (A2 4) (L2 4).length (c2 4)] 24)
    rw [World.size_alloc] at this
    exact this
  have a0 : W0.cell? ⟨w.heap.size, 0, none⟩ = some (.slice (A1 0) (L1 0).length (c1 0)) := blk_cell h0 0
  have a1 : W0.cell? ⟨w.heap.size, 1, none⟩ = some (.slice (A1 1) (L1 1).length (c1 1)) := blk_cell h0 1
  have a2 : W0.cell? ⟨w.heap.size, 2, none⟩ = some (.slice (A1 2) (L1 2).length (c1 2)) := blk_cell h0 2
  have a3 : W0.cell? ⟨w.heap.size, 3, none⟩ = some (.slice (A1 3) (L1 3).length (c1 3)) := blk_cell h0 3
  have a4 : W0.cell? ⟨w.heap.size, 4, none⟩ = some (.slice (A1 4) (L1 4).length (c1 4)) := blk_cell h0 4
  have m0 : W0.cell? ⟨w.heap.size + 1, 0, none⟩ = some (.slice (A2 0) (L2 0).length (c2 0)) := blk_cell h1 0
  have m1 : W0.cell? ⟨w.heap.size + 1, 1, none⟩ = some (.slice (A2 1) (L2 1).length (c2 1)) := blk_cell h1 1
  have m2 : W0.cell? ⟨w.heap.size + 1, 2, none⟩ = some (.slice (A2 2) (L2 2).length (c2 2)) := blk_cell h1 2
  have m3 : W0.cell? ⟨w.heap.size + 1, 3, none⟩ = some (.slice (A2 3) (L2 3).length (c2 3)) := blk_cell h1 3
  have m4 : W0.cell? ⟨w.heap.size + 1, 4, none⟩ = some (.slice (A2 4) (L2 4).length (c2 4)) := blk_cell h1 4
  have HT := Lib.hid hT
  have K1 := greatCr_yes A1 c1 L1 W0 f0 hf0 h
  unfold vCr at K1 ⊢
  clear h hT h0 h1
  go_enter Tryd.func4, Tryd.ntmps4
  go_wp2_with fail
  try rw [hW0]
  clear hW0
  refine K1.mono ?_
  rintro e w1 ⟨rfl, hb1⟩
  have HB1 := Lib.hid (HB0.out.trans (hb1.mono HB0.out.size))
  have K6 := lives24_any w1 (HT.out.below HB1.out)
  clear K1 hb1
  go_wp2_with fail
  refine K6.mono ?_
  rintro e w4 ⟨rfl, hb4⟩
  go_wp2
  go_ret
  exact ⟨rfl, HB1.out.trans (hb4.mono HB1.out.size)⟩
set_option maxHeartbeats 3200000 in
set_option maxRecDepth 20000 in
theorem cronFields_out2 (A1 A2 : Nat → Option Addr) (c1 c2 : Nat → Nat) (L1 L2 : Nat → List Q4) (z : Int) (w : World) (hl1 : ∀ f, f < 5 → (L1 f).length ≤ 200) (f0 : Nat) (hf0 : f0 < 5) (h : 200 < (L2 f0).length) (hT : TabCr w) :
    Calls Tryd.prog 4 #[vCr A1 c1 L1, vCr A2 c2 L2, .int .i64 z] w fun e w' => e = .returned (.bool true) ∧ Below w.heap.size w w' := by
  obtain ⟨W0, hW0⟩ : ∃ W0, (w.alloc (.cells #[.slice (A1 0) (L1 0).length (c1 0), .slice (A1 1) (L1 1).length (c1 1), .slice (A1 2) (L1 2).length (c1 2), .slice (A1 3) (L1 3).length (c1 3), .slice (A1 4) (L1 4).length (c1 4)] 24)).alloc (.cells #[.slice (A2 0) (L2 0).length (c2 0), .slice (A2 1) (L2 1).length (c2 1), .slice (A2 2) (L2 2).length (c2 2), .slice (A2 3) (L2 3).length (c2 3), .slice (A2 4) (L2 4).length (c2 4)] 24) = W0 := ⟨_, rfl⟩
  have HB0 := Lib.hid (show Below w.heap.size w W0 by rw [← hW0]; exact ((Below.refl _ _).alloc (Nat.le_refl _) _).alloc (by simp) _)
  have h0 : W0.heap[w.heap.size]? = some (.cells #[.slice (A1 0) (L1 0).length (c1 0), .slice (A1 1) (L1 1).length (c1 1), .slice (A1 2) (L1 2).length (c1 2), .slice (A1 3) (L1 3).length (c1 3), .slice (A1 4) (L1 4).length (c1 4)] 24 (0, 0)) := by rw [← hW0]; exact blk_more (blk_new w _) _
  have h1 : W0.heap[w.heap.size + 1]? = some (.cells #[.slice (A2 0) (L2 0).length (c2 0), .slice (A2 1) (L2 1).length (c2 1), .slice (A2 2) (L2 2).length (c2 2), .slice (A2 3) (L2 3).length (c2 3), .slice (A2 4) (L2 4).length (c2 4)] 24 (0, 0)) := by
    rw [← hW0]
    have := blk_new (w.alloc (.cells #[.slice (A1 0) (L1 0).length (c1 0), .slice (A1 1) (L1 1).length (c1 1), .slice (A1 2) (L1 2).length (c1 2), .slice (A1 3) (L1 3).length (c1 3), .slice (A1 4) (L1 4).length (c1 4)] 24)) (.cells #[.slice (A2 0) (L2 0).length (c2 0), .slice (A2 1) (L2 1).length (c2 1), .slice (A2 2) (L2 2).length (c2 2), .slice (A2 3) (L2 3).length (c2 3), .slice (A2 4) (L2 4).length (c2 4)] 24)
    rw [World.size_alloc] at this
    exact this
  have a0 : W0.cell? ⟨w.heap.size, 0, none⟩ = some (.slice (A1 0) (L1 0).length (c1 0)) := blk_cell h0 0
  have a1 : W0.cell? ⟨w.heap.size, 1, none⟩ = some (.slice (A1 1) (L1 1).length (c1 1)) := blk_cell h0 1
  have a2 : W0.cell? ⟨w.heap.size, 2, none⟩ = some (.slice (A1 2) (L1 2).length (c1 2)) := blk_cell h0 2
  have a3 : W0.cell? ⟨w.heap.size, 3, none⟩ = some (.slice (A1 3) (L1 3).length (c1 3)) := blk_cell h0 3
  have a4 : W0.cell? ⟨w.heap.size, 4, none⟩ = some (.slice (A1 4) (L1 4).length (c1 4)) := blk_cell h0 4
  have m0 : W0.cell? ⟨w.heap.size + 1, 0, none⟩ = some (.slice (A2 0) (L2 0).length (c2 0)) := blk_cell h1 0
  have m1 : W0.cell? ⟨w.heap.size + 1, 1, none⟩ = some (.slice (A2 1) (L2 1).length (c2 1)) := blk_cell h1 1
  have m2 : W0.cell? ⟨w.heap.size + 1, 2, none⟩ = some (.slice (A2 2) (L2 2).length (c2 2)) := blk_cell h1 2
  have m3 : W0.cell? ⟨w.heap.size + 1, 3, none⟩ = some (.slice (A2 3) (L2 3).length (c2 3)) := blk_cell h1 3
  have m4 : W0.cell? ⟨w.heap.size + 1, 4, none⟩ = some (.slice (A2 4) (L2 4).length (c2 4)) := blk_cell h1 4
  have HT := Lib.hid hT
  have K1 := greatCr_no A1 c1 L1 W0 hl1
  have K2 := fun W => greatCr_yes A2 c2 L2 W f0 hf0 h
  have HG0 := Lib.hid h0
  have HD0 := Lib.hid h1
  unfold vCr at K1 K2 ⊢
  clear h hT hl1 h0 h1
  go_enter Tryd.func4, Tryd.ntmps4
  go_wp2_with fail
  try rw [hW0]
  clear hW0
  refine K1.mono ?_
  rintro e w1 ⟨rfl, hb1⟩
  have HB1 := Lib.hid (HB0.out.trans (hb1.mono HB0.out.size))
  have g1 := (hb1.block _ (lt_of_block HG0.out)).trans HG0.out
  have g2 := (hb1.block _ (lt_of_block HD0.out)).trans HD0.out
  have x0 : w1.cell? ⟨w.heap.size, 0, none⟩ = some (.slice (A1 0) (L1 0).length (c1 0)) := blk_cell g1 0
  have x1 : w1.cell? ⟨w.heap.size, 1, none⟩ = some (.slice (A1 1) (L1 1).length (c1 1)) := blk_cell g1 1
  have x2 : w1.cell? ⟨w.heap.size, 2, none⟩ = some (.slice (A1 2) (L1 2).length (c1 2)) := blk_cell g1 2
  have x3 : w1.cell? ⟨w.heap.size, 3, none⟩ = some (.slice (A1 3) (L1 3).length (c1 3)) := blk_cell g1 3
  have x4 : w1.cell? ⟨w.heap.size, 4, none⟩ = some (.slice (A1 4) (L1 4).length (c1 4)) := blk_cell g1 4
  have y0 : w1.cell? ⟨w.heap.size + 1, 0, none⟩ = some (.slice (A2 0) (L2 0).length (c2 0)) := blk_cell g2 0
  have y1 : w1.cell? ⟨w.heap.size + 1, 1, none⟩ = some (.slice (A2 1) (L2 1).length (c2 1)) := blk_cell g2 1
  have y2 : w1.cell? ⟨w.heap.size + 1, 2, none⟩ = some (.slice (A2 2) (L2 2).length (c2 2)) := blk_cell g2 2
  have y3 : w1.cell? ⟨w.heap.size + 1, 3, none⟩ = some (.slice (A2 3) (L2 3).length (c2 3)) := blk_cell g2 3
  have y4 : w1.cell? ⟨w.heap.size + 1, 4, none⟩ = some (.slice (A2 4) (L2 4).length (c2 4)) := blk_cell g2 4
  have HG1 := Lib.hid g1
  have HD1 := Lib.hid g2
  clear K1 hb1 g1 g2 a0 a1 a2 a3 a4 m0 m1 m2 m3 m4
  go_wp2_with fail
  refine (K2 _).mono ?_
  rintro e w2 ⟨rfl, hb2⟩
  have HB2 := Lib.hid (HB1.out.trans (hb2.mono HB1.out.size))
  have K6 := lives24_any w2 (HT.out.below HB2.out)
  clear K2 hb2 x0 x1 x2 x3 x4 y0 y1 y2 y3 y4
  go_wp2_with fail
  refine K6.mono ?_
  rintro e w4 ⟨rfl, hb4⟩
  go_wp2
  go_ret
  exact ⟨rfl, HB2.out.trans (hb4.mono HB2.out.size)⟩
set_option maxHeartbeats 1600000 in
theorem rstarred_any (A : Option Addr) (c : Nat) (qs : List Q4) (w : World) (hq : ItemsAt w A qs) :
    Calls Tryd.prog 15 #[.slice A qs.length c] w fun e w' => e = .returned (.bool (starQ qs)) ∧ Below w.heap.size w w' := by
  by_cases h0 : 0 < qs.length
  · obtain ⟨b, off, rfl, _, x0, _⟩ := hq 0 h0
    have x0' : w.cell? ⟨b, off, none⟩ = some (.int .i64 (nthQ qs 0).1) := by simpa using x0
    have d1 : decide ((0 : Int) < ((qs.length : Nat) : Int)) = true := dec_t (by omega)
    have d2 : decide (0 < qs.length) = true := dec_t h0
    have i1 : (0 : Int) < ((qs.length : Nat) : Int) := by omega
    have HX := Lib.hid (show starQ qs = ((nthQ qs 0).1 == 0) by unfold starQ; rw [dec_t h0]; rfl)
    generalize (nthQ qs 0).1 = z at x0' HX
    clear hq x0
    go_enter Tryd.func15, Tryd.ntmps15
    go_wp2
    go_ret
    exact ⟨ret_bool HX.out.symm, Below.refl _ _⟩
  · have d1 : decide ((0 : Int) < ((qs.length : Nat) : Int)) = false := dec_n (by omega)
    have d2 : decide (0 < qs.length) = false := dec_n h0
    have HX := Lib.hid (show starQ qs = false by unfold starQ; rw [dec_n h0]; rfl)
    clear hq
    go_enter Tryd.func15, Tryd.ntmps15
    go_wp2
    go_ret
    exact ⟨ret_bool HX.out.symm, Below.refl _ _⟩
set_option maxHeartbeats 1600000 in
theorem starred_out (f : Int) (A : Nat → Option Addr) (c : Nat → Nat) (L : Nat → List Q4) (w : World) (h : f < 0 ∨ 5 ≤ f) :
    Calls Tryd.prog 18 #[vCr A c L, .int .i64 f] w fun e w' => e = .returned (.bool false) ∧ Below w.heap.size w w' := by
  have HB0 := Lib.hid (show Below w.heap.size w (w.alloc (.cells #[.slice (A 0) (L 0).length (c 0), .slice (A 1) (L 1).length (c 1), .slice (A 2) (L 2).length (c 2), .slice (A 3) (L 3).length (c 3), .slice (A 4) (L 4).length (c 4)] 24)) from (Below.refl _ _).alloc (Nat.le_refl _) _)
  have K1 := fun W => fieldCr_out f A c L W h
  unfold vCr at K1 ⊢
  go_enter Tryd.func18, Tryd.ntmps18
  go_wp2_with fail
  refine (K1 _).mono ?_
  rintro e w1 ⟨A1, c1, rfl, hat, hb1, _, _⟩
  have HB1 := Lib.hid (HB0.out.trans (hb1.mono HB0.out.size))
  clear K1 hb1 hat h
  go_wp2
  go_ret
  exact ⟨rfl, HB1.out⟩
set_option maxHeartbeats 12800000 in
set_option maxRecDepth 100000 in
theorem cronFields_core (A1 A2 : Nat → Option Addr) (c1 c2 : Nat → Nat) (L1 L2 : Nat → List Q4) (z : Int) (w : World) (hl1 : ∀ f, f < 5 → (L1 f).length ≤ 200) (hl2 : ∀ f, f < 5 → (L2 f).length ≤ 200) (hL1 : Lists 5 w A1 c1 L1) (hL2 : Lists 5 w A2 c2 L2) (hT : TabCr w) (lo hi : Int) (qs : List Q4) (hqs : qs.length ≤ 1000000)
    (KB : ∀ W, TabCr W → Calls Tryd.prog 12 #[.int .i64 z] W fun e w' => e = .returned (.tuple #[.int .i64 lo, .int .i64 hi]) ∧ Below W.heap.size W w')
    (KRB : ∀ W, Calls Tryd.prog 13 #[.int .i64 z] W fun e w' => e = .returned (.tuple #[.int .i64 lo, .int .i64 hi]) ∧ Below W.heap.size W w')
    (KF : ∀ W, Lists 5 W A1 c1 L1 → Calls Tryd.prog 17 #[.agg #[.slice (A1 0) (L1 0).length (c1 0), .slice (A1 1) (L1 1).length (c1 1), .slice (A1 2) (L1 2).length (c1 2), .slice (A1 3) (L1 3).length (c1 3), .slice (A1 4) (L1 4).length (c1 4)], .int .i64 z] W fun e w' => ∃ P p, e = .returned (.slice P qs.length p) ∧ ItemsAt w' P qs ∧ Below W.heap.size W w')
    (KRF : ∀ W, Lists 5 W A1 c1 L1 → Calls Tryd.prog 14 #[.agg #[.slice (A1 0) (L1 0).length (c1 0), .slice (A1 1) (L1 1).length (c1 1), .slice (A1 2) (L1 2).length (c1 2), .slice (A1 3) (L1 3).length (c1 3), .slice (A1 4) (L1 4).length (c1 4)], .int .i64 z] W fun e w' => ∃ P p, e = .returned (.slice P qs.length p) ∧ ItemsAt w' P qs ∧ Below W.heap.size W w')
    (KS : ∀ W, Lists 5 W A1 c1 L1 → Calls Tryd.prog 18 #[.agg #[.slice (A1 0) (L1 0).length (c1 0), .slice (A1 1) (L1 1).length (c1 1), .slice (A1 2) (L1 2).length (c1 2), .slice (A1 3) (L1 3).length (c1 3), .slice (A1 4) (L1 4).length (c1 4)], .int .i64 z] W fun e w' => e = .returned (.bool (starQ qs)) ∧ Below W.heap.size W w') :
    Calls Tryd.prog 4 #[vCr A1 c1 L1, vCr A2 c2 L2, .int .i64 z] w fun e w' => e = .returned (.bool true) ∧ Below w.heap.size w w' := by
  obtain ⟨W0, hW0⟩ : ∃ W0, (w.alloc (.cells #[.slice (A1 0) (L1 0).length (c1 0), .slice (A1 1) (L1 1).length (c1 1), .slice (A1 2) (L1 2).length (c1 2), .slice (A1 3) (L1 3).length (c1 3), .slice (A1 4) (L1 4).length (c1 4)] 24)).alloc (.cells #[.slice (A2 0) (L2 0).length (c2 0), .slice (A2 1) (L2 1).length (c2 1), .slice (A2 2) (L2 2).length (c2 2), .slice (A2 3) (L2 3).length (c2 3), .slice (A2 4) (L2 4).length (c2 4)] 24) = W0 := ⟨_, rfl⟩
  have HB0 := Lib.hid (show Below w.heap.size w W0 by rw [← hW0]; exact ((Below.refl _ _).alloc (Nat.le_refl _) _).alloc (by simp) _)
  have h0 : W0.heap[w.heap.size]? = some (.cells #[.slice (A1 0) (L1 0).length (c1 0), .slice (A1 1) (L1 1).length (c1 1), .slice (A1 2) (L1 2).length (c1 2), .slice (A1 3) (L1 3).length (c1 3), .slice (A1 4) (L1 4).length (c1 4)] 24 (0, 0)) := by rw [← hW0]; exact blk_more (blk_new w _) _
  have h1 : W0.heap[w.heap.size + 1]? = some (.cells #[.slice (A2 0) (L2 0).length (c2 0), .slice (A2 1) (L2 1).length (c2 1), .slice (A2 2) (L2 2).length (c2 2), .slice (A2 3) (L2 3).length (c2 3), .slice (A2 4) (L2 4).length (c2 4)] 24 (0, 0)) := by
    rw [← hW0]
    have := blk_new (w.alloc (.cells #[.slice (A1 0) (L1 0).length (c1 0), .slice (A1 1) (L1 1).length (c1 1), .slice (A1 2) (L1 2).length (c1 2), .slice (A1 3) (L1 3).length (c1 3), .slice (A1 4) (L1 4).length (c1 4)] 24)) (.cells #[.slice (A2 0) (L2 0).length (c2 0), .slice (A2 1) (L2 1).length (c2 1), .slice (A2 2) (L2 2).length (c2 2), .slice (A2 3) (L2 3).length (c2 3), .slice (A2 4) (L2 4).length (c2 4)] 24)
    rw [World.size_alloc] at this
    exact this
  have a0 : W0.cell? ⟨w.heap.size, 0, none⟩ = some (.slice (A1 0) (L1 0).length (c1 0)) := blk_cell h0 0
  have a1 : W0.cell? ⟨w.heap.size, 1, none⟩ = some (.slice (A1 1) (L1 1).length (c1 1)) := blk_cell h0 1
  have a2 : W0.cell? ⟨w.heap.size, 2, none⟩ = some (.slice (A1 2) (L1 2).length (c1 2)) := blk_cell h0 2
  have a3 : W0.cell? ⟨w.heap.size, 3, none⟩ = some (.slice (A1 3) (L1 3).length (c1 3)) := blk_cell h0 3
  have a4 : W0.cell? ⟨w.heap.size, 4, none⟩ = some (.slice (A1 4) (L1 4).length (c1 4)) := blk_cell h0 4
  have m0 : W0.cell? ⟨w.heap.size + 1, 0, none⟩ = some (.slice (A2 0) (L2 0).length (c2 0)) := blk_cell h1 0
  have m1 : W0.cell? ⟨w.heap.size + 1, 1, none⟩ = some (.slice (A2 1) (L2 1).length (c2 1)) := blk_cell h1 1
  have m2 : W0.cell? ⟨w.heap.size + 1, 2, none⟩ = some (.slice (A2 2) (L2 2).length (c2 2)) := blk_cell h1 2
  have m3 : W0.cell? ⟨w.heap.size + 1, 3, none⟩ = some (.slice (A2 3) (L2 3).length (c2 3)) := blk_cell h1 3
  have m4 : W0.cell? ⟨w.heap.size + 1, 4, none⟩ = some (.slice (A2 4) (L2 4).length (c2 4)) := blk_cell h1 4
  have HT := Lib.hid hT
  have HL1 := Lib.hid hL1
  have HL2 := Lib.hid hL2
  have HLe1 := Lib.hid (show ∀ f, f < 5 → (L1 f).length ≤ 1000000 from fun f hf => by have := hl1 f hf; omega)
  have HLe2 := Lib.hid (show ∀ f, f < 5 → (L2 f).length ≤ 1000000 from fun f hf => by have := hl2 f hf; omega)
  have K1 := greatCr_no A1 c1 L1 W0 hl1
  have K2 := fun W => greatCr_no A2 c2 L2 W hl2
  have HG0 := Lib.hid h0
  have HD0 := Lib.hid h1
  unfold vCr at K1 K2 ⊢
  clear hT hl1 hl2 hL1 hL2 h0 h1
  go_enter Tryd.func4, Tryd.ntmps4
  go_wp2_with fail
  try rw [hW0]
  clear hW0
  refine K1.mono ?_
  rintro e w1 ⟨rfl, hb1⟩
  have HB1 := Lib.hid (HB0.out.trans (hb1.mono HB0.out.size))
  have g1 := (hb1.block _ (lt_of_block HG0.out)).trans HG0.out
  have g2 := (hb1.block _ (lt_of_block HD0.out)).trans HD0.out
  have x0 : w1.cell? ⟨w.heap.size, 0, none⟩ = some (.slice (A1 0) (L1 0).length (c1 0)) := blk_cell g1 0
  have x1 : w1.cell? ⟨w.heap.size, 1, none⟩ = some (.slice (A1 1) (L1 1).length (c1 1)) := blk_cell g1 1
  have x2 : w1.cell? ⟨w.heap.size, 2, none⟩ = some (.slice (A1 2) (L1 2).length (c1 2)) := blk_cell g1 2
  have x3 : w1.cell? ⟨w.heap.size, 3, none⟩ = some (.slice (A1 3) (L1 3).length (c1 3)) := blk_cell g1 3
  have x4 : w1.cell? ⟨w.heap.size, 4, none⟩ = some (.slice (A1 4) (L1 4).length (c1 4)) := blk_cell g1 4
  have y0 : w1.cell? ⟨w.heap.size + 1, 0, none⟩ = some (.slice (A2 0) (L2 0).length (c2 0)) := blk_cell g2 0
  have y1 : w1.cell? ⟨w.heap.size + 1, 1, none⟩ = some (.slice (A2 1) (L2 1).length (c2 1)) := blk_cell g2 1
  have y2 : w1.cell? ⟨w.heap.size + 1, 2, none⟩ = some (.slice (A2 2) (L2 2).length (c2 2)) := blk_cell g2 2
  have y3 : w1.cell? ⟨w.heap.size + 1, 3, none⟩ = some (.slice (A2 3) (L2 3).length (c2 3)) := blk_cell g2 3
  have y4 : w1.cell? ⟨w.heap.size + 1, 4, none⟩ = some (.slice (A2 4) (L2 4).length (c2 4)) := blk_cell g2 4
  have HG1 := Lib.hid g1
  have HD1 := Lib.hid g2
  clear K1 hb1 g1 g2 a0 a1 a2 a3 a4 m0 m1 m2 m3 m4
  go_wp2_with fail
  refine (K2 _).mono ?_
  rintro e w2 ⟨rfl, hb2⟩
  have HB2 := Lib.hid (HB1.out.trans (hb2.mono HB1.out.size))
  have g1 := (hb2.block _ (lt_of_block HG1.out)).trans HG1.out
  have g2 := (hb2.block _ (lt_of_block HD1.out)).trans HD1.out
  clear x0 x1 x2 x3 x4 y0 y1 y2 y3 y4
  have x0 : w2.cell? ⟨w.heap.size, 0, none⟩ = some (.slice (A1 0) (L1 0).length (c1 0)) := blk_cell g1 0
  have x1 : w2.cell? ⟨w.heap.size, 1, none⟩ = some (.slice (A1 1) (L1 1).length (c1 1)) := blk_cell g1 1
  have x2 : w2.cell? ⟨w.heap.size, 2, none⟩ = some (.slice (A1 2) (L1 2).length (c1 2)) := blk_cell g1 2
  have x3 : w2.cell? ⟨w.heap.size, 3, none⟩ = some (.slice (A1 3) (L1 3).length (c1 3)) := blk_cell g1 3
  have x4 : w2.cell? ⟨w.heap.size, 4, none⟩ = some (.slice (A1 4) (L1 4).length (c1 4)) := blk_cell g1 4
  have y0 : w2.cell? ⟨w.heap.size + 1, 0, none⟩ = some (.slice (A2 0) (L2 0).length (c2 0)) := blk_cell g2 0
  have y1 : w2.cell? ⟨w.heap.size + 1, 1, none⟩ = some (.slice (A2 1) (L2 1).length (c2 1)) := blk_cell g2 1
  have y2 : w2.cell? ⟨w.heap.size + 1, 2, none⟩ = some (.slice (A2 2) (L2 2).length (c2 2)) := blk_cell g2 2
  have y3 : w2.cell? ⟨w.heap.size + 1, 3, none⟩ = some (.slice (A2 3) (L2 3).length (c2 3)) := blk_cell g2 3
  have y4 : w2.cell? ⟨w.heap.size + 1, 4, none⟩ = some (.slice (A2 4) (L2 4).length (c2 4)) := blk_cell g2 4
  have HG2 := Lib.hid g1
  have HD2 := Lib.hid g2
  clear K2 hb2 g1 g2
  go_wp2_with fail
  refine (KB w2 (HT.out.below HB2.out)).mono ?_
  rintro e w3 ⟨rfl, hb3⟩
  have HB3 := Lib.hid (HB2.out.trans (hb3.mono HB2.out.size))
  have g1 := (hb3.block _ (lt_of_block HG2.out)).trans HG2.out
  have g2 := (hb3.block _ (lt_of_block HD2.out)).trans HD2.out
  clear x0 x1 x2 x3 x4 y0 y1 y2 y3 y4
  have x0 : w3.cell? ⟨w.heap.size, 0, none⟩ = some (.slice (A1 0) (L1 0).length (c1 0)) := blk_cell g1 0
  have x1 : w3.cell? ⟨w.heap.size, 1, none⟩ = some (.slice (A1 1) (L1 1).length (c1 1)) := blk_cell g1 1
  have x2 : w3.cell? ⟨w.heap.size, 2, none⟩ = some (.slice (A1 2) (L1 2).length (c1 2)) := blk_cell g1 2
  have x3 : w3.cell? ⟨w.heap.size, 3, none⟩ = some (.slice (A1 3) (L1 3).length (c1 3)) := blk_cell g1 3
  have x4 : w3.cell? ⟨w.heap.size, 4, none⟩ = some (.slice (A1 4) (L1 4).length (c1 4)) := blk_cell g1 4
  have y0 : w3.cell? ⟨w.heap.size + 1, 0, none⟩ = some (.slice (A2 0) (L2 0).length (c2 0)) := blk_cell g2 0
  have y1 : w3.cell? ⟨w.heap.size + 1, 1, none⟩ = some (.slice (A2 1) (L2 1).length (c2 1)) := blk_cell g2 1
  have y2 : w3.cell? ⟨w.heap.size + 1, 2, none⟩ = some (.slice (A2 2) (L2 2).length (c2 2)) := blk_cell g2 2
  have y3 : w3.cell? ⟨w.heap.size + 1, 3, none⟩ = some (.slice (A2 3) (L2 3).length (c2 3)) := blk_cell g2 3
  have y4 : w3.cell? ⟨w.heap.size + 1, 4, none⟩ = some (.slice (A2 4) (L2 4).length (c2 4)) := blk_cell g2 4
  have HG3 := Lib.hid g1
  have HD3 := Lib.hid g2
  clear KB hb3 g1 g2
  go_wp2_with fail
  refine (KRB w3).mono ?_
  rintro e w4 ⟨rfl, hb4⟩
  have HB4 := Lib.hid (HB3.out.trans (hb4.mono HB3.out.size))
  have g1 := (hb4.block _ (lt_of_block HG3.out)).trans HG3.out
  have g2 := (hb4.block _ (lt_of_block HD3.out)).trans HD3.out
  clear x0 x1 x2 x3 x4 y0 y1 y2 y3 y4
  have x0 : w4.cell? ⟨w.heap.size, 0, none⟩ = some (.slice (A1 0) (L1 0).length (c1 0)) := blk_cell g1 0
  have x1 : w4.cell? ⟨w.heap.size, 1, none⟩ = some (.slice (A1 1) (L1 1).length (c1 1)) := blk_cell g1 1
  have x2 : w4.cell? ⟨w.heap.size, 2, none⟩ = some (.slice (A1 2) (L1 2).length (c1 2)) := blk_cell g1 2
  have x3 : w4.cell? ⟨w.heap.size, 3, none⟩ = some (.slice (A1 3) (L1 3).length (c1 3)) := blk_cell g1 3
  have x4 : w4.cell? ⟨w.heap.size, 4, none⟩ = some (.slice (A1 4) (L1 4).length (c1 4)) := blk_cell g1 4
  have y0 : w4.cell? ⟨w.heap.size + 1, 0, none⟩ = some (.slice (A2 0) (L2 0).length (c2 0)) := blk_cell g2 0
  have y1 : w4.cell? ⟨w.heap.size + 1, 1, none⟩ = some (.slice (A2 1) (L2 1).length (c2 1)) := blk_cell g2 1
  have y2 : w4.cell? ⟨w.heap.size + 1, 2, none⟩ = some (.slice (A2 2) (L2 2).length (c2 2)) := blk_cell g2 2
  have y3 : w4.cell? ⟨w.heap.size + 1, 3, none⟩ = some (.slice (A2 3) (L2 3).length (c2 3)) := blk_cell g2 3
  have y4 : w4.cell? ⟨w.heap.size + 1, 4, none⟩ = some (.slice (A2 4) (L2 4).length (c2 4)) := blk_cell g2 4
  have HG4 := Lib.hid g1
  have HD4 := Lib.hid g2
  clear KRB hb4 g1 g2
  go_wp2_with fail
  refine (KRF w4 (HL1.out.below HB4.out)).mono ?_
  rintro e w5 ⟨P, p, rfl, hatl, hb5⟩
  have HB5 := Lib.hid (HB4.out.trans (hb5.mono HB4.out.size))
  have g1 := (hb5.block _ (lt_of_block HG4.out)).trans HG4.out
  have g2 := (hb5.block _ (lt_of_block HD4.out)).trans HD4.out
  clear x0 x1 x2 x3 x4 y0 y1 y2 y3 y4
  have x0 : w5.cell? ⟨w.heap.size, 0, none⟩ = some (.slice (A1 0) (L1 0).length (c1 0)) := blk_cell g1 0
  have x1 : w5.cell? ⟨w.heap.size, 1, none⟩ = some (.slice (A1 1) (L1 1).length (c1 1)) := blk_cell g1 1
  have x2 : w5.cell? ⟨w.heap.size, 2, none⟩ = some (.slice (A1 2) (L1 2).length (c1 2)) := blk_cell g1 2
  have x3 : w5.cell? ⟨w.heap.size, 3, none⟩ = some (.slice (A1 3) (L1 3).length (c1 3)) := blk_cell g1 3
  have x4 : w5.cell? ⟨w.heap.size, 4, none⟩ = some (.slice (A1 4) (L1 4).length (c1 4)) := blk_cell g1 4
  have y0 : w5.cell? ⟨w.heap.size + 1, 0, none⟩ = some (.slice (A2 0) (L2 0).length (c2 0)) := blk_cell g2 0
  have y1 : w5.cell? ⟨w.heap.size + 1, 1, none⟩ = some (.slice (A2 1) (L2 1).length (c2 1)) := blk_cell g2 1
  have y2 : w5.cell? ⟨w.heap.size + 1, 2, none⟩ = some (.slice (A2 2) (L2 2).length (c2 2)) := blk_cell g2 2
  have y3 : w5.cell? ⟨w.heap.size + 1, 3, none⟩ = some (.slice (A2 3) (L2 3).length (c2 3)) := blk_cell g2 3
  have y4 : w5.cell? ⟨w.heap.size + 1, 4, none⟩ = some (.slice (A2 4) (L2 4).length (c2 4)) := blk_cell g2 4
  have HG5 := Lib.hid g1
  have HD5 := Lib.hid g2
  have HIL5 := Lib.hid hatl
  have HT5 := Lib.hid (HT.out.below HB5.out)
  clear KRF hb5 hatl g1 g2
  have K12 := fun W h => rstarred_any (A1 2) (c1 2) (L1 2) W h
  have K12b := fun W h => rstarred_any (A1 4) (c1 4) (L1 4) W h
  have K13 := fun W h => rstarred_any P p qs W h
  have K14 : ∀ W, Lists 5 W A1 c1 L1 → Calls Tryd.prog 19 #[.agg #[.slice (A1 0) (L1 0).length (c1 0), .slice (A1 1) (L1 1).length (c1 1), .slice (A1 2) (L1 2).length (c1 2), .slice (A1 3) (L1 3).length (c1 3), .slice (A1 4) (L1 4).length (c1 4)]] W fun e w' => e = .returned (.bool (!starQ (L1 2) && !starQ (L1 4))) ∧ Below W.heap.size W w' := fun W h => either_any A1 c1 L1 W h HLe1.out
  generalize starQ qs = sq at KS K13
  generalize starQ (L1 2) = s2 at K12 K14
  generalize starQ (L1 4) = s4 at K12b K14
  have K8 := fun W P Q cp cq hp hq => isame_any P Q cp cq qs qs W hqs hqs hp hq
  rw [show sameQ qs qs = true from decide_eq_true rfl] at K8
  have K9 : ∀ W, Lists 5 W A1 c1 L1 → Lists 5 W A2 c2 L2 → Calls Tryd.prog 20 #[.agg #[.slice (A1 0) (L1 0).length (c1 0), .slice (A1 1) (L1 1).length (c1 1), .slice (A1 2) (L1 2).length (c1 2), .slice (A1 3) (L1 3).length (c1 3), .slice (A1 4) (L1 4).length (c1 4)], .agg #[.slice (A2 0) (L2 0).length (c2 0), .slice (A2 1) (L2 1).length (c2 1), .slice (A2 2) (L2 2).length (c2 2), .slice (A2 3) (L2 3).length (c2 3), .slice (A2 4) (L2 4).length (c2 4)]] W fun e w' => e = .returned (.bool (sameR 5 L1 L2)) ∧ Below W.heap.size W w' := fun W h1 h2 => sameCr_any A1 A2 c1 c2 L1 L2 W h1 h2 HLe1.out HLe2.out
  have K10 : ∀ W, Lists 5 W A1 c1 L1 → Lists 5 W A2 c2 L2 → Calls Tryd.prog 21 #[.agg #[.slice (A1 0) (L1 0).length (c1 0), .slice (A1 1) (L1 1).length (c1 1), .slice (A1 2) (L1 2).length (c1 2), .slice (A1 3) (L1 3).length (c1 3), .slice (A1 4) (L1 4).length (c1 4)], .agg #[.slice (A2 0) (L2 0).length (c2 0), .slice (A2 1) (L2 1).length (c2 1), .slice (A2 2) (L2 2).length (c2 2), .slice (A2 3) (L2 3).length (c2 3), .slice (A2 4) (L2 4).length (c2 4)]] W fun e w' => e = .returned (.bool (sameR 5 L1 L2)) ∧ Below W.heap.size W w' := fun W h1 h2 => rsameCr_any A1 A2 c1 c2 L1 L2 W h1 h2 HLe1.out HLe2.out
  have K11 : ∀ W, Lists 5 W A1 c1 L1 → Calls Tryd.prog 20 #[.agg #[.slice (A1 0) (L1 0).length (c1 0), .slice (A1 1) (L1 1).length (c1 1), .slice (A1 2) (L1 2).length (c1 2), .slice (A1 3) (L1 3).length (c1 3), .slice (A1 4) (L1 4).length (c1 4)], .agg #[.slice (A1 0) (L1 0).length (c1 0), .slice (A1 1) (L1 1).length (c1 1), .slice (A1 2) (L1 2).length (c1 2), .slice (A1 3) (L1 3).length (c1 3), .slice (A1 4) (L1 4).length (c1 4)]] W fun e w' => e = .returned (.bool true) ∧ Below W.heap.size W w' := fun W h1 => by
    have h := sameCr_any A1 A1 c1 c1 L1 L1 W h1 h1 HLe1.out HLe1.out
    rw [sameR_yes 5 L1 L1 (fun f _ => rfl)] at h
    exact h
  generalize hs12 : (sameR 5 L1 L2) = s12 at K9 K10
  clear hs12
  have K15 := K12 w5 ((HL1.out 2 (by omega)).1.below HB5.out)
  clear K12
  go_wp2_with fail
  refine K15.mono ?_
  rintro e w6 ⟨rfl, hb6⟩
  have HB6 := Lib.hid (HB5.out.trans (hb6.mono HB5.out.size))
  have g1 := (hb6.block _ (lt_of_block HG5.out)).trans HG5.out
  have g2 := (hb6.block _ (lt_of_block HD5.out)).trans HD5.out
  clear x0 x1 x2 x3 x4 y0 y1 y2 y3 y4
  have x0 : w6.cell? ⟨w.heap.size, 0, none⟩ = some (.slice (A1 0) (L1 0).length (c1 0)) := blk_cell g1 0
  have x1 : w6.cell? ⟨w.heap.size, 1, none⟩ = some (.slice (A1 1) (L1 1).length (c1 1)) := blk_cell g1 1
  have x2 : w6.cell? ⟨w.heap.size, 2, none⟩ = some (.slice (A1 2) (L1 2).length (c1 2)) := blk_cell g1 2
  have x3 : w6.cell? ⟨w.heap.size, 3, none⟩ = some (.slice (A1 3) (L1 3).length (c1 3)) := blk_cell g1 3
  have x4 : w6.cell? ⟨w.heap.size, 4, none⟩ = some (.slice (A1 4) (L1 4).length (c1 4)) := blk_cell g1 4
  have y0 : w6.cell? ⟨w.heap.size + 1, 0, none⟩ = some (.slice (A2 0) (L2 0).length (c2 0)) := blk_cell g2 0
  have y1 : w6.cell? ⟨w.heap.size + 1, 1, none⟩ = some (.slice (A2 1) (L2 1).length (c2 1)) := blk_cell g2 1
  have y2 : w6.cell? ⟨w.heap.size + 1, 2, none⟩ = some (.slice (A2 2) (L2 2).length (c2 2)) := blk_cell g2 2
  have y3 : w6.cell? ⟨w.heap.size + 1, 3, none⟩ = some (.slice (A2 3) (L2 3).length (c2 3)) := blk_cell g2 3
  have y4 : w6.cell? ⟨w.heap.size + 1, 4, none⟩ = some (.slice (A2 4) (L2 4).length (c2 4)) := blk_cell g2 4
  have HG6 := Lib.hid g1
  have HD6 := Lib.hid g2
  have HIL6 := Lib.hid (HIL5.out.below hb6)
  clear K15 hb6 g1 g2
  cases s2
  · have K16 := K12b w6 ((HL1.out 4 (by omega)).1.below HB6.out)
    clear K12b
    go_wp2_with fail
    refine K16.mono ?_
    rintro e w7 ⟨rfl, hb7⟩
    have HB7 := Lib.hid (HB6.out.trans (hb7.mono HB6.out.size))
    have g1 := (hb7.block _ (lt_of_block HG6.out)).trans HG6.out
    have g2 := (hb7.block _ (lt_of_block HD6.out)).trans HD6.out
    clear x0 x1 x2 x3 x4 y0 y1 y2 y3 y4
    have x0 : w7.cell? ⟨w.heap.size, 0, none⟩ = some (.slice (A1 0) (L1 0).length (c1 0)) := blk_cell g1 0
    have x1 : w7.cell? ⟨w.heap.size, 1, none⟩ = some (.slice (A1 1) (L1 1).length (c1 1)) := blk_cell g1 1
    have x2 : w7.cell? ⟨w.heap.size, 2, none⟩ = some (.slice (A1 2) (L1 2).length (c1 2)) := blk_cell g1 2
    have x3 : w7.cell? ⟨w.heap.size, 3, none⟩ = some (.slice (A1 3) (L1 3).length (c1 3)) := blk_cell g1 3
    have x4 : w7.cell? ⟨w.heap.size, 4, none⟩ = some (.slice (A1 4) (L1 4).length (c1 4)) := blk_cell g1 4
    have y0 : w7.cell? ⟨w.heap.size + 1, 0, none⟩ = some (.slice (A2 0) (L2 0).length (c2 0)) := blk_cell g2 0
    have y1 : w7.cell? ⟨w.heap.size + 1, 1, none⟩ = some (.slice (A2 1) (L2 1).length (c2 1)) := blk_cell g2 1
    have y2 : w7.cell? ⟨w.heap.size + 1, 2, none⟩ = some (.slice (A2 2) (L2 2).length (c2 2)) := blk_cell g2 2
    have y3 : w7.cell? ⟨w.heap.size + 1, 3, none⟩ = some (.slice (A2 3) (L2 3).length (c2 3)) := blk_cell g2 3
    have y4 : w7.cell? ⟨w.heap.size + 1, 4, none⟩ = some (.slice (A2 4) (L2 4).length (c2 4)) := blk_cell g2 4
    have HG7 := Lib.hid g1
    have HD7 := Lib.hid g2
    have HIL := Lib.hid (HIL6.out.below hb7)
    clear K16 hb7
    have hgl := lt_of_block g1
    have hdl := lt_of_block g2
    have HLW1 := Lib.hid (HL1.out.below HB7.out)
    have HLW2 := Lib.hid (HL2.out.below HB7.out)
    have HTW := Lib.hid (HT.out.below HB7.out)
    have HBW := HB7
    have HS := keepCr hgl hdl (show Below w7.heap.size w7 w7.drew from (Below.refl _ _).drew) ⟨Below.refl _ _, x0, x1, x2, x3, x4, y0, y1, y2, y3, y4⟩
    clear g1 g2 x0 x1 x2 x3 x4 y0 y1 y2 y3 y4
    rw [show (!false && !s4) = !s4 by simp] at K14
    go_wp2_with fail
    go_region_held3 (fun w' => Below w7.heap.size w7 w' ∧ w'.cell? ⟨w.heap.size, 0, none⟩ = some (.slice (A1 0) (L1 0).length (c1 0)) ∧ w'.cell? ⟨w.heap.size, 1, none⟩ = some (.slice (A1 1) (L1 1).length (c1 1)) ∧ w'.cell? ⟨w.heap.size, 2, none⟩ = some (.slice (A1 2) (L1 2).length (c1 2)) ∧ w'.cell? ⟨w.heap.size, 3, none⟩ = some (.slice (A1 3) (L1 3).length (c1 3)) ∧ w'.cell? ⟨w.heap.size, 4, none⟩ = some (.slice (A1 4) (L1 4).length (c1 4)) ∧ w'.cell? ⟨w.heap.size + 1, 0, none⟩ = some (.slice (A2 0) (L2 0).length (c2 0)) ∧ w'.cell? ⟨w.heap.size + 1, 1, none⟩ = some (.slice (A2 1) (L2 1).length (c2 1)) ∧ w'.cell? ⟨w.heap.size + 1, 2, none⟩ = some (.slice (A2 2) (L2 2).length (c2 2)) ∧ w'.cell? ⟨w.heap.size + 1, 3, none⟩ = some (.slice (A2 3) (L2 3).length (c2 3)) ∧ w'.cell? ⟨w.heap.size + 1, 4, none⟩ = some (.slice (A2 4) (L2 4).length (c2 4))) (first | exact HS | exact keepCr hgl hdl (by assumption) (by assumption)) (first | (go_at_call 17; with_reducible refine (KF _ (HLW1.out.below (reg_below (by assumption)))).mono ?_; rintro e w2 ⟨P1, p1, rfl, hat1, hb1⟩) | (go_at_call 16; with_reducible refine (K8 _ _ _ _ _ (by assumption) (HIL.out.below (reg_below (by assumption)))).mono ?_; rintro e w2 ⟨rfl, hq⟩; have hb3 := qbelow hq) | (go_at_call 18; with_reducible refine (KS _ (HLW1.out.below (reg_below (by assumption)))).mono ?_; rintro e w2 ⟨rfl, hb4⟩) | (go_at_call 15; with_reducible refine (K13 _ (HIL.out.below (reg_below (by assumption)))).mono ?_; rintro e w2 ⟨rfl, hb5⟩) | (go_at_call 19; with_reducible refine (K14 _ (HLW1.out.below (reg_below (by assumption)))).mono ?_; rintro e w2 ⟨rfl, hb6⟩) | (go_at_call 20; with_reducible refine (K9 _ (HLW1.out.below (reg_below (by assumption))) (HLW2.out.below (reg_below (by assumption)))).mono ?_; rintro e w2 ⟨rfl, hb7⟩) | (go_at_call 21; with_reducible refine (K10 _ (HLW1.out.below (reg_below (by assumption))) (HLW2.out.below (reg_below (by assumption)))).mono ?_; rintro e w2 ⟨rfl, hb8⟩) | (go_at_call 20; with_reducible refine (K11 _ (HLW1.out.below (reg_below (by assumption)))).mono ?_; rintro e w2 ⟨rfl, hb9⟩) | (go_at_call 9; with_reducible refine (lives24_any _ (HTW.out.below (reg_below (by assumption)))).mono ?_; rintro e w2 ⟨rfl, hb10⟩))
    all_goals (
      have hH : Below w7.heap.size w7 w2 := reg_below (by assumption)
      go_wp2
      go_ret
      exact ⟨rfl, HBW.out.trans (hH.mono HBW.out.size)⟩)
  · clear K12b
    have g1 := HG6.out
    have g2 := HD6.out
    have HIL := HIL6
    have hgl := lt_of_block g1
    have hdl := lt_of_block g2
    have HLW1 := Lib.hid (HL1.out.below HB6.out)
    have HLW2 := Lib.hid (HL2.out.below HB6.out)
    have HTW := Lib.hid (HT.out.below HB6.out)
    have HBW := HB6
    have HS := keepCr hgl hdl (show Below w6.heap.size w6 w6.drew from (Below.refl _ _).drew) ⟨Below.refl _ _, x0, x1, x2, x3, x4, y0, y1, y2, y3, y4⟩
    clear g1 g2 x0 x1 x2 x3 x4 y0 y1 y2 y3 y4
    rw [show (!true && !s4) = false by simp] at K14
    go_wp2_with fail
    go_region_held3 (fun w' => Below w6.heap.size w6 w' ∧ w'.cell? ⟨w.heap.size, 0, none⟩ = some (.slice (A1 0) (L1 0).length (c1 0)) ∧ w'.cell? ⟨w.heap.size, 1, none⟩ = some (.slice (A1 1) (L1 1).length (c1 1)) ∧ w'.cell? ⟨w.heap.size, 2, none⟩ = some (.slice (A1 2) (L1 2).length (c1 2)) ∧ w'.cell? ⟨w.heap.size, 3, none⟩ = some (.slice (A1 3) (L1 3).length (c1 3)) ∧ w'.cell? ⟨w.heap.size, 4, none⟩ = some (.slice (A1 4) (L1 4).length (c1 4)) ∧ w'.cell? ⟨w.heap.size + 1, 0, none⟩ = some (.slice (A2 0) (L2 0).length (c2 0)) ∧ w'.cell? ⟨w.heap.size + 1, 1, none⟩ = some (.slice (A2 1) (L2 1).length (c2 1)) ∧ w'.cell? ⟨w.heap.size + 1, 2, none⟩ = some (.slice (A2 2) (L2 2).length (c2 2)) ∧ w'.cell? ⟨w.heap.size + 1, 3, none⟩ = some (.slice (A2 3) (L2 3).length (c2 3)) ∧ w'.cell? ⟨w.heap.size + 1, 4, none⟩ = some (.slice (A2 4) (L2 4).length (c2 4))) (first | exact HS | exact keepCr hgl hdl (by assumption) (by assumption)) (first | (go_at_call 17; with_reducible refine (KF _ (HLW1.out.below (reg_below (by assumption)))).mono ?_; rintro e w2 ⟨P1, p1, rfl, hat1, hb1⟩) | (go_at_call 16; with_reducible refine (K8 _ _ _ _ _ (by assumption) (HIL.out.below (reg_below (by assumption)))).mono ?_; rintro e w2 ⟨rfl, hq⟩; have hb3 := qbelow hq) | (go_at_call 18; with_reducible refine (KS _ (HLW1.out.below (reg_below (by assumption)))).mono ?_; rintro e w2 ⟨rfl, hb4⟩) | (go_at_call 15; with_reducible refine (K13 _ (HIL.out.below (reg_below (by assumption)))).mono ?_; rintro e w2 ⟨rfl, hb5⟩) | (go_at_call 19; with_reducible refine (K14 _ (HLW1.out.below (reg_below (by assumption)))).mono ?_; rintro e w2 ⟨rfl, hb6⟩) | (go_at_call 20; with_reducible refine (K9 _ (HLW1.out.below (reg_below (by assumption))) (HLW2.out.below (reg_below (by assumption)))).mono ?_; rintro e w2 ⟨rfl, hb7⟩) | (go_at_call 21; with_reducible refine (K10 _ (HLW1.out.below (reg_below (by assumption))) (HLW2.out.below (reg_below (by assumption)))).mono ?_; rintro e w2 ⟨rfl, hb8⟩) | (go_at_call 20; with_reducible refine (K11 _ (HLW1.out.below (reg_below (by assumption)))).mono ?_; rintro e w2 ⟨rfl, hb9⟩) | (go_at_call 9; with_reducible refine (lives24_any _ (HTW.out.below (reg_below (by assumption)))).mono ?_; rintro e w2 ⟨rfl, hb10⟩))
    all_goals (
      have hH : Below w6.heap.size w6 w2 := reg_below (by assumption)
      go_wp2
      go_ret
      exact ⟨rfl, HBW.out.trans (hH.mono HBW.out.size)⟩)
theorem cronFields_walk (A1 : Nat → Option Addr) (c1 : Nat → Nat) (L1 : Nat → List Q4) (A2 : Nat → Option Addr) (c2 : Nat → Nat) (L2 : Nat → List Q4) (z : Int) (w : World) (hL1 : Lists 5 w A1 c1 L1) (hL2 : Lists 5 w A2 c2 L2) (wz : (Lit.int .i64 z).wf = true) (hT : TabCr w) :
    Calls Tryd.prog 4 #[vCr A1 c1 L1, vCr A2 c2 L2, .int .i64 z] w fun e w' => e = .returned (.bool true) ∧ Below w.heap.size w w' := by
  by_cases h : ∃ f0, f0 < 5 ∧ 200 < (L1 f0).length
  · obtain ⟨f0, h1, h2⟩ := h
    exact cronFields_out1 A1 A2 c1 c2 L1 L2 z w f0 h1 h2 hT
  · have hl1 : ∀ f, f < 5 → (L1 f).length ≤ 200 := fun f hf => by
      rcases Nat.lt_or_ge 200 (L1 f).length with g | g
      · exact absurd ⟨f, hf, g⟩ h
      · exact g
    by_cases h' : ∃ f0, f0 < 5 ∧ 200 < (L2 f0).length
    · obtain ⟨f0, h1, h2⟩ := h'
      exact cronFields_out2 A1 A2 c1 c2 L1 L2 z w hl1 f0 h1 h2 hT
    · have hl2 : ∀ f, f < 5 → (L2 f).length ≤ 200 := fun f hf => by
        rcases Nat.lt_or_ge 200 (L2 f).length with g | g
        · exact absurd ⟨f, hf, g⟩ h'
        · exact g
      by_cases hz : z < 0 ∨ 5 ≤ z
      · exact cronFields_core A1 A2 c1 c2 L1 L2 z w hl1 hl2 hL1 hL2 hT 0 0 [] (by decide)
          (fun W _ => (boundsCr_out z W hz).mono fun e w' ⟨h1, h2⟩ => ⟨h1, h2 ▸ Below.refl _ _⟩)
          (fun W => (rboundsCr_out z W hz).mono fun e w' ⟨h1, h2⟩ => ⟨h1, h2 ▸ Below.refl _ _⟩)
          (fun W _ => (fieldCr_out z A1 c1 L1 W hz).mono fun e w' ⟨P, p, q1, q2, q3, _⟩ => ⟨P, p, q1, q2, q3⟩)
          (fun W _ => (rfieldCr_out z A1 c1 L1 W hz).mono fun e w' ⟨h1, h2⟩ => ⟨none, 0, h1, ItemsAt.nil _ _, h2⟩) (fun W hW => starred_out z A1 c1 L1 W hz)
      · obtain ⟨f, rfl⟩ : ∃ f : Nat, z = (f : Int) := ⟨z.toNat, by omega⟩
        have hf : f < 5 := by omega
        exact cronFields_core A1 A2 c1 c2 L1 L2 (f : Int) w hl1 hl2 hL1 hL2 hT (bdCr f).1 (bdCr f).2 (L1 f) (by have := hl1 f hf; omega)
          (fun W hW => (boundsCr_any f hf W hW).mono fun e w' ⟨h1, h2⟩ => ⟨h1, qbelow h2⟩)
          (fun W => (rboundsCr_any f hf W).mono fun e w' ⟨h1, h2⟩ => ⟨h1, h2 ▸ Below.refl _ _⟩)
          (fun W hW => (fieldCr_any f hf A1 c1 L1 W hW (by have := hl1 f hf; omega)).mono fun e w' ⟨P, p, q1, q2, q3, _⟩ => ⟨P, p, q1, q2, q3⟩)
          (fun W hW => (rfieldCr_any f hf A1 c1 L1 W).mono fun e w' ⟨h1, h2⟩ => ⟨A1 f, c1 f, h1, (hW f hf).1.below h2, h2⟩) (fun W hW => starred_any f hf A1 c1 L1 W hW (by have := hl1 f hf; omega))
end Go.Proofs.YtjgifiaokmmjfaaDoor
