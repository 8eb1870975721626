/- The walk of CalFields (layer 28). -/
import Derived.Test.YtjgifiaokmmjfaaDoorWalk28
import Derived.Test.YtjgifiaokmmjfaaDoorClS
namespace Go.Proofs.YtjgifiaokmmjfaaDoor
open Go.RowKit
set_option linter.unusedVariables false

set_option maxHeartbeats 3200000 in
set_option maxRecDepth 20000 in
theorem calFields_out1 (b1 b2 : Bool) (A1 A2 : Nat → Option Addr) (c1 c2 : Nat → Nat) (L1 L2 : Nat → List Q4) (z : Int) (w : World) (f0 : Nat) (hf0 : f0 < 7) (h : 500 < (L1 f0).length) (hT : TabCl w) :
    Calls Tryd.prog 6 #[vCl b1 A1 c1 L1, vCl b2 A2 c2 L2, .int .i64 z] w fun e w' => e = .returned (.bool true) ∧ Below w.heap.size w w' := by
  obtain ⟨W0, hW0⟩ : ∃ W0, (w.alloc (.cells #[.slice (A1 0) (L1 0).length (c1 0), .slice (A1 1) (L1 1).length (c1 1), .slice (A1 2) (L1 2).length (c1 2), .slice (A1 3) (L1 3).length (c1 3), .bool b1, .slice (A1 4) (L1 4).length (c1 4), .slice (A1 5) (L1 5).length (c1 5), .slice (A1 6) (L1 6).length (c1 6)] 40)).alloc (.cells #[.slice (A2 0) (L2 0).length (c2 0), .slice (A2 1) (L2 1).length (c2 1), .slice (A2 2) (L2 2).length (c2 2), .slice (A2 3) (L2 3).length (c2 3), .bool b2, .slice (A2 4) (L2 4).length (c2 4), .slice (A2 5) (L2 5).length (c2 5), .slice (A2 6) (L2 6).length (c2 6)] 40) = W0 := ⟨_, rfl⟩
  have HB0 := Lib.hid (show Below w.heap.size w W0 by rw [← hW0]; exact ((Below.refl _ _).alloc (Nat.le_refl _) _).alloc (by simp) _)
  have h0 : W0.heap[w.heap.size]? = some (.cells #[.slice (A1 0) (L1 0).length (c1 0), .slice (A1 1) (L1 1).length (c1 1), .slice (A1 2) (L1 2).length (c1 2), .slice (A1 3) (L1 3).length (c1 3), .bool b1, .slice (A1 4) (L1 4).length (c1 4), .slice (A1 5) (L1 5).length (c1 5), .slice (A1 6) (L1 6).length (c1 6)] 40 (0, 0)) := by rw [← hW0]; exact blk_more (blk_new w _) _
  have h1 : W0.heap[w.heap.size + 1]? = some (.cells #[.slice (A2 0) (L2 0).length (c2 0), .slice (A2 1) (L2 1).length (c2 1), .slice (A2 2) (L2 2).length (c2 2), .slice (A2 3) (L2 3).length (c2 3), .bool b2, .slice (A2 4) (L2 4).length (c2 4), .slice (A2 5) (L2 5).length (c2 5), .slice (A2 6) (L2 6).length (c2 6)] 40 (0, 0)) := by
    rw [← hW0]
    have := blk_new (w.alloc (.cells #[.slice (A1 0) (L1 0).length (c1 0), .slice (A1 1) (L1 1).length (c1 1), .slice (A1 2) (L1 2).length (c1 2), .slice (A1 3) (L1 3).length (c1 3), .bool b1, .slice (A1 4) (L1 4).length (c1 4), .slice (A1 5) (L1 5).length (c1 5), .slice (A1 6) (L1 6).length (c1 6)] 40)) (.cells #[.slice (A2 0) (L2 0).length (c2 0), .slice (A2 1) (L2 1).length (c2 1), .slice (A2 2) (L2 2).length (c2 2), .slice (A2 3) (L2 3).length (c2 3), .bool b2, .slice (A2 4) (L2 4).length (c2 4), .slice (A2 5) (L2 5).length (c2 5), .slice (A2 6) (L2 6).length (c2 6)] 40)
    rw [World.size_alloc] at this
    exact this
  have a0 : W0.cell? ⟨w.heap.size, 0, none⟩ = some (.slice (A1 0) (L1 0).length (c1 0)) := blk_cell h0 0
  have a1 : W0.cell? ⟨w.heap.size, 1, none⟩ = some (.slice (A1 1) (L1 1).length (c1 1)) := blk_cell h0 1
  have a2 : W0.cell? ⟨w.heap.size, 2, none⟩ = some (.slice (A1 2) (L1 2).length (c1 2)) := blk_cell h0 2
  have a3 : W0.cell? ⟨w.heap.size, 3, none⟩ = some (.slice (A1 3) (L1 3).length (c1 3)) := blk_cell h0 3
  have a4 : W0.cell? ⟨w.heap.size, 4, none⟩ = some (.bool b1) := blk_cell h0 4
  have a5 : W0.cell? ⟨w.heap.size, 5, none⟩ = some (.slice (A1 4) (L1 4).length (c1 4)) := blk_cell h0 5
  have a6 : W0.cell? ⟨w.heap.size, 6, none⟩ = some (.slice (A1 5) (L1 5).length (c1 5)) := blk_cell h0 6
  have a7 : W0.cell? ⟨w.heap.size, 7, none⟩ = some (.slice (A1 6) (L1 6).length (c1 6)) := blk_cell h0 7
  have m0 : W0.cell? ⟨w.heap.size + 1, 0, none⟩ = some (.slice (A2 0) (L2 0).length (c2 0)) := blk_cell h1 0
  have m1 : W0.cell? ⟨w.heap.size + 1, 1, none⟩ = some (.slice (A2 1) (L2 1).length (c2 1)) := blk_cell h1 1
  have m2 : W0.cell? ⟨w.heap.size + 1, 2, none⟩ = some (.slice (A2 2) (L2 2).length (c2 2)) := blk_cell h1 2
  have m3 : W0.cell? ⟨w.heap.size + 1, 3, none⟩ = some (.slice (A2 3) (L2 3).length (c2 3)) := blk_cell h1 3
  have m4 : W0.cell? ⟨w.heap.size + 1, 4, none⟩ = some (.bool b2) := blk_cell h1 4
  have m5 : W0.cell? ⟨w.heap.size + 1, 5, none⟩ = some (.slice (A2 4) (L2 4).length (c2 4)) := blk_cell h1 5
  have m6 : W0.cell? ⟨w.heap.size + 1, 6, none⟩ = some (.slice (A2 5) (L2 5).length (c2 5)) := blk_cell h1 6
  have m7 : W0.cell? ⟨w.heap.size + 1, 7, none⟩ = some (.slice (A2 6) (L2 6).length (c2 6)) := blk_cell h1 7
  have HT := Lib.hid hT
  have K1 := greatCl_yes b1 A1 c1 L1 W0 f0 hf0 h
  unfold vCl at K1 ⊢
  clear h hT h0 h1
  go_enter Tryd.func6, Tryd.ntmps6
  go_wp2_with fail
  try rw [hW0]
  clear hW0
  refine K1.mono ?_
  rintro e w1 ⟨rfl, hb1⟩
  have HB1 := Lib.hid (HB0.out.trans (hb1.mono HB0.out.size))
  have K6 := lives28_any w1 (HT.out.below HB1.out)
  clear K1 hb1
  go_wp2_with fail
  refine K6.mono ?_
  rintro e w4 ⟨rfl, hb4⟩
  go_wp2
  go_ret
  exact ⟨rfl, HB1.out.trans (hb4.mono HB1.out.size)⟩
set_option maxHeartbeats 3200000 in
set_option maxRecDepth 20000 in
theorem calFields_out2 (b1 b2 : Bool) (A1 A2 : Nat → Option Addr) (c1 c2 : Nat → Nat) (L1 L2 : Nat → List Q4) (z : Int) (w : World) (hl1 : ∀ f, f < 7 → (L1 f).length ≤ 500) (f0 : Nat) (hf0 : f0 < 7) (h : 500 < (L2 f0).length) (hT : TabCl w) :
    Calls Tryd.prog 6 #[vCl b1 A1 c1 L1, vCl b2 A2 c2 L2, .int .i64 z] w fun e w' => e = .returned (.bool true) ∧ Below w.heap.size w w' := by
  obtain ⟨W0, hW0⟩ : ∃ W0, (w.alloc (.cells #[.slice (A1 0) (L1 0).length (c1 0), .slice (A1 1) (L1 1).length (c1 1), .slice (A1 2) (L1 2).length (c1 2), .slice (A1 3) (L1 3).length (c1 3), .bool b1, .slice (A1 4) (L1 4).length (c1 4), .slice (A1 5) (L1 5).length (c1 5), .slice (A1 6) (L1 6).length (c1 6)] 40)).alloc (.cells #[.slice (A2 0) (L2 0).length (c2 0), .slice (A2 1) (L2 1).length (c2 1), .slice (A2 2) (L2 2).length (c2 2), .slice (A2 3) (L2 3).length (c2 3), .bool b2, .slice (A2 4) (L2 4).length (c2 4), .slice (A2 5) (L2 5).length (c2 5), .slice (A2 6) (L2 6).length (c2 6)] 40) = W0 := ⟨_, rfl⟩
  have HB0 := Lib.hid (show Below w.heap.size w W0 by rw [← hW0]; exact ((Below.refl _ _).alloc (Nat.le_refl _) _).alloc (by simp) _)
  have h0 : W0.heap[w.heap.size]? = some (.cells #[.slice (A1 0) (L1 0).length (c1 0), .slice (A1 1) (L1 1).length (c1 1), .slice (A1 2) (L1 2).length (c1 2), .slice (A1 3) (L1 3).length (c1 3), .bool b1, .slice (A1 4) (L1 4).length (c1 4), .slice (A1 5) (L1 5).length (c1 5), .slice (A1 6) (L1 6).length (c1 6)] 40 (0, 0)) := by rw [← hW0]; exact blk_more (blk_new w _) _
  have h1 : W0.heap[w.heap.size + 1]? = some (.cells #[.slice (A2 0) (L2 0).length (c2 0), .slice (A2 1) (L2 1).length (c2 1), .slice (A2 2) (L2 2).length (c2 2), .slice (A2 3) (L2 3).length (c2 3), .bool b2, .slice (A2 4) (L2 4).length (c2 4), .slice (A2 5) (L2 5).length (c2 5), .slice (A2 6) (L2 6).length (c2 6)] 40 (0, 0)) := by
    rw [← hW0]
    have := blk_new (w.alloc (.cells #[.slice (A1 0) (L1 0).length (c1 0), .slice (A1 1) (L1 1).length (c1 1), .slice (A1 2) (L1 2).length (c1 2), .slice (A1 3) (L1 3).length (c1 3), .bool b1, .slice (A1 4) (L1 4).length (c1 4), .slice (A1 5) (L1 5).length (c1 5), .slice (A1 6) (L1 6).length (c1 6)] 40)) (.cells #[.slice (A2 0) (L2 0).length (c2 0), .slice (A2 1) (L2 1).length (c2 1), .slice (A2 2) (L2 2).length (c2 2), .slice (A2 3) (L2 3).length (c2 3), .bool b2, .slice (A2 4) (L2 4).length (c2 4), .slice (A2 5) (L2 5).length (c2 5), .slice (A2 6) (L2 6).length (c2 6)] 40)
    rw [World.size_alloc] at this
    exact this
  have a0 : W0.cell? ⟨w.heap.size, 0, none⟩ = some (.slice (A1 0) (L1 0).length (c1 0)) := blk_cell h0 0
  have a1 : W0.cell? ⟨w.heap.size, 1, none⟩ = some (.slice (A1 1) (L1 1).length (c1 1)) := blk_cell h0 1
  have a2 : W0.cell? ⟨w.heap.size, 2, none⟩ = some (.slice (A1 2) (L1 2).length (c1 2)) := blk_cell h0 2
  have a3 : W0.cell? ⟨w.heap.size, 3, none⟩ = some (.slice (A1 3) (L1 3).length (c1 3)) := blk_cell h0 3
  have a4 : W0.cell? ⟨w.heap.size, 4, none⟩ = some (.bool b1) := blk_cell h0 4
  have a5 : W0.cell? ⟨w.heap.size, 5, none⟩ = some (.slice (A1 4) (L1 4).length (c1 4)) := blk_cell h0 5
  have a6 : W0.cell? ⟨w.heap.size, 6, none⟩ = some (.slice (A1 5) (L1 5).length (c1 5)) := blk_cell h0 6
  have a7 : W0.cell? ⟨w.heap.size, 7, none⟩ = some (.slice (A1 6) (L1 6).length (c1 6)) := blk_cell h0 7
  have m0 : W0.cell? ⟨w.heap.size + 1, 0, none⟩ = some (.slice (A2 0) (L2 0).length (c2 0)) := blk_cell h1 0
  have m1 : W0.cell? ⟨w.heap.size + 1, 1, none⟩ = some (.slice (A2 1) (L2 1).length (c2 1)) := blk_cell h1 1
  have m2 : W0.cell? ⟨w.heap.size + 1, 2, none⟩ = some (.slice (A2 2) (L2 2).length (c2 2)) := blk_cell h1 2
  have m3 : W0.cell? ⟨w.heap.size + 1, 3, none⟩ = some (.slice (A2 3) (L2 3).length (c2 3)) := blk_cell h1 3
  have m4 : W0.cell? ⟨w.heap.size + 1, 4, none⟩ = some (.bool b2) := blk_cell h1 4
  have m5 : W0.cell? ⟨w.heap.size + 1, 5, none⟩ = some (.slice (A2 4) (L2 4).length (c2 4)) := blk_cell h1 5
  have m6 : W0.cell? ⟨w.heap.size + 1, 6, none⟩ = some (.slice (A2 5) (L2 5).length (c2 5)) := blk_cell h1 6
  have m7 : W0.cell? ⟨w.heap.size + 1, 7, none⟩ = some (.slice (A2 6) (L2 6).length (c2 6)) := blk_cell h1 7
  have HT := Lib.hid hT
  have K1 := greatCl_no b1 A1 c1 L1 W0 hl1
  have K2 := fun W => greatCl_yes b2 A2 c2 L2 W f0 hf0 h
  have HG0 := Lib.hid h0
  have HD0 := Lib.hid h1
  unfold vCl at K1 K2 ⊢
  clear h hT hl1 h0 h1
  go_enter Tryd.func6, Tryd.ntmps6
  go_wp2_with fail
  try rw [hW0]
  clear hW0
  refine K1.mono ?_
  rintro e w1 ⟨rfl, hb1⟩
  have HB1 := Lib.hid (HB0.out.trans (hb1.mono HB0.out.size))
  have g1 := (hb1.block _ (lt_of_block HG0.out)).trans HG0.out
  have g2 := (hb1.block _ (lt_of_block HD0.out)).trans HD0.out
  have x0 : w1.cell? ⟨w.heap.size, 0, none⟩ = some (.slice (A1 0) (L1 0).length (c1 0)) := blk_cell g1 0
  have x1 : w1.cell? ⟨w.heap.size, 1, none⟩ = some (.slice (A1 1) (L1 1).length (c1 1)) := blk_cell g1 1
  have x2 : w1.cell? ⟨w.heap.size, 2, none⟩ = some (.slice (A1 2) (L1 2).length (c1 2)) := blk_cell g1 2
  have x3 : w1.cell? ⟨w.heap.size, 3, none⟩ = some (.slice (A1 3) (L1 3).length (c1 3)) := blk_cell g1 3
  have x4 : w1.cell? ⟨w.heap.size, 4, none⟩ = some (.bool b1) := blk_cell g1 4
  have x5 : w1.cell? ⟨w.heap.size, 5, none⟩ = some (.slice (A1 4) (L1 4).length (c1 4)) := blk_cell g1 5
  have x6 : w1.cell? ⟨w.heap.size, 6, none⟩ = some (.slice (A1 5) (L1 5).length (c1 5)) := blk_cell g1 6
  have x7 : w1.cell? ⟨w.heap.size, 7, none⟩ = some (.slice (A1 6) (L1 6).length (c1 6)) := blk_cell g1 7
  have y0 : w1.cell? ⟨w.heap.size + 1, 0, none⟩ = some (.slice (A2 0) (L2 0).length (c2 0)) := blk_cell g2 0
  have y1 : w1.cell? ⟨w.heap.size + 1, 1, none⟩ = some (.slice (A2 1) (L2 1).length (c2 1)) := blk_cell g2 1
  have y2 : w1.cell? ⟨w.heap.size + 1, 2, none⟩ = some (.slice (A2 2) (L2 2).length (c2 2)) := blk_cell g2 2
  have y3 : w1.cell? ⟨w.heap.size + 1, 3, none⟩ = some (.slice (A2 3) (L2 3).length (c2 3)) := blk_cell g2 3
  have y4 : w1.cell? ⟨w.heap.size + 1, 4, none⟩ = some (.bool b2) := blk_cell g2 4
  have y5 : w1.cell? ⟨w.heap.size + 1, 5, none⟩ = some (.slice (A2 4) (L2 4).length (c2 4)) := blk_cell g2 5
  have y6 : w1.cell? ⟨w.heap.size + 1, 6, none⟩ = some (.slice (A2 5) (L2 5).length (c2 5)) := blk_cell g2 6
  have y7 : w1.cell? ⟨w.heap.size + 1, 7, none⟩ = some (.slice (A2 6) (L2 6).length (c2 6)) := blk_cell g2 7
  have HG1 := Lib.hid g1
  have HD1 := Lib.hid g2
  clear K1 hb1 g1 g2 a0 a1 a2 a3 a4 a5 a6 a7 m0 m1 m2 m3 m4 m5 m6 m7
  go_wp2_with fail
  refine (K2 _).mono ?_
  rintro e w2 ⟨rfl, hb2⟩
  have HB2 := Lib.hid (HB1.out.trans (hb2.mono HB1.out.size))
  have K6 := lives28_any w2 (HT.out.below HB2.out)
  clear K2 hb2 x0 x1 x2 x3 x4 x5 x6 x7 y0 y1 y2 y3 y4 y5 y6 y7
  go_wp2_with fail
  refine K6.mono ?_
  rintro e w4 ⟨rfl, hb4⟩
  go_wp2
  go_ret
  exact ⟨rfl, HB2.out.trans (hb4.mono HB2.out.size)⟩
set_option maxHeartbeats 12800000 in
set_option maxRecDepth 100000 in
theorem calFields_core (b1 b2 : Bool) (A1 A2 : Nat → Option Addr) (c1 c2 : Nat → Nat) (L1 L2 : Nat → List Q4) (z : Int) (w : World) (hl1 : ∀ f, f < 7 → (L1 f).length ≤ 500) (hl2 : ∀ f, f < 7 → (L2 f).length ≤ 500) (hL1 : Lists 7 w A1 c1 L1) (hL2 : Lists 7 w A2 c2 L2) (hT : TabCl w) (lo hi : Int) (qs : List Q4) (hqs : qs.length ≤ 1000000)
    (KB : ∀ W, TabCl W → Calls Tryd.prog 26 #[.int .i64 z] W fun e w' => e = .returned (.tuple #[.int .i64 lo, .int .i64 hi]) ∧ Below W.heap.size W w')
    (KRB : ∀ W, Calls Tryd.prog 27 #[.int .i64 z] W fun e w' => e = .returned (.tuple #[.int .i64 lo, .int .i64 hi]) ∧ Below W.heap.size W w')
    (KF : ∀ W, Lists 7 W A1 c1 L1 → Calls Tryd.prog 28 #[.agg #[.slice (A1 0) (L1 0).length (c1 0), .slice (A1 1) (L1 1).length (c1 1), .slice (A1 2) (L1 2).length (c1 2), .slice (A1 3) (L1 3).length (c1 3), .bool b1, .slice (A1 4) (L1 4).length (c1 4), .slice (A1 5) (L1 5).length (c1 5), .slice (A1 6) (L1 6).length (c1 6)], .int .i64 z] W fun e w' => ∃ P p, e = .returned (.slice P qs.length p) ∧ ItemsAt w' P qs ∧ Below W.heap.size W w')
    (KRF : ∀ W, Lists 7 W A1 c1 L1 → Calls Tryd.prog 29 #[.agg #[.slice (A1 0) (L1 0).length (c1 0), .slice (A1 1) (L1 1).length (c1 1), .slice (A1 2) (L1 2).length (c1 2), .slice (A1 3) (L1 3).length (c1 3), .bool b1, .slice (A1 4) (L1 4).length (c1 4), .slice (A1 5) (L1 5).length (c1 5), .slice (A1 6) (L1 6).length (c1 6)], .int .i64 z] W fun e w' => ∃ P p, e = .returned (.slice P qs.length p) ∧ ItemsAt w' P qs ∧ Below W.heap.size W w') :
    Calls Tryd.prog 6 #[vCl b1 A1 c1 L1, vCl b2 A2 c2 L2, .int .i64 z] w fun e w' => e = .returned (.bool true) ∧ Below w.heap.size w w' := by
  obtain ⟨W0, hW0⟩ : ∃ W0, (w.alloc (.cells #[.slice (A1 0) (L1 0).length (c1 0), .slice (A1 1) (L1 1).length (c1 1), .slice (A1 2) (L1 2).length (c1 2), .slice (A1 3) (L1 3).length (c1 3), .bool b1, .slice (A1 4) (L1 4).length (c1 4), .slice (A1 5) (L1 5).length (c1 5), .slice (A1 6) (L1 6).length (c1 6)] 40)).alloc (.cells #[.slice (A2 0) (L2 0).length (c2 0), .slice (A2 1) (L2 1).length (c2 1), .slice (A2 2) (L2 2).length (c2 2), .slice (A2 3) (L2 3).length (c2 3), .bool b2, .slice (A2 4) (L2 4).length (c2 4), .slice (A2 5) (L2 5).length (c2 5), .slice (A2 6) (L2 6).length (c2 6)] 40) = W0 := ⟨_, rfl⟩
  have HB0 := Lib.hid (show Below w.heap.size w W0 by rw [← hW0]; exact ((Below.refl _ _).alloc (Nat.le_refl _) _).alloc (by simp) _)
  have h0 : W0.heap[w.heap.size]? = some (.cells #[.slice (A1 0) (L1 0).length (c1 0), .slice (A1 1) (L1 1).length (c1 1), .slice (A1 2) (L1 2).length (c1 2), .slice (A1 3) (L1 3).length (c1 3), .bool b1, .slice (A1 4) (L1 4).length (c1 4), .slice (A1 5) (L1 5).length (c1 5), .slice (A1 6) (L1 6).length (c1 6)] 40 (0, 0)) := by rw [← hW0]; exact blk_more (blk_new w _) _
  have h1 : W0.heap[w.heap.size + 1]? = some (.cells #[.slice (A2 0) (L2 0).length (c2 0), .slice (A2 1) (L2 1).length (c2 1), .slice (A2 2) (L2 2).length (c2 2), .slice (A2 3) (L2 3).length (c2 3), .bool b2, .slice (A2 4) (L2 4).length (c2 4), .slice (A2 5) (L2 5).length (c2 5), .slice (A2 6) (L2 6).length (c2 6)] 40 (0, 0)) := by
    rw [← hW0]
    have := blk_new (w.alloc (.cells #[.slice (A1 0) (L1 0).length (c1 0), .slice (A1 1) (L1 1).length (c1 1), .slice (A1 2) (L1 2).length (c1 2), .slice (A1 3) (L1 3).length (c1 3), .bool b1, .slice (A1 4) (L1 4).length (c1 4), .slice (A1 5) (L1 5).length (c1 5), .slice (A1 6) (L1 6).length (c1 6)] 40)) (.cells #[.slice (A2 0) (L2 0).length (c2 0), .slice (A2 1) (L2 1).length (c2 1), .slice (A2 2) (L2 2).length (c2 2), .slice (A2 3) (L2 3).length (c2 3), .bool b2, .slice (A2 4) (L2 4).length (c2 4), .slice (A2 5) (L2 5).length (c2 5), .slice (A2 6) (L2 6).length (c2 6)] 40)
    rw [World.size_alloc] at this
    exact this
  have a0 : W0.cell? ⟨w.heap.size, 0, none⟩ = some (.slice (A1 0) (L1 0).length (c1 0)) := blk_cell h0 0
  have a1 : W0.cell? ⟨w.heap.size, 1, none⟩ = some (.slice (A1 1) (L1 1).length (c1 1)) := blk_cell h0 1
  have a2 : W0.cell? ⟨w.heap.size, 2, none⟩ = some (.slice (A1 2) (L1 2).length (c1 2)) := blk_cell h0 2
  have a3 : W0.cell? ⟨w.heap.size, 3, none⟩ = some (.slice (A1 3) (L1 3).length (c1 3)) := blk_cell h0 3
  have a4 : W0.cell? ⟨w.heap.size, 4, none⟩ = some (.bool b1) := blk_cell h0 4
  have a5 : W0.cell? ⟨w.heap.size, 5, none⟩ = some (.slice (A1 4) (L1 4).length (c1 4)) := blk_cell h0 5
  have a6 : W0.cell? ⟨w.heap.size, 6, none⟩ = some (.slice (A1 5) (L1 5).length (c1 5)) := blk_cell h0 6
  have a7 : W0.cell? ⟨w.heap.size, 7, none⟩ = some (.slice (A1 6) (L1 6).length (c1 6)) := blk_cell h0 7
  have m0 : W0.cell? ⟨w.heap.size + 1, 0, none⟩ = some (.slice (A2 0) (L2 0).length (c2 0)) := blk_cell h1 0
  have m1 : W0.cell? ⟨w.heap.size + 1, 1, none⟩ = some (.slice (A2 1) (L2 1).length (c2 1)) := blk_cell h1 1
  have m2 : W0.cell? ⟨w.heap.size + 1, 2, none⟩ = some (.slice (A2 2) (L2 2).length (c2 2)) := blk_cell h1 2
  have m3 : W0.cell? ⟨w.heap.size + 1, 3, none⟩ = some (.slice (A2 3) (L2 3).length (c2 3)) := blk_cell h1 3
  have m4 : W0.cell? ⟨w.heap.size + 1, 4, none⟩ = some (.bool b2) := blk_cell h1 4
  have m5 : W0.cell? ⟨w.heap.size + 1, 5, none⟩ = some (.slice (A2 4) (L2 4).length (c2 4)) := blk_cell h1 5
  have m6 : W0.cell? ⟨w.heap.size + 1, 6, none⟩ = some (.slice (A2 5) (L2 5).length (c2 5)) := blk_cell h1 6
  have m7 : W0.cell? ⟨w.heap.size + 1, 7, none⟩ = some (.slice (A2 6) (L2 6).length (c2 6)) := blk_cell h1 7
  have HT := Lib.hid hT
  have HL1 := Lib.hid hL1
  have HL2 := Lib.hid hL2
  have HLe1 := Lib.hid (show ∀ f, f < 7 → (L1 f).length ≤ 1000000 from fun f hf => by have := hl1 f hf; omega)
  have HLe2 := Lib.hid (show ∀ f, f < 7 → (L2 f).length ≤ 1000000 from fun f hf => by have := hl2 f hf; omega)
  have K1 := greatCl_no b1 A1 c1 L1 W0 hl1
  have K2 := fun W => greatCl_no b2 A2 c2 L2 W hl2
  have HG0 := Lib.hid h0
  have HD0 := Lib.hid h1
  unfold vCl at K1 K2 ⊢
  clear hT hl1 hl2 hL1 hL2 h0 h1
  go_enter Tryd.func6, Tryd.ntmps6
  go_wp2_with fail
  try rw [hW0]
  clear hW0
  refine K1.mono ?_
  rintro e w1 ⟨rfl, hb1⟩
  have HB1 := Lib.hid (HB0.out.trans (hb1.mono HB0.out.size))
  have g1 := (hb1.block _ (lt_of_block HG0.out)).trans HG0.out
  have g2 := (hb1.block _ (lt_of_block HD0.out)).trans HD0.out
  have x0 : w1.cell? ⟨w.heap.size, 0, none⟩ = some (.slice (A1 0) (L1 0).length (c1 0)) := blk_cell g1 0
  have x1 : w1.cell? ⟨w.heap.size, 1, none⟩ = some (.slice (A1 1) (L1 1).length (c1 1)) := blk_cell g1 1
  have x2 : w1.cell? ⟨w.heap.size, 2, none⟩ = some (.slice (A1 2) (L1 2).length (c1 2)) := blk_cell g1 2
  have x3 : w1.cell? ⟨w.heap.size, 3, none⟩ = some (.slice (A1 3) (L1 3).length (c1 3)) := blk_cell g1 3
  have x4 : w1.cell? ⟨w.heap.size, 4, none⟩ = some (.bool b1) := blk_cell g1 4
  have x5 : w1.cell? ⟨w.heap.size, 5, none⟩ = some (.slice (A1 4) (L1 4).length (c1 4)) := blk_cell g1 5
  have x6 : w1.cell? ⟨w.heap.size, 6, none⟩ = some (.slice (A1 5) (L1 5).length (c1 5)) := blk_cell g1 6
  have x7 : w1.cell? ⟨w.heap.size, 7, none⟩ = some (.slice (A1 6) (L1 6).length (c1 6)) := blk_cell g1 7
  have y0 : w1.cell? ⟨w.heap.size + 1, 0, none⟩ = some (.slice (A2 0) (L2 0).length (c2 0)) := blk_cell g2 0
  have y1 : w1.cell? ⟨w.heap.size + 1, 1, none⟩ = some (.slice (A2 1) (L2 1).length (c2 1)) := blk_cell g2 1
  have y2 : w1.cell? ⟨w.heap.size + 1, 2, none⟩ = some (.slice (A2 2) (L2 2).length (c2 2)) := blk_cell g2 2
  have y3 : w1.cell? ⟨w.heap.size + 1, 3, none⟩ = some (.slice (A2 3) (L2 3).length (c2 3)) := blk_cell g2 3
  have y4 : w1.cell? ⟨w.heap.size + 1, 4, none⟩ = some (.bool b2) := blk_cell g2 4
  have y5 : w1.cell? ⟨w.heap.size + 1, 5, none⟩ = some (.slice (A2 4) (L2 4).length (c2 4)) := blk_cell g2 5
  have y6 : w1.cell? ⟨w.heap.size + 1, 6, none⟩ = some (.slice (A2 5) (L2 5).length (c2 5)) := blk_cell g2 6
  have y7 : w1.cell? ⟨w.heap.size + 1, 7, none⟩ = some (.slice (A2 6) (L2 6).length (c2 6)) := blk_cell g2 7
  have HG1 := Lib.hid g1
  have HD1 := Lib.hid g2
  clear K1 hb1 g1 g2 a0 a1 a2 a3 a4 a5 a6 a7 m0 m1 m2 m3 m4 m5 m6 m7
  go_wp2_with fail
  refine (K2 _).mono ?_
  rintro e w2 ⟨rfl, hb2⟩
  have HB2 := Lib.hid (HB1.out.trans (hb2.mono HB1.out.size))
  have g1 := (hb2.block _ (lt_of_block HG1.out)).trans HG1.out
  have g2 := (hb2.block _ (lt_of_block HD1.out)).trans HD1.out
  clear x0 x1 x2 x3 x4 x5 x6 x7 y0 y1 y2 y3 y4 y5 y6 y7
  have x0 : w2.cell? ⟨w.heap.size, 0, none⟩ = some (.slice (A1 0) (L1 0).length (c1 0)) := blk_cell g1 0
  have x1 : w2.cell? ⟨w.heap.size, 1, none⟩ = some (.slice (A1 1) (L1 1).length (c1 1)) := blk_cell g1 1
  have x2 : w2.cell? ⟨w.heap.size, 2, none⟩ = some (.slice (A1 2) (L1 2).length (c1 2)) := blk_cell g1 2
  have x3 : w2.cell? ⟨w.heap.size, 3, none⟩ = some (.slice (A1 3) (L1 3).length (c1 3)) := blk_cell g1 3
  have x4 : w2.cell? ⟨w.heap.size, 4, none⟩ = some (.bool b1) := blk_cell g1 4
  have x5 : w2.cell? ⟨w.heap.size, 5, none⟩ = some (.slice (A1 4) (L1 4).length (c1 4)) := blk_cell g1 5
  have x6 : w2.cell? ⟨w.heap.size, 6, none⟩ = some (.slice (A1 5) (L1 5).length (c1 5)) := blk_cell g1 6
  have x7 : w2.cell? ⟨w.heap.size, 7, none⟩ = some (.slice (A1 6) (L1 6).length (c1 6)) := blk_cell g1 7
  have y0 : w2.cell? ⟨w.heap.size + 1, 0, none⟩ = some (.slice (A2 0) (L2 0).length (c2 0)) := blk_cell g2 0
  have y1 : w2.cell? ⟨w.heap.size + 1, 1, none⟩ = some (.slice (A2 1) (L2 1).length (c2 1)) := blk_cell g2 1
  have y2 : w2.cell? ⟨w.heap.size + 1, 2, none⟩ = some (.slice (A2 2) (L2 2).length (c2 2)) := blk_cell g2 2
  have y3 : w2.cell? ⟨w.heap.size + 1, 3, none⟩ = some (.slice (A2 3) (L2 3).length (c2 3)) := blk_cell g2 3
  have y4 : w2.cell? ⟨w.heap.size + 1, 4, none⟩ = some (.bool b2) := blk_cell g2 4
  have y5 : w2.cell? ⟨w.heap.size + 1, 5, none⟩ = some (.slice (A2 4) (L2 4).length (c2 4)) := blk_cell g2 5
  have y6 : w2.cell? ⟨w.heap.size + 1, 6, none⟩ = some (.slice (A2 5) (L2 5).length (c2 5)) := blk_cell g2 6
  have y7 : w2.cell? ⟨w.heap.size + 1, 7, none⟩ = some (.slice (A2 6) (L2 6).length (c2 6)) := blk_cell g2 7
  have HG2 := Lib.hid g1
  have HD2 := Lib.hid g2
  clear K2 hb2 g1 g2
  go_wp2_with fail
  refine (KB w2 (HT.out.below HB2.out)).mono ?_
  rintro e w3 ⟨rfl, hb3⟩
  have HB3 := Lib.hid (HB2.out.trans (hb3.mono HB2.out.size))
  have g1 := (hb3.block _ (lt_of_block HG2.out)).trans HG2.out
  have g2 := (hb3.block _ (lt_of_block HD2.out)).trans HD2.out
  clear x0 x1 x2 x3 x4 x5 x6 x7 y0 y1 y2 y3 y4 y5 y6 y7
  have x0 : w3.cell? ⟨w.heap.size, 0, none⟩ = some (.slice (A1 0) (L1 0).length (c1 0)) := blk_cell g1 0
  have x1 : w3.cell? ⟨w.heap.size, 1, none⟩ = some (.slice (A1 1) (L1 1).length (c1 1)) := blk_cell g1 1
  have x2 : w3.cell? ⟨w.heap.size, 2, none⟩ = some (.slice (A1 2) (L1 2).length (c1 2)) := blk_cell g1 2
  have x3 : w3.cell? ⟨w.heap.size, 3, none⟩ = some (.slice (A1 3) (L1 3).length (c1 3)) := blk_cell g1 3
  have x4 : w3.cell? ⟨w.heap.size, 4, none⟩ = some (.bool b1) := blk_cell g1 4
  have x5 : w3.cell? ⟨w.heap.size, 5, none⟩ = some (.slice (A1 4) (L1 4).length (c1 4)) := blk_cell g1 5
  have x6 : w3.cell? ⟨w.heap.size, 6, none⟩ = some (.slice (A1 5) (L1 5).length (c1 5)) := blk_cell g1 6
  have x7 : w3.cell? ⟨w.heap.size, 7, none⟩ = some (.slice (A1 6) (L1 6).length (c1 6)) := blk_cell g1 7
  have y0 : w3.cell? ⟨w.heap.size + 1, 0, none⟩ = some (.slice (A2 0) (L2 0).length (c2 0)) := blk_cell g2 0
  have y1 : w3.cell? ⟨w.heap.size + 1, 1, none⟩ = some (.slice (A2 1) (L2 1).length (c2 1)) := blk_cell g2 1
  have y2 : w3.cell? ⟨w.heap.size + 1, 2, none⟩ = some (.slice (A2 2) (L2 2).length (c2 2)) := blk_cell g2 2
  have y3 : w3.cell? ⟨w.heap.size + 1, 3, none⟩ = some (.slice (A2 3) (L2 3).length (c2 3)) := blk_cell g2 3
  have y4 : w3.cell? ⟨w.heap.size + 1, 4, none⟩ = some (.bool b2) := blk_cell g2 4
  have y5 : w3.cell? ⟨w.heap.size + 1, 5, none⟩ = some (.slice (A2 4) (L2 4).length (c2 4)) := blk_cell g2 5
  have y6 : w3.cell? ⟨w.heap.size + 1, 6, none⟩ = some (.slice (A2 5) (L2 5).length (c2 5)) := blk_cell g2 6
  have y7 : w3.cell? ⟨w.heap.size + 1, 7, none⟩ = some (.slice (A2 6) (L2 6).length (c2 6)) := blk_cell g2 7
  have HG3 := Lib.hid g1
  have HD3 := Lib.hid g2
  clear KB hb3 g1 g2
  go_wp2_with fail
  refine (KRB w3).mono ?_
  rintro e w4 ⟨rfl, hb4⟩
  have HB4 := Lib.hid (HB3.out.trans (hb4.mono HB3.out.size))
  have g1 := (hb4.block _ (lt_of_block HG3.out)).trans HG3.out
  have g2 := (hb4.block _ (lt_of_block HD3.out)).trans HD3.out
  clear x0 x1 x2 x3 x4 x5 x6 x7 y0 y1 y2 y3 y4 y5 y6 y7
  have x0 : w4.cell? ⟨w.heap.size, 0, none⟩ = some (.slice (A1 0) (L1 0).length (c1 0)) := blk_cell g1 0
  have x1 : w4.cell? ⟨w.heap.size, 1, none⟩ = some (.slice (A1 1) (L1 1).length (c1 1)) := blk_cell g1 1
  have x2 : w4.cell? ⟨w.heap.size, 2, none⟩ = some (.slice (A1 2) (L1 2).length (c1 2)) := blk_cell g1 2
  have x3 : w4.cell? ⟨w.heap.size, 3, none⟩ = some (.slice (A1 3) (L1 3).length (c1 3)) := blk_cell g1 3
  have x4 : w4.cell? ⟨w.heap.size, 4, none⟩ = some (.bool b1) := blk_cell g1 4
  have x5 : w4.cell? ⟨w.heap.size, 5, none⟩ = some (.slice (A1 4) (L1 4).length (c1 4)) := blk_cell g1 5
  have x6 : w4.cell? ⟨w.heap.size, 6, none⟩ = some (.slice (A1 5) (L1 5).length (c1 5)) := blk_cell g1 6
  have x7 : w4.cell? ⟨w.heap.size, 7, none⟩ = some (.slice (A1 6) (L1 6).length (c1 6)) := blk_cell g1 7
  have y0 : w4.cell? ⟨w.heap.size + 1, 0, none⟩ = some (.slice (A2 0) (L2 0).length (c2 0)) := blk_cell g2 0
  have y1 : w4.cell? ⟨w.heap.size + 1, 1, none⟩ = some (.slice (A2 1) (L2 1).length (c2 1)) := blk_cell g2 1
  have y2 : w4.cell? ⟨w.heap.size + 1, 2, none⟩ = some (.slice (A2 2) (L2 2).length (c2 2)) := blk_cell g2 2
  have y3 : w4.cell? ⟨w.heap.size + 1, 3, none⟩ = some (.slice (A2 3) (L2 3).length (c2 3)) := blk_cell g2 3
  have y4 : w4.cell? ⟨w.heap.size + 1, 4, none⟩ = some (.bool b2) := blk_cell g2 4
  have y5 : w4.cell? ⟨w.heap.size + 1, 5, none⟩ = some (.slice (A2 4) (L2 4).length (c2 4)) := blk_cell g2 5
  have y6 : w4.cell? ⟨w.heap.size + 1, 6, none⟩ = some (.slice (A2 5) (L2 5).length (c2 5)) := blk_cell g2 6
  have y7 : w4.cell? ⟨w.heap.size + 1, 7, none⟩ = some (.slice (A2 6) (L2 6).length (c2 6)) := blk_cell g2 7
  have HG4 := Lib.hid g1
  have HD4 := Lib.hid g2
  clear KRB hb4 g1 g2
  have g1 := HG4.out
  have g2 := HD4.out
  have hgl := lt_of_block g1
  have hdl := lt_of_block g2
  have HLW1 := Lib.hid (HL1.out.below HB4.out)
  have HLW2 := Lib.hid (HL2.out.below HB4.out)
  have HTW := Lib.hid (HT.out.below HB4.out)
  have HBW := HB4
  have K8 := fun W P Q cp cq hp hq => isame_any P Q cp cq qs qs W hqs hqs hp hq
  rw [show sameQ qs qs = true from decide_eq_true rfl] at K8
  have K9 : ∀ W, Lists 7 W A1 c1 L1 → Lists 7 W A2 c2 L2 → Calls Tryd.prog 30 #[.agg #[.slice (A1 0) (L1 0).length (c1 0), .slice (A1 1) (L1 1).length (c1 1), .slice (A1 2) (L1 2).length (c1 2), .slice (A1 3) (L1 3).length (c1 3), .bool b1, .slice (A1 4) (L1 4).length (c1 4), .slice (A1 5) (L1 5).length (c1 5), .slice (A1 6) (L1 6).length (c1 6)], .agg #[.slice (A2 0) (L2 0).length (c2 0), .slice (A2 1) (L2 1).length (c2 1), .slice (A2 2) (L2 2).length (c2 2), .slice (A2 3) (L2 3).length (c2 3), .bool b2, .slice (A2 4) (L2 4).length (c2 4), .slice (A2 5) (L2 5).length (c2 5), .slice (A2 6) (L2 6).length (c2 6)]] W fun e w' => e = .returned (.bool (sameR 7 L1 L2 && (b1 == b2))) ∧ Below W.heap.size W w' := fun W h1 h2 => sameCl_any b1 b2 A1 A2 c1 c2 L1 L2 W h1 h2 HLe1.out HLe2.out
  have K10 : ∀ W, Lists 7 W A1 c1 L1 → Lists 7 W A2 c2 L2 → Calls Tryd.prog 31 #[.agg #[.slice (A1 0) (L1 0).length (c1 0), .slice (A1 1) (L1 1).length (c1 1), .slice (A1 2) (L1 2).length (c1 2), .slice (A1 3) (L1 3).length (c1 3), .bool b1, .slice (A1 4) (L1 4).length (c1 4), .slice (A1 5) (L1 5).length (c1 5), .slice (A1 6) (L1 6).length (c1 6)], .agg #[.slice (A2 0) (L2 0).length (c2 0), .slice (A2 1) (L2 1).length (c2 1), .slice (A2 2) (L2 2).length (c2 2), .slice (A2 3) (L2 3).length (c2 3), .bool b2, .slice (A2 4) (L2 4).length (c2 4), .slice (A2 5) (L2 5).length (c2 5), .slice (A2 6) (L2 6).length (c2 6)]] W fun e w' => e = .returned (.bool (sameR 7 L1 L2 && (b1 == b2))) ∧ Below W.heap.size W w' := fun W h1 h2 => rsameCl_any b1 b2 A1 A2 c1 c2 L1 L2 W h1 h2 HLe1.out HLe2.out
  have K11 : ∀ W, Lists 7 W A2 c2 L2 → Calls Tryd.prog 30 #[.agg #[.slice (A2 0) (L2 0).length (c2 0), .slice (A2 1) (L2 1).length (c2 1), .slice (A2 2) (L2 2).length (c2 2), .slice (A2 3) (L2 3).length (c2 3), .bool b2, .slice (A2 4) (L2 4).length (c2 4), .slice (A2 5) (L2 5).length (c2 5), .slice (A2 6) (L2 6).length (c2 6)], .agg #[.slice (A2 0) (L2 0).length (c2 0), .slice (A2 1) (L2 1).length (c2 1), .slice (A2 2) (L2 2).length (c2 2), .slice (A2 3) (L2 3).length (c2 3), .bool b2, .slice (A2 4) (L2 4).length (c2 4), .slice (A2 5) (L2 5).length (c2 5), .slice (A2 6) (L2 6).length (c2 6)]] W fun e w' => e = .returned (.bool true) ∧ Below W.heap.size W w' := fun W h1 => by
    have h := sameCl_any b2 b2 A2 A2 c2 c2 L2 L2 W h1 h1 HLe2.out HLe2.out
    rw [sameR_yes 7 L2 L2 (fun f _ => rfl), show (true && (b2 == b2)) = true by simp] at h
    exact h
  generalize hs12 : (sameR 7 L1 L2 && (b1 == b2)) = s12 at K9 K10
  clear hs12
  have HS := keepCl hgl hdl (show Below w4.heap.size w4 w4.drew from (Below.refl _ _).drew) ⟨Below.refl _ _, x0, x1, x2, x3, x4, x5, x6, x7, y0, y1, y2, y3, y4, y5, y6, y7⟩
  clear g1 g2 x0 x1 x2 x3 x4 x5 x6 x7 y0 y1 y2 y3 y4 y5 y6 y7
  go_wp2_with fail
  go_region_held3 (fun w' => Below w4.heap.size w4 w' ∧ w'.cell? ⟨w.heap.size, 0, none⟩ = some (.slice (A1 0) (L1 0).length (c1 0)) ∧ w'.cell? ⟨w.heap.size, 1, none⟩ = some (.slice (A1 1) (L1 1).length (c1 1)) ∧ w'.cell? ⟨w.heap.size, 2, none⟩ = some (.slice (A1 2) (L1 2).length (c1 2)) ∧ w'.cell? ⟨w.heap.size, 3, none⟩ = some (.slice (A1 3) (L1 3).length (c1 3)) ∧ w'.cell? ⟨w.heap.size, 4, none⟩ = some (.bool b1) ∧ w'.cell? ⟨w.heap.size, 5, none⟩ = some (.slice (A1 4) (L1 4).length (c1 4)) ∧ w'.cell? ⟨w.heap.size, 6, none⟩ = some (.slice (A1 5) (L1 5).length (c1 5)) ∧ w'.cell? ⟨w.heap.size, 7, none⟩ = some (.slice (A1 6) (L1 6).length (c1 6)) ∧ w'.cell? ⟨w.heap.size + 1, 0, none⟩ = some (.slice (A2 0) (L2 0).length (c2 0)) ∧ w'.cell? ⟨w.heap.size + 1, 1, none⟩ = some (.slice (A2 1) (L2 1).length (c2 1)) ∧ w'.cell? ⟨w.heap.size + 1, 2, none⟩ = some (.slice (A2 2) (L2 2).length (c2 2)) ∧ w'.cell? ⟨w.heap.size + 1, 3, none⟩ = some (.slice (A2 3) (L2 3).length (c2 3)) ∧ w'.cell? ⟨w.heap.size + 1, 4, none⟩ = some (.bool b2) ∧ w'.cell? ⟨w.heap.size + 1, 5, none⟩ = some (.slice (A2 4) (L2 4).length (c2 4)) ∧ w'.cell? ⟨w.heap.size + 1, 6, none⟩ = some (.slice (A2 5) (L2 5).length (c2 5)) ∧ w'.cell? ⟨w.heap.size + 1, 7, none⟩ = some (.slice (A2 6) (L2 6).length (c2 6))) (first | exact HS | exact keepCl hgl hdl (by assumption) (by assumption)) (first | (go_at_call 28; with_reducible refine (KF _ (HLW1.out.below (reg_below (by assumption)))).mono ?_; rintro e w2 ⟨P1, p1, rfl, hat1, hb1⟩) | (go_at_call 29; with_reducible refine (KRF _ (HLW1.out.below (reg_below (by assumption)))).mono ?_; rintro e w2 ⟨P2, p2, rfl, hat2, hb2⟩) | (go_at_call 16; with_reducible refine (K8 _ _ _ _ _ (by first | exact hat1 | exact hat1.below hb2) (by first | exact hat2 | exact hat2.below hb1)).mono ?_; rintro e w2 ⟨rfl, hq⟩; have hb3 := qbelow hq) | (go_at_call 30; with_reducible refine (K9 _ (HLW1.out.below (reg_below (by assumption))) (HLW2.out.below (reg_below (by assumption)))).mono ?_; rintro e w2 ⟨rfl, hb7⟩) | (go_at_call 31; with_reducible refine (K10 _ (HLW1.out.below (reg_below (by assumption))) (HLW2.out.below (reg_below (by assumption)))).mono ?_; rintro e w2 ⟨rfl, hb8⟩) | (go_at_call 30; with_reducible refine (K11 _ (HLW2.out.below (reg_below (by assumption)))).mono ?_; rintro e w2 ⟨rfl, hb9⟩) | (go_at_call 23; with_reducible refine (lives28_any _ (HTW.out.below (reg_below (by assumption)))).mono ?_; rintro e w2 ⟨rfl, hb10⟩))
  all_goals (
    have hH : Below w4.heap.size w4 w2 := reg_below (by assumption)
    go_wp2
    go_ret
    exact ⟨rfl, HBW.out.trans (hH.mono HBW.out.size)⟩)
theorem calFields_walk (b1 : Bool) (A1 : Nat → Option Addr) (c1 : Nat → Nat) (L1 : Nat → List Q4) (b2 : Bool) (A2 : Nat → Option Addr) (c2 : Nat → Nat) (L2 : Nat → List Q4) (z : Int) (w : World) (hL1 : Lists 7 w A1 c1 L1) (hL2 : Lists 7 w A2 c2 L2) (wz : (Lit.int .i64 z).wf = true) (hT : TabCl w) :
    Calls Tryd.prog 6 #[vCl b1 A1 c1 L1, vCl b2 A2 c2 L2, .int .i64 z] w fun e w' => e = .returned (.bool true) ∧ Below w.heap.size w w' := by
  by_cases h : ∃ f0, f0 < 7 ∧ 500 < (L1 f0).length
  · obtain ⟨f0, h1, h2⟩ := h
    exact calFields_out1 b1 b2 A1 A2 c1 c2 L1 L2 z w f0 h1 h2 hT
  · have hl1 : ∀ f, f < 7 → (L1 f).length ≤ 500 := fun f hf => by
      rcases Nat.lt_or_ge 500 (L1 f).length with g | g
      · exact absurd ⟨f, hf, g⟩ h
      · exact g
    by_cases h' : ∃ f0, f0 < 7 ∧ 500 < (L2 f0).length
    · obtain ⟨f0, h1, h2⟩ := h'
      exact calFields_out2 b1 b2 A1 A2 c1 c2 L1 L2 z w hl1 f0 h1 h2 hT
    · have hl2 : ∀ f, f < 7 → (L2 f).length ≤ 500 := fun f hf => by
        rcases Nat.lt_or_ge 500 (L2 f).length with g | g
        · exact absurd ⟨f, hf, g⟩ h'
        · exact g
      by_cases hz : z < 0 ∨ 7 ≤ z
      · exact calFields_core b1 b2 A1 A2 c1 c2 L1 L2 z w hl1 hl2 hL1 hL2 hT 0 0 [] (by decide)
          (fun W _ => (boundsCl_out z W hz).mono fun e w' ⟨h1, h2⟩ => ⟨h1, h2 ▸ Below.refl _ _⟩)
          (fun W => (rboundsCl_out z W hz).mono fun e w' ⟨h1, h2⟩ => ⟨h1, h2 ▸ Below.refl _ _⟩)
          (fun W _ => (fieldCl_out z b1 A1 c1 L1 W hz).mono fun e w' ⟨P, p, q1, q2, q3, _⟩ => ⟨P, p, q1, q2, q3⟩)
          (fun W _ => (rfieldCl_out z b1 A1 c1 L1 W hz).mono fun e w' ⟨h1, h2⟩ => ⟨none, 0, h1, ItemsAt.nil _ _, h2⟩) 
      · obtain ⟨f, rfl⟩ : ∃ f : Nat, z = (f : Int) := ⟨z.toNat, by omega⟩
        have hf : f < 7 := by omega
        exact calFields_core b1 b2 A1 A2 c1 c2 L1 L2 (f : Int) w hl1 hl2 hL1 hL2 hT (bdCl f).1 (bdCl f).2 (L1 f) (by have := hl1 f hf; omega)
          (fun W hW => (boundsCl_any f hf W hW).mono fun e w' ⟨h1, h2⟩ => ⟨h1, qbelow h2⟩)
          (fun W => (rboundsCl_any f hf W).mono fun e w' ⟨h1, h2⟩ => ⟨h1, h2 ▸ Below.refl _ _⟩)
          (fun W hW => (fieldCl_any f hf b1 A1 c1 L1 W hW (by have := hl1 f hf; omega)).mono fun e w' ⟨P, p, q1, q2, q3, _⟩ => ⟨P, p, q1, q2, q3⟩)
          (fun W hW => (rfieldCl_any f hf b1 A1 c1 L1 W).mono fun e w' ⟨h1, h2⟩ => ⟨A1 f, c1 f, h1, (hW f hf).1.below h2, h2⟩) 
end Go.Proofs.YtjgifiaokmmjfaaDoor
