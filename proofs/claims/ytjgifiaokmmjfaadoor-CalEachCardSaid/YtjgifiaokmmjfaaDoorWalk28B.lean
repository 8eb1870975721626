/- The walk of CalEach (layer 28). -/
import Derived.Test.YtjgifiaokmmjfaaDoorWalk28
import Derived.Deep.RegionHeld3
import Derived.LoopTactic
import Derived.BigRegion
namespace Go.Proofs.YtjgifiaokmmjfaaDoor
open Go.RowKit
set_option linter.unusedVariables false

theorem wf_u8 {a : Int} (h : (Lit.int .u8 a).wf = true) : ∃ n : Nat, a = n ∧ n ≤ 255 := by
  simp only [Lit.wf, Bool.and_eq_true, decide_eq_true_eq] at h
  have h1 : 0 ≤ a := h.1
  have h2 : a ≤ 255 := h.2
  exact ⟨a.toNat, by omega, by omega⟩
theorem chkGo_zero (E : Nat → Int) : ∀ m f, (chkGo E f m).2 = 0 → ∀ i, f ≤ i → i < f + m → E i = 0
  | 0, f, _, i, h1, h2 => absurd h2 (by omega)
  | m + 1, f, h, i, h1, h2 => by
    by_cases he : E f = 0
    · rw [chkGo_ok E f m he] at h
      by_cases hi : i = f
      · subst hi; exact he
      · exact chkGo_zero E m (f + 1) h i (by omega) (by omega)
    · rw [chkGo_no E f m he] at h
      exact absurd h he
theorem chkGo_all (E : Nat → Int) : ∀ m f, (∀ i, f ≤ i → i < f + m → E i = 0) → chkGo E f m = (((f + m : Nat) : Int), 0)
  | 0, f, _ => rfl
  | m + 1, f, h => by
    rw [chkGo_ok E f m (h f (Nat.le_refl _) (by omega)), chkGo_all E m (f + 1) (fun i h1 h2 => h i (by omega) (by omega))]
    rw [show f + 1 + m = f + (m + 1) by omega]
/-- one field of the second one's -/
def mix {α : Type} (f : Nat) (X Y : Nat → α) : Nat → α := fun i => if i = f then Y i else X i
theorem quiet_below {w w' : World} (h : Quiet w w') : Below w.heap.size w w' := by obtain ⟨n, rfl⟩ := h; exact below_draws _ w n
theorem mix_lists {n f : Nat} {w : World} {A1 A2 : Nat → Option Addr} {c1 c2 : Nat → Nat} {L1 L2 : Nat → List Q4} (h1 : Lists n w A1 c1 L1) (h2 : Lists n w A2 c2 L2) : Lists n w (mix f A1 A2) (mix f c1 c2) (mix f L1 L2) := by
  intro i hi
  unfold mix
  by_cases h : i = f
  · rw [if_pos h, if_pos h, if_pos h]; exact h2 i hi
  · rw [if_neg h, if_neg h, if_neg h]; exact h1 i hi
theorem Lists.but {n : Nat} {w w' : World} {A : Nat → Option Addr} {c : Nat → Nat} {L : Nat → List Q4} (h : Lists n w A c L) {W : World} (hb : Below w.heap.size w W) (g : Nat) (hg : w.heap.size ≤ g) (i : Nat) (v : Value) : Lists n (W.setCell ⟨g, i, none⟩ v) A c L :=
  h.below (hb.setCell (p := ⟨g, i, none⟩) hg v)
theorem each_keep {W0 X Y : World} {g d : Nat} {p0 p1 p2 p3 p4 p5 p6 p7 q0 q1 q2 q3 q4 q5 q6 q7 : Value} (hg : g < W0.heap.size) (hd : d < W0.heap.size) (hb : Below X.heap.size X Y)
    (H : Below W0.heap.size W0 X ∧ X.cell? ⟨g, 0, none⟩ = some p0 ∧ X.cell? ⟨g, 1, none⟩ = some p1 ∧ X.cell? ⟨g, 2, none⟩ = some p2 ∧ X.cell? ⟨g, 3, none⟩ = some p3 ∧ X.cell? ⟨g, 4, none⟩ = some p4 ∧ X.cell? ⟨g, 5, none⟩ = some p5 ∧ X.cell? ⟨g, 6, none⟩ = some p6 ∧ X.cell? ⟨g, 7, none⟩ = some p7 ∧ X.cell? ⟨d, 0, none⟩ = some q0 ∧ X.cell? ⟨d, 1, none⟩ = some q1 ∧ X.cell? ⟨d, 2, none⟩ = some q2 ∧ X.cell? ⟨d, 3, none⟩ = some q3 ∧ X.cell? ⟨d, 4, none⟩ = some q4 ∧ X.cell? ⟨d, 5, none⟩ = some q5 ∧ X.cell? ⟨d, 6, none⟩ = some q6 ∧ X.cell? ⟨d, 7, none⟩ = some q7) : Below W0.heap.size W0 Y ∧ Y.cell? ⟨g, 0, none⟩ = some p0 ∧ Y.cell? ⟨g, 1, none⟩ = some p1 ∧ Y.cell? ⟨g, 2, none⟩ = some p2 ∧ Y.cell? ⟨g, 3, none⟩ = some p3 ∧ Y.cell? ⟨g, 4, none⟩ = some p4 ∧ Y.cell? ⟨g, 5, none⟩ = some p5 ∧ Y.cell? ⟨g, 6, none⟩ = some p6 ∧ Y.cell? ⟨g, 7, none⟩ = some p7 ∧ Y.cell? ⟨d, 0, none⟩ = some q0 ∧ Y.cell? ⟨d, 1, none⟩ = some q1 ∧ Y.cell? ⟨d, 2, none⟩ = some q2 ∧ Y.cell? ⟨d, 3, none⟩ = some q3 ∧ Y.cell? ⟨d, 4, none⟩ = some q4 ∧ Y.cell? ⟨d, 5, none⟩ = some q5 ∧ Y.cell? ⟨d, 6, none⟩ = some q6 ∧ Y.cell? ⟨d, 7, none⟩ = some q7 := by
  obtain ⟨h1, u0, u1, u2, u3, u4, u5, u6, u7, u8, u9, u10, u11, u12, u13, u14, u15⟩ := H
  have hz := h1.size
  have c : ∀ i v, X.cell? ⟨g, i, none⟩ = some v → Y.cell? ⟨g, i, none⟩ = some v := fun i v h => (hb.cell (p := ⟨g, i, none⟩) (by show g < _; omega)).trans h
  have e : ∀ i v, X.cell? ⟨d, i, none⟩ = some v → Y.cell? ⟨d, i, none⟩ = some v := fun i v h => (hb.cell (p := ⟨d, i, none⟩) (by show d < _; omega)).trans h
  exact ⟨h1.trans (hb.mono h1.size), c _ _ u0, c _ _ u1, c _ _ u2, c _ _ u3, c _ _ u4, c _ _ u5, c _ _ u6, c _ _ u7, e _ _ u8, e _ _ u9, e _ _ u10, e _ _ u11, e _ _ u12, e _ _ u13, e _ _ u14, e _ _ u15⟩
theorem each_below {W0 X : World} {P : Prop} (H : Below W0.heap.size W0 X ∧ P) : Below W0.heap.size W0 X := H.1
set_option maxHeartbeats 3200000 in
set_option maxRecDepth 20000 in
theorem each_out1 (b1 b2 : Bool) (A1 A2 : Nat → Option Addr) (c1 c2 : Nat → Nat) (L1 L2 : Nat → List Q4) (K : Nat) (w : World) (f0 : Nat) (hf0 : f0 < 7) (h : 500 < (L1 f0).length) (hT : TabCl w) :
    Calls Tryd.prog 7 #[vCl b1 A1 c1 L1, vCl b2 A2 c2 L2, .int .u8 K] w fun e w' => e = .returned (.bool true) ∧ Below w.heap.size w w' := by
  obtain ⟨W0, hW0⟩ : ∃ W0, (w.alloc (.cells #[.slice (A1 0) (L1 0).length (c1 0), .slice (A1 1) (L1 1).length (c1 1), .slice (A1 2) (L1 2).length (c1 2), .slice (A1 3) (L1 3).length (c1 3), .bool b1, .slice (A1 4) (L1 4).length (c1 4), .slice (A1 5) (L1 5).length (c1 5), .slice (A1 6) (L1 6).length (c1 6)] 40)).alloc (.cells #[.slice (A2 0) (L2 0).length (c2 0), .slice (A2 1) (L2 1).length (c2 1), .slice (A2 2) (L2 2).length (c2 2), .slice (A2 3) (L2 3).length (c2 3), .bool b2, .slice (A2 4) (L2 4).length (c2 4), .slice (A2 5) (L2 5).length (c2 5), .slice (A2 6) (L2 6).length (c2 6)] 40) = W0 := ⟨_, rfl⟩
  have HB0 := Lib.hid (show Below w.heap.size w W0 by rw [← hW0]; exact ((Below.refl _ _).alloc (Nat.le_refl _) _).alloc (by simp) _)
  have h0 : W0.heap[w.heap.size]? = some (.cells #[.slice (A1 0) (L1 0).length (c1 0), .slice (A1 1) (L1 1).length (c1 1), .slice (A1 2) (L1 2).length (c1 2), .slice (A1 3) (L1 3).length (c1 3), .bool b1, .slice (A1 4) (L1 4).length (c1 4), .slice (A1 5) (L1 5).length (c1 5), .slice (A1 6) (L1 6).length (c1 6)] 40 (0, 0)) := by rw [← hW0]; exact blk_more (blk_new w _) _
  have h1 : W0.heap[w.heap.size + 1]? = some (.cells #[.slice (A2 0) (L2 0).length (c2 0), .slice (A2 1) (L2 1).length (c2 1), .slice (A2 2) (L2 2).length (c2 2), .slice (A2 3) (L2 3).length (c2 3), .bool b2, .slice (A2 4) (L2 4).length (c2 4), .slice (A2 5) (L2 5).length (c2 5), .slice (A2 6) (L2 6).length (c2 6)] 40 (0, 0)) := by
    rw [← hW0]
    have := blk_new (w.alloc (.cells #[.slice (A1 0) (L1 0).length (c1 0), .slice (A1 1) (L1 1).length (c1 1), .slice (A1 2) (L1 2).length (c1 2), .slice (A1 3) (L1 3).length (c1 3), .bool b1, .slice (A1 4) (L1 4).length (c1 4), .slice (A1 5) (L1 5).length (c1 5), .slice (A1 6) (L1 6).length (c1 6)] 40)) (.cells #[.slice (A2 0) (L2 0).length (c2 0), .slice (A2 1) (L2 1).length (c2 1), .slice (A2 2) (L2 2).length (c2 2), .slice (A2 3) (L2 3).length (c2 3), .bool b2, .slice (A2 4) (L2 4).length (c2 4), .slice (A2 5) (L2 5).length (c2 5), .slice (A2 6) (L2 6).length (c2 6)] 40)
    rw [World.size_alloc] at this
    exact this
  have a0 : W0.cell? ⟨w.heap.size, 0, none⟩ = some (.slice (A1 0) (L1 0).length (c1 0)) := blk_cell h0 0
  have a1 : W0.cell? ⟨w.heap.size, 1, none⟩ = some (.slice (A1 1) (L1 1).length (c1 1)) := blk_cell h0 1
  have a2 : W0.cell? ⟨w.heap.size, 2, none⟩ = some (.slice (A1 2) (L1 2).length (c1 2)) := blk_cell h0 2
  have a3 : W0.cell? ⟨w.heap.size, 3, none⟩ = some (.slice (A1 3) (L1 3).length (c1 3)) := blk_cell h0 3
  have a4 : W0.cell? ⟨w.heap.size, 4, none⟩ = some (.bool b1) := blk_cell h0 4
  have a5 : W0.cell? ⟨w.heap.size, 5, none⟩ = some (.slice (A1 4) (L1 4).length (c1 4)) := blk_cell h0 5
  have a6 : W0.cell? ⟨w.heap.size, 6, none⟩ = some (.slice (A1 5) (L1 5).length (c1 5)) := blk_cell h0 6
  have a7 : W0.cell? ⟨w.heap.size, 7, none⟩ = some (.slice (A1 6) (L1 6).length (c1 6)) := blk_cell h0 7
  have m0 : W0.cell? ⟨w.heap.size + 1, 0, none⟩ = some (.slice (A2 0) (L2 0).length (c2 0)) := blk_cell h1 0
  have m1 : W0.cell? ⟨w.heap.size + 1, 1, none⟩ = some (.slice (A2 1) (L2 1).length (c2 1)) := blk_cell h1 1
  have m2 : W0.cell? ⟨w.heap.size + 1, 2, none⟩ = some (.slice (A2 2) (L2 2).length (c2 2)) := blk_cell h1 2
  have m3 : W0.cell? ⟨w.heap.size + 1, 3, none⟩ = some (.slice (A2 3) (L2 3).length (c2 3)) := blk_cell h1 3
  have m4 : W0.cell? ⟨w.heap.size + 1, 4, none⟩ = some (.bool b2) := blk_cell h1 4
  have m5 : W0.cell? ⟨w.heap.size + 1, 5, none⟩ = some (.slice (A2 4) (L2 4).length (c2 4)) := blk_cell h1 5
  have m6 : W0.cell? ⟨w.heap.size + 1, 6, none⟩ = some (.slice (A2 5) (L2 5).length (c2 5)) := blk_cell h1 6
  have m7 : W0.cell? ⟨w.heap.size + 1, 7, none⟩ = some (.slice (A2 6) (L2 6).length (c2 6)) := blk_cell h1 7
  have HT := Lib.hid hT
  have K1 := greatCl_yes b1 A1 c1 L1 W0 f0 hf0 h
  unfold vCl at K1 ⊢
  clear h hT h0 h1
  go_enter Tryd.func7, Tryd.ntmps7
  go_wp2_with fail
  try rw [hW0]
  clear hW0
  refine K1.mono ?_
  rintro e w1 ⟨rfl, hb1⟩
  have HB1 := Lib.hid (HB0.out.trans (hb1.mono HB0.out.size))
  have K6 := lives28_any w1 (HT.out.below HB1.out)
  clear K1 hb1
  go_wp2_with fail
  refine K6.mono ?_
  rintro e w4 ⟨rfl, hb4⟩
  go_wp2
  go_ret
  exact ⟨rfl, HB1.out.trans (hb4.mono HB1.out.size)⟩
set_option maxHeartbeats 3200000 in
set_option maxRecDepth 20000 in
theorem each_out2 (b1 b2 : Bool) (A1 A2 : Nat → Option Addr) (c1 c2 : Nat → Nat) (L1 L2 : Nat → List Q4) (K : Nat) (w : World) (hl1 : ∀ f, f < 7 → (L1 f).length ≤ 500) (f0 : Nat) (hf0 : f0 < 7) (h : 500 < (L2 f0).length) (hT : TabCl w) :
    Calls Tryd.prog 7 #[vCl b1 A1 c1 L1, vCl b2 A2 c2 L2, .int .u8 K] w fun e w' => e = .returned (.bool true) ∧ Below w.heap.size w w' := by
  obtain ⟨W0, hW0⟩ : ∃ W0, (w.alloc (.cells #[.slice (A1 0) (L1 0).length (c1 0), .slice (A1 1) (L1 1).length (c1 1), .slice (A1 2) (L1 2).length (c1 2), .slice (A1 3) (L1 3).length (c1 3), .bool b1, .slice (A1 4) (L1 4).length (c1 4), .slice (A1 5) (L1 5).length (c1 5), .slice (A1 6) (L1 6).length (c1 6)] 40)).alloc (.cells #[.slice (A2 0) (L2 0).length (c2 0), .slice (A2 1) (L2 1).length (c2 1), .slice (A2 2) (L2 2).length (c2 2), .slice (A2 3) (L2 3).length (c2 3), .bool b2, .slice (A2 4) (L2 4).length (c2 4), .slice (A2 5) (L2 5).length (c2 5), .slice (A2 6) (L2 6).length (c2 6)] 40) = W0 := ⟨_, rfl⟩
  have HB0 := Lib.hid (show Below w.heap.size w W0 by rw [← hW0]; exact ((Below.refl _ _).alloc (Nat.le_refl _) _).alloc (by simp) _)
  have h0 : W0.heap[w.heap.size]? = some (.cells #[.slice (A1 0) (L1 0).length (c1 0), .slice (A1 1) (L1 1).length (c1 1), .slice (A1 2) (L1 2).length (c1 2), .slice (A1 3) (L1 3).length (c1 3), .bool b1, .slice (A1 4) (L1 4).length (c1 4), .slice (A1 5) (L1 5).length (c1 5), .slice (A1 6) (L1 6).length (c1 6)] 40 (0, 0)) := by rw [← hW0]; exact blk_more (blk_new w _) _
  have h1 : W0.heap[w.heap.size + 1]? = some (.cells #[.slice (A2 0) (L2 0).length (c2 0), .slice (A2 1) (L2 1).length (c2 1), .slice (A2 2) (L2 2).length (c2 2), .slice (A2 3) (L2 3).length (c2 3), .bool b2, .slice (A2 4) (L2 4).length (c2 4), .slice (A2 5) (L2 5).length (c2 5), .slice (A2 6) (L2 6).length (c2 6)] 40 (0, 0)) := by
    rw [← hW0]
    have := blk_new (w.alloc (.cells #[.slice (A1 0) (L1 0).length (c1 0), .slice (A1 1) (L1 1).length (c1 1), .slice (A1 2) (L1 2).length (c1 2), .slice (A1 3) (L1 3).length (c1 3), .bool b1, .slice (A1 4) (L1 4).length (c1 4), .slice (A1 5) (L1 5).length (c1 5), .slice (A1 6) (L1 6).length (c1 6)] 40)) (.cells #[.slice (A2 0) (L2 0).length (c2 0), .slice (A2 1) (L2 1).length (c2 1), .slice (A2 2) (L2 2).length (c2 2), .slice (A2 3) (L2 3).length (c2 3), .bool b2, .slice (A2 4) (L2 4).length (c2 4), .slice (A2 5) (L2 5).length (c2 5), .slice (A2 6) (L2 6).length (c2 6)] 40)
    rw [World.size_alloc] at this
    exact this
  have a0 : W0.cell? ⟨w.heap.size, 0, none⟩ = some (.slice (A1 0) (L1 0).length (c1 0)) := blk_cell h0 0
  have a1 : W0.cell? ⟨w.heap.size, 1, none⟩ = some (.slice (A1 1) (L1 1).length (c1 1)) := blk_cell h0 1
  have a2 : W0.cell? ⟨w.heap.size, 2, none⟩ = some (.slice (A1 2) (L1 2).length (c1 2)) := blk_cell h0 2
  have a3 : W0.cell? ⟨w.heap.size, 3, none⟩ = some (.slice (A1 3) (L1 3).length (c1 3)) := blk_cell h0 3
  have a4 : W0.cell? ⟨w.heap.size, 4, none⟩ = some (.bool b1) := blk_cell h0 4
  have a5 : W0.cell? ⟨w.heap.size, 5, none⟩ = some (.slice (A1 4) (L1 4).length (c1 4)) := blk_cell h0 5
  have a6 : W0.cell? ⟨w.heap.size, 6, none⟩ = some (.slice (A1 5) (L1 5).length (c1 5)) := blk_cell h0 6
  have a7 : W0.cell? ⟨w.heap.size, 7, none⟩ = some (.slice (A1 6) (L1 6).length (c1 6)) := blk_cell h0 7
  have m0 : W0.cell? ⟨w.heap.size + 1, 0, none⟩ = some (.slice (A2 0) (L2 0).length (c2 0)) := blk_cell h1 0
  have m1 : W0.cell? ⟨w.heap.size + 1, 1, none⟩ = some (.slice (A2 1) (L2 1).length (c2 1)) := blk_cell h1 1
  have m2 : W0.cell? ⟨w.heap.size + 1, 2, none⟩ = some (.slice (A2 2) (L2 2).length (c2 2)) := blk_cell h1 2
  have m3 : W0.cell? ⟨w.heap.size + 1, 3, none⟩ = some (.slice (A2 3) (L2 3).length (c2 3)) := blk_cell h1 3
  have m4 : W0.cell? ⟨w.heap.size + 1, 4, none⟩ = some (.bool b2) := blk_cell h1 4
  have m5 : W0.cell? ⟨w.heap.size + 1, 5, none⟩ = some (.slice (A2 4) (L2 4).length (c2 4)) := blk_cell h1 5
  have m6 : W0.cell? ⟨w.heap.size + 1, 6, none⟩ = some (.slice (A2 5) (L2 5).length (c2 5)) := blk_cell h1 6
  have m7 : W0.cell? ⟨w.heap.size + 1, 7, none⟩ = some (.slice (A2 6) (L2 6).length (c2 6)) := blk_cell h1 7
  have HT := Lib.hid hT
  have K1 := greatCl_no b1 A1 c1 L1 W0 hl1
  have K2 := fun W => greatCl_yes b2 A2 c2 L2 W f0 hf0 h
  have HG0 := Lib.hid h0
  have HD0 := Lib.hid h1
  unfold vCl at K1 K2 ⊢
  clear h hT hl1 h0 h1
  go_enter Tryd.func7, Tryd.ntmps7
  go_wp2_with fail
  try rw [hW0]
  clear hW0
  refine K1.mono ?_
  rintro e w1 ⟨rfl, hb1⟩
  have HB1 := Lib.hid (HB0.out.trans (hb1.mono HB0.out.size))
  have g1 := (hb1.block _ (lt_of_block HG0.out)).trans HG0.out
  have g2 := (hb1.block _ (lt_of_block HD0.out)).trans HD0.out
  have x0 : w1.cell? ⟨w.heap.size, 0, none⟩ = some (.slice (A1 0) (L1 0).length (c1 0)) := blk_cell g1 0
  have x1 : w1.cell? ⟨w.heap.size, 1, none⟩ = some (.slice (A1 1) (L1 1).length (c1 1)) := blk_cell g1 1
  have x2 : w1.cell? ⟨w.heap.size, 2, none⟩ = some (.slice (A1 2) (L1 2).length (c1 2)) := blk_cell g1 2
  have x3 : w1.cell? ⟨w.heap.size, 3, none⟩ = some (.slice (A1 3) (L1 3).length (c1 3)) := blk_cell g1 3
  have x4 : w1.cell? ⟨w.heap.size, 4, none⟩ = some (.bool b1) := blk_cell g1 4
  have x5 : w1.cell? ⟨w.heap.size, 5, none⟩ = some (.slice (A1 4) (L1 4).length (c1 4)) := blk_cell g1 5
  have x6 : w1.cell? ⟨w.heap.size, 6, none⟩ = some (.slice (A1 5) (L1 5).length (c1 5)) := blk_cell g1 6
  have x7 : w1.cell? ⟨w.heap.size, 7, none⟩ = some (.slice (A1 6) (L1 6).length (c1 6)) := blk_cell g1 7
  have y0 : w1.cell? ⟨w.heap.size + 1, 0, none⟩ = some (.slice (A2 0) (L2 0).length (c2 0)) := blk_cell g2 0
  have y1 : w1.cell? ⟨w.heap.size + 1, 1, none⟩ = some (.slice (A2 1) (L2 1).length (c2 1)) := blk_cell g2 1
  have y2 : w1.cell? ⟨w.heap.size + 1, 2, none⟩ = some (.slice (A2 2) (L2 2).length (c2 2)) := blk_cell g2 2
  have y3 : w1.cell? ⟨w.heap.size + 1, 3, none⟩ = some (.slice (A2 3) (L2 3).length (c2 3)) := blk_cell g2 3
  have y4 : w1.cell? ⟨w.heap.size + 1, 4, none⟩ = some (.bool b2) := blk_cell g2 4
  have y5 : w1.cell? ⟨w.heap.size + 1, 5, none⟩ = some (.slice (A2 4) (L2 4).length (c2 4)) := blk_cell g2 5
  have y6 : w1.cell? ⟨w.heap.size + 1, 6, none⟩ = some (.slice (A2 5) (L2 5).length (c2 5)) := blk_cell g2 6
  have y7 : w1.cell? ⟨w.heap.size + 1, 7, none⟩ = some (.slice (A2 6) (L2 6).length (c2 6)) := blk_cell g2 7
  have HG1 := Lib.hid g1
  have HD1 := Lib.hid g2
  clear K1 hb1 g1 g2 a0 a1 a2 a3 a4 a5 a6 a7 m0 m1 m2 m3 m4 m5 m6 m7
  go_wp2_with fail
  refine (K2 _).mono ?_
  rintro e w2 ⟨rfl, hb2⟩
  have HB2 := Lib.hid (HB1.out.trans (hb2.mono HB1.out.size))
  have K6 := lives28_any w2 (HT.out.below HB2.out)
  clear K2 hb2 x0 x1 x2 x3 x4 x5 x6 x7 y0 y1 y2 y3 y4 y5 y6 y7
  go_wp2_with fail
  refine K6.mono ?_
  rintro e w4 ⟨rfl, hb4⟩
  go_wp2
  go_ret
  exact ⟨rfl, HB2.out.trans (hb4.mono HB2.out.size)⟩
set_option maxHeartbeats 6400000 in
set_option maxRecDepth 100000 in
theorem each_in (b1 b2 : Bool) (A1 A2 : Nat → Option Addr) (c1 c2 : Nat → Nat) (L1 L2 : Nat → List Q4) (K : Nat) (w : World) (hl1 : ∀ f, f < 7 → (L1 f).length ≤ 500) (hl2 : ∀ f, f < 7 → (L2 f).length ≤ 500) (hL1 : Lists 7 w A1 c1 L1) (hL2 : Lists 7 w A2 c2 L2) (hK : K ≤ 255) (hT : TabCl w) :
    Calls Tryd.prog 7 #[vCl b1 A1 c1 L1, vCl b2 A2 c2 L2, .int .u8 K] w fun e w' => e = .returned (.bool true) ∧ Below w.heap.size w w' := by
  obtain ⟨W0, hW0⟩ : ∃ W0, (w.alloc (.cells #[.slice (A1 0) (L1 0).length (c1 0), .slice (A1 1) (L1 1).length (c1 1), .slice (A1 2) (L1 2).length (c1 2), .slice (A1 3) (L1 3).length (c1 3), .bool b1, .slice (A1 4) (L1 4).length (c1 4), .slice (A1 5) (L1 5).length (c1 5), .slice (A1 6) (L1 6).length (c1 6)] 40)).alloc (.cells #[.slice (A2 0) (L2 0).length (c2 0), .slice (A2 1) (L2 1).length (c2 1), .slice (A2 2) (L2 2).length (c2 2), .slice (A2 3) (L2 3).length (c2 3), .bool b2, .slice (A2 4) (L2 4).length (c2 4), .slice (A2 5) (L2 5).length (c2 5), .slice (A2 6) (L2 6).length (c2 6)] 40) = W0 := ⟨_, rfl⟩
  have HB0 := Lib.hid (show Below w.heap.size w W0 by rw [← hW0]; exact ((Below.refl _ _).alloc (Nat.le_refl _) _).alloc (by simp) _)
  have h0 : W0.heap[w.heap.size]? = some (.cells #[.slice (A1 0) (L1 0).length (c1 0), .slice (A1 1) (L1 1).length (c1 1), .slice (A1 2) (L1 2).length (c1 2), .slice (A1 3) (L1 3).length (c1 3), .bool b1, .slice (A1 4) (L1 4).length (c1 4), .slice (A1 5) (L1 5).length (c1 5), .slice (A1 6) (L1 6).length (c1 6)] 40 (0, 0)) := by rw [← hW0]; exact blk_more (blk_new w _) _
  have h1 : W0.heap[w.heap.size + 1]? = some (.cells #[.slice (A2 0) (L2 0).length (c2 0), .slice (A2 1) (L2 1).length (c2 1), .slice (A2 2) (L2 2).length (c2 2), .slice (A2 3) (L2 3).length (c2 3), .bool b2, .slice (A2 4) (L2 4).length (c2 4), .slice (A2 5) (L2 5).length (c2 5), .slice (A2 6) (L2 6).length (c2 6)] 40 (0, 0)) := by
    rw [← hW0]
    have := blk_new (w.alloc (.cells #[.slice (A1 0) (L1 0).length (c1 0), .slice (A1 1) (L1 1).length (c1 1), .slice (A1 2) (L1 2).length (c1 2), .slice (A1 3) (L1 3).length (c1 3), .bool b1, .slice (A1 4) (L1 4).length (c1 4), .slice (A1 5) (L1 5).length (c1 5), .slice (A1 6) (L1 6).length (c1 6)] 40)) (.cells #[.slice (A2 0) (L2 0).length (c2 0), .slice (A2 1) (L2 1).length (c2 1), .slice (A2 2) (L2 2).length (c2 2), .slice (A2 3) (L2 3).length (c2 3), .bool b2, .slice (A2 4) (L2 4).length (c2 4), .slice (A2 5) (L2 5).length (c2 5), .slice (A2 6) (L2 6).length (c2 6)] 40)
    rw [World.size_alloc] at this
    exact this
  have a0 : W0.cell? ⟨w.heap.size, 0, none⟩ = some (.slice (A1 0) (L1 0).length (c1 0)) := blk_cell h0 0
  have a1 : W0.cell? ⟨w.heap.size, 1, none⟩ = some (.slice (A1 1) (L1 1).length (c1 1)) := blk_cell h0 1
  have a2 : W0.cell? ⟨w.heap.size, 2, none⟩ = some (.slice (A1 2) (L1 2).length (c1 2)) := blk_cell h0 2
  have a3 : W0.cell? ⟨w.heap.size, 3, none⟩ = some (.slice (A1 3) (L1 3).length (c1 3)) := blk_cell h0 3
  have a4 : W0.cell? ⟨w.heap.size, 4, none⟩ = some (.bool b1) := blk_cell h0 4
  have a5 : W0.cell? ⟨w.heap.size, 5, none⟩ = some (.slice (A1 4) (L1 4).length (c1 4)) := blk_cell h0 5
  have a6 : W0.cell? ⟨w.heap.size, 6, none⟩ = some (.slice (A1 5) (L1 5).length (c1 5)) := blk_cell h0 6
  have a7 : W0.cell? ⟨w.heap.size, 7, none⟩ = some (.slice (A1 6) (L1 6).length (c1 6)) := blk_cell h0 7
  have m0 : W0.cell? ⟨w.heap.size + 1, 0, none⟩ = some (.slice (A2 0) (L2 0).length (c2 0)) := blk_cell h1 0
  have m1 : W0.cell? ⟨w.heap.size + 1, 1, none⟩ = some (.slice (A2 1) (L2 1).length (c2 1)) := blk_cell h1 1
  have m2 : W0.cell? ⟨w.heap.size + 1, 2, none⟩ = some (.slice (A2 2) (L2 2).length (c2 2)) := blk_cell h1 2
  have m3 : W0.cell? ⟨w.heap.size + 1, 3, none⟩ = some (.slice (A2 3) (L2 3).length (c2 3)) := blk_cell h1 3
  have m4 : W0.cell? ⟨w.heap.size + 1, 4, none⟩ = some (.bool b2) := blk_cell h1 4
  have m5 : W0.cell? ⟨w.heap.size + 1, 5, none⟩ = some (.slice (A2 4) (L2 4).length (c2 4)) := blk_cell h1 5
  have m6 : W0.cell? ⟨w.heap.size + 1, 6, none⟩ = some (.slice (A2 5) (L2 5).length (c2 5)) := blk_cell h1 6
  have m7 : W0.cell? ⟨w.heap.size + 1, 7, none⟩ = some (.slice (A2 6) (L2 6).length (c2 6)) := blk_cell h1 7
  have HT := Lib.hid hT
  have HL1 := Lib.hid hL1
  have HL2 := Lib.hid hL2
  have HLe1 := Lib.hid (show ∀ f, f < 7 → (L1 f).length ≤ 1000000 from fun f hf => by have := hl1 f hf; omega)
  have HLe2 := Lib.hid (show ∀ f, f < 7 → (L2 f).length ≤ 1000000 from fun f hf => by have := hl2 f hf; omega)
  have K1 := greatCl_no b1 A1 c1 L1 W0 hl1
  have K2 := fun W => greatCl_no b2 A2 c2 L2 W hl2
  have K3 := Lib.hid (fun W hW hTW => checkCl_all b1 A1 c1 L1 W hW HLe1.out hTW)
  have K4 := Lib.hid (fun W hW hTW => checkCl_all b2 A2 c2 L2 W hW HLe2.out hTW)
  have HZ1 := Lib.hid (chkGo_zero (fun f => chkCl f (L1 f)) 7 0)
  have HZ2 := Lib.hid (chkGo_zero (fun f => chkCl f (L2 f)) 7 0)
  generalize (chkGo (fun f => chkCl f (L1 f)) 0 7).1 = r1 at K3
  generalize (chkGo (fun f => chkCl f (L2 f)) 0 7).1 = r2 at K4
  generalize (chkGo (fun f => chkCl f (L1 f)) 0 7).2 = e1 at K3 HZ1
  generalize (chkGo (fun f => chkCl f (L2 f)) 0 7).2 = e2 at K4 HZ2
  have HG0 := Lib.hid h0
  have HD0 := Lib.hid h1
  unfold vCl at K1 K2 K3 K4 ⊢
  clear hT hl1 hl2 hL1 hL2 h0 h1
  go_enter Tryd.func7, Tryd.ntmps7
  go_wp2_with fail
  try rw [hW0]
  clear hW0
  refine K1.mono ?_
  rintro e w1 ⟨rfl, hb1⟩
  have HB1 := Lib.hid (HB0.out.trans (hb1.mono HB0.out.size))
  have g1 := (hb1.block _ (lt_of_block HG0.out)).trans HG0.out
  have g2 := (hb1.block _ (lt_of_block HD0.out)).trans HD0.out
  have x0 : w1.cell? ⟨w.heap.size, 0, none⟩ = some (.slice (A1 0) (L1 0).length (c1 0)) := blk_cell g1 0
  have x1 : w1.cell? ⟨w.heap.size, 1, none⟩ = some (.slice (A1 1) (L1 1).length (c1 1)) := blk_cell g1 1
  have x2 : w1.cell? ⟨w.heap.size, 2, none⟩ = some (.slice (A1 2) (L1 2).length (c1 2)) := blk_cell g1 2
  have x3 : w1.cell? ⟨w.heap.size, 3, none⟩ = some (.slice (A1 3) (L1 3).length (c1 3)) := blk_cell g1 3
  have x4 : w1.cell? ⟨w.heap.size, 4, none⟩ = some (.bool b1) := blk_cell g1 4
  have x5 : w1.cell? ⟨w.heap.size, 5, none⟩ = some (.slice (A1 4) (L1 4).length (c1 4)) := blk_cell g1 5
  have x6 : w1.cell? ⟨w.heap.size, 6, none⟩ = some (.slice (A1 5) (L1 5).length (c1 5)) := blk_cell g1 6
  have x7 : w1.cell? ⟨w.heap.size, 7, none⟩ = some (.slice (A1 6) (L1 6).length (c1 6)) := blk_cell g1 7
  have y0 : w1.cell? ⟨w.heap.size + 1, 0, none⟩ = some (.slice (A2 0) (L2 0).length (c2 0)) := blk_cell g2 0
  have y1 : w1.cell? ⟨w.heap.size + 1, 1, none⟩ = some (.slice (A2 1) (L2 1).length (c2 1)) := blk_cell g2 1
  have y2 : w1.cell? ⟨w.heap.size + 1, 2, none⟩ = some (.slice (A2 2) (L2 2).length (c2 2)) := blk_cell g2 2
  have y3 : w1.cell? ⟨w.heap.size + 1, 3, none⟩ = some (.slice (A2 3) (L2 3).length (c2 3)) := blk_cell g2 3
  have y4 : w1.cell? ⟨w.heap.size + 1, 4, none⟩ = some (.bool b2) := blk_cell g2 4
  have y5 : w1.cell? ⟨w.heap.size + 1, 5, none⟩ = some (.slice (A2 4) (L2 4).length (c2 4)) := blk_cell g2 5
  have y6 : w1.cell? ⟨w.heap.size + 1, 6, none⟩ = some (.slice (A2 5) (L2 5).length (c2 5)) := blk_cell g2 6
  have y7 : w1.cell? ⟨w.heap.size + 1, 7, none⟩ = some (.slice (A2 6) (L2 6).length (c2 6)) := blk_cell g2 7
  have HG1 := Lib.hid g1
  have HD1 := Lib.hid g2
  clear K1 hb1 g1 g2 a0 a1 a2 a3 a4 a5 a6 a7 m0 m1 m2 m3 m4 m5 m6 m7
  go_wp2_with fail
  refine (K2 _).mono ?_
  rintro e w2 ⟨rfl, hb2⟩
  have HB2 := Lib.hid (HB1.out.trans (hb2.mono HB1.out.size))
  have g1 := (hb2.block _ (lt_of_block HG1.out)).trans HG1.out
  have g2 := (hb2.block _ (lt_of_block HD1.out)).trans HD1.out
  clear x0 x1 x2 x3 x4 x5 x6 x7 y0 y1 y2 y3 y4 y5 y6 y7
  have x0 : w2.cell? ⟨w.heap.size, 0, none⟩ = some (.slice (A1 0) (L1 0).length (c1 0)) := blk_cell g1 0
  have x1 : w2.cell? ⟨w.heap.size, 1, none⟩ = some (.slice (A1 1) (L1 1).length (c1 1)) := blk_cell g1 1
  have x2 : w2.cell? ⟨w.heap.size, 2, none⟩ = some (.slice (A1 2) (L1 2).length (c1 2)) := blk_cell g1 2
  have x3 : w2.cell? ⟨w.heap.size, 3, none⟩ = some (.slice (A1 3) (L1 3).length (c1 3)) := blk_cell g1 3
  have x4 : w2.cell? ⟨w.heap.size, 4, none⟩ = some (.bool b1) := blk_cell g1 4
  have x5 : w2.cell? ⟨w.heap.size, 5, none⟩ = some (.slice (A1 4) (L1 4).length (c1 4)) := blk_cell g1 5
  have x6 : w2.cell? ⟨w.heap.size, 6, none⟩ = some (.slice (A1 5) (L1 5).length (c1 5)) := blk_cell g1 6
  have x7 : w2.cell? ⟨w.heap.size, 7, none⟩ = some (.slice (A1 6) (L1 6).length (c1 6)) := blk_cell g1 7
  have y0 : w2.cell? ⟨w.heap.size + 1, 0, none⟩ = some (.slice (A2 0) (L2 0).length (c2 0)) := blk_cell g2 0
  have y1 : w2.cell? ⟨w.heap.size + 1, 1, none⟩ = some (.slice (A2 1) (L2 1).length (c2 1)) := blk_cell g2 1
  have y2 : w2.cell? ⟨w.heap.size + 1, 2, none⟩ = some (.slice (A2 2) (L2 2).length (c2 2)) := blk_cell g2 2
  have y3 : w2.cell? ⟨w.heap.size + 1, 3, none⟩ = some (.slice (A2 3) (L2 3).length (c2 3)) := blk_cell g2 3
  have y4 : w2.cell? ⟨w.heap.size + 1, 4, none⟩ = some (.bool b2) := blk_cell g2 4
  have y5 : w2.cell? ⟨w.heap.size + 1, 5, none⟩ = some (.slice (A2 4) (L2 4).length (c2 4)) := blk_cell g2 5
  have y6 : w2.cell? ⟨w.heap.size + 1, 6, none⟩ = some (.slice (A2 5) (L2 5).length (c2 5)) := blk_cell g2 6
  have y7 : w2.cell? ⟨w.heap.size + 1, 7, none⟩ = some (.slice (A2 6) (L2 6).length (c2 6)) := blk_cell g2 7
  have HG2 := Lib.hid g1
  have HD2 := Lib.hid g2
  have K5 := K3.out w2 (HL1.out.below HB2.out) (HT.out.below HB2.out)
  clear K2 hb2 g1 g2
  go_wp2_with fail
  refine K5.mono ?_
  rintro e w3 ⟨rfl, hb3⟩
  have HB3 := Lib.hid (HB2.out.trans (hb3.mono HB2.out.size))
  have g1 := (hb3.block _ (lt_of_block HG2.out)).trans HG2.out
  have g2 := (hb3.block _ (lt_of_block HD2.out)).trans HD2.out
  clear x0 x1 x2 x3 x4 x5 x6 x7 y0 y1 y2 y3 y4 y5 y6 y7
  have x0 : w3.cell? ⟨w.heap.size, 0, none⟩ = some (.slice (A1 0) (L1 0).length (c1 0)) := blk_cell g1 0
  have x1 : w3.cell? ⟨w.heap.size, 1, none⟩ = some (.slice (A1 1) (L1 1).length (c1 1)) := blk_cell g1 1
  have x2 : w3.cell? ⟨w.heap.size, 2, none⟩ = some (.slice (A1 2) (L1 2).length (c1 2)) := blk_cell g1 2
  have x3 : w3.cell? ⟨w.heap.size, 3, none⟩ = some (.slice (A1 3) (L1 3).length (c1 3)) := blk_cell g1 3
  have x4 : w3.cell? ⟨w.heap.size, 4, none⟩ = some (.bool b1) := blk_cell g1 4
  have x5 : w3.cell? ⟨w.heap.size, 5, none⟩ = some (.slice (A1 4) (L1 4).length (c1 4)) := blk_cell g1 5
  have x6 : w3.cell? ⟨w.heap.size, 6, none⟩ = some (.slice (A1 5) (L1 5).length (c1 5)) := blk_cell g1 6
  have x7 : w3.cell? ⟨w.heap.size, 7, none⟩ = some (.slice (A1 6) (L1 6).length (c1 6)) := blk_cell g1 7
  have y0 : w3.cell? ⟨w.heap.size + 1, 0, none⟩ = some (.slice (A2 0) (L2 0).length (c2 0)) := blk_cell g2 0
  have y1 : w3.cell? ⟨w.heap.size + 1, 1, none⟩ = some (.slice (A2 1) (L2 1).length (c2 1)) := blk_cell g2 1
  have y2 : w3.cell? ⟨w.heap.size + 1, 2, none⟩ = some (.slice (A2 2) (L2 2).length (c2 2)) := blk_cell g2 2
  have y3 : w3.cell? ⟨w.heap.size + 1, 3, none⟩ = some (.slice (A2 3) (L2 3).length (c2 3)) := blk_cell g2 3
  have y4 : w3.cell? ⟨w.heap.size + 1, 4, none⟩ = some (.bool b2) := blk_cell g2 4
  have y5 : w3.cell? ⟨w.heap.size + 1, 5, none⟩ = some (.slice (A2 4) (L2 4).length (c2 4)) := blk_cell g2 5
  have y6 : w3.cell? ⟨w.heap.size + 1, 6, none⟩ = some (.slice (A2 5) (L2 5).length (c2 5)) := blk_cell g2 6
  have y7 : w3.cell? ⟨w.heap.size + 1, 7, none⟩ = some (.slice (A2 6) (L2 6).length (c2 6)) := blk_cell g2 7
  have HG3 := Lib.hid g1
  have HD3 := Lib.hid g2
  have K6 := K4.out w3 (HL2.out.below HB3.out) (HT.out.below HB3.out)
  clear K5 hb3 g1 g2
  go_wp2_with fail
  refine K6.mono ?_
  rintro e w4 ⟨rfl, hb4⟩
  have HB4 := Lib.hid (HB3.out.trans (hb4.mono HB3.out.size))
  have g1 := (hb4.block _ (lt_of_block HG3.out)).trans HG3.out
  have g2 := (hb4.block _ (lt_of_block HD3.out)).trans HD3.out
  clear x0 x1 x2 x3 x4 x5 x6 x7 y0 y1 y2 y3 y4 y5 y6 y7
  have HG4 := Lib.hid g1
  have HD4 := Lib.hid g2
  clear K6 hb4
  by_cases he : e1 = 0 ∧ e2 = 0
  · obtain ⟨he1, he2⟩ := he
    have d1 : (e1 == 0) = true := by rw [beq_iff_eq]; exact he1
    have d2 : (e2 == 0) = true := by rw [beq_iff_eq]; exact he2
    have d3 : (e1 != 0) = false := by rw [bne_eq_false_iff_eq]; exact he1
    have d4 : (e2 != 0) = false := by rw [bne_eq_false_iff_eq]; exact he2
    have HZ1 := Lib.hid (HZ1.out he1)
    have HZ2 := Lib.hid (HZ2.out he2)
    clear he1 he2
    have z0 : w4.cell? ⟨w.heap.size, 0, none⟩ = some (.slice (A1 0) (L1 0).length (c1 0)) := blk_cell g1 0
    have z1 : w4.cell? ⟨w.heap.size, 1, none⟩ = some (.slice (A1 1) (L1 1).length (c1 1)) := blk_cell g1 1
    have z2 : w4.cell? ⟨w.heap.size, 2, none⟩ = some (.slice (A1 2) (L1 2).length (c1 2)) := blk_cell g1 2
    have z3 : w4.cell? ⟨w.heap.size, 3, none⟩ = some (.slice (A1 3) (L1 3).length (c1 3)) := blk_cell g1 3
    have z4 : w4.cell? ⟨w.heap.size, 4, none⟩ = some (.bool b1) := blk_cell g1 4
    have z5 : w4.cell? ⟨w.heap.size, 5, none⟩ = some (.slice (A1 4) (L1 4).length (c1 4)) := blk_cell g1 5
    have z6 : w4.cell? ⟨w.heap.size, 6, none⟩ = some (.slice (A1 5) (L1 5).length (c1 5)) := blk_cell g1 6
    have z7 : w4.cell? ⟨w.heap.size, 7, none⟩ = some (.slice (A1 6) (L1 6).length (c1 6)) := blk_cell g1 7
    have y0 : w4.cell? ⟨w.heap.size + 1, 0, none⟩ = some (.slice (A2 0) (L2 0).length (c2 0)) := blk_cell g2 0
    have y1 : w4.cell? ⟨w.heap.size + 1, 1, none⟩ = some (.slice (A2 1) (L2 1).length (c2 1)) := blk_cell g2 1
    have y2 : w4.cell? ⟨w.heap.size + 1, 2, none⟩ = some (.slice (A2 2) (L2 2).length (c2 2)) := blk_cell g2 2
    have y3 : w4.cell? ⟨w.heap.size + 1, 3, none⟩ = some (.slice (A2 3) (L2 3).length (c2 3)) := blk_cell g2 3
    have y4 : w4.cell? ⟨w.heap.size + 1, 4, none⟩ = some (.bool b2) := blk_cell g2 4
    have y5 : w4.cell? ⟨w.heap.size + 1, 5, none⟩ = some (.slice (A2 4) (L2 4).length (c2 4)) := blk_cell g2 5
    have y6 : w4.cell? ⟨w.heap.size + 1, 6, none⟩ = some (.slice (A2 5) (L2 5).length (c2 5)) := blk_cell g2 6
    have y7 : w4.cell? ⟨w.heap.size + 1, 7, none⟩ = some (.slice (A2 6) (L2 6).length (c2 6)) := blk_cell g2 7
    clear g1 g2
    have hr : K % 7 < 7 := Nat.mod_lt _ (by omega)
    rcases (show K % 7 = 0 ∨ K % 7 = 1 ∨ K % 7 = 2 ∨ K % 7 = 3 ∨ K % 7 = 4 ∨ K % 7 = 5 ∨ K % 7 = 6 by omega) with h0 | h1 | h2 | h3 | h4 | h5 | h6
    · have HF := Lib.hid (show K % 7 = 0 by omega)
      have er : (K : Int) % 7 = 0 := by omega
      have fz : w4.frozen? ⟨w.heap.size, 0, none⟩ = false := blk_free HG4.out 0
      obtain ⟨W5, hW5⟩ : ∃ W5, w4.setCell ⟨w.heap.size, 0, none⟩ (.slice (A2 0) (L2 0).length (c2 0)) = W5 := ⟨_, rfl⟩
      have h5 : W5.heap[w.heap.size]? = some (.cells #[.slice (A2 0) (L2 0).length (c2 0), .slice (A1 1) (L1 1).length (c1 1), .slice (A1 2) (L1 2).length (c1 2), .slice (A1 3) (L1 3).length (c1 3), .bool b1, .slice (A1 4) (L1 4).length (c1 4), .slice (A1 5) (L1 5).length (c1 5), .slice (A1 6) (L1 6).length (c1 6)] 40 (0, 0)) := by rw [← hW5]; exact blk_put HG4.out 0 _
      have h6 : W5.heap[w.heap.size + 1]? = some (.cells #[.slice (A2 0) (L2 0).length (c2 0), .slice (A2 1) (L2 1).length (c2 1), .slice (A2 2) (L2 2).length (c2 2), .slice (A2 3) (L2 3).length (c2 3), .bool b2, .slice (A2 4) (L2 4).length (c2 4), .slice (A2 5) (L2 5).length (c2 5), .slice (A2 6) (L2 6).length (c2 6)] 40 (0, 0)) := by rw [← hW5]; exact blk_else HD4.out _ (by show w.heap.size + 1 ≠ w.heap.size; omega) _
      have HB5 := Lib.hid (show Below w.heap.size w W5 by rw [← hW5]; exact HB4.out.setCell (p := ⟨w.heap.size, 0, none⟩) (Nat.le_refl _) _)
      have v0 : W5.cell? ⟨w.heap.size, 0, none⟩ = some (.slice (A2 0) (L2 0).length (c2 0)) := blk_cell h5 0
      have v1 : W5.cell? ⟨w.heap.size, 1, none⟩ = some (.slice (A1 1) (L1 1).length (c1 1)) := blk_cell h5 1
      have v2 : W5.cell? ⟨w.heap.size, 2, none⟩ = some (.slice (A1 2) (L1 2).length (c1 2)) := blk_cell h5 2
      have v3 : W5.cell? ⟨w.heap.size, 3, none⟩ = some (.slice (A1 3) (L1 3).length (c1 3)) := blk_cell h5 3
      have v4 : W5.cell? ⟨w.heap.size, 4, none⟩ = some (.bool b1) := blk_cell h5 4
      have v5 : W5.cell? ⟨w.heap.size, 5, none⟩ = some (.slice (A1 4) (L1 4).length (c1 4)) := blk_cell h5 5
      have v6 : W5.cell? ⟨w.heap.size, 6, none⟩ = some (.slice (A1 5) (L1 5).length (c1 5)) := blk_cell h5 6
      have v7 : W5.cell? ⟨w.heap.size, 7, none⟩ = some (.slice (A1 6) (L1 6).length (c1 6)) := blk_cell h5 7
      have u0 : W5.cell? ⟨w.heap.size + 1, 0, none⟩ = some (.slice (A2 0) (L2 0).length (c2 0)) := blk_cell h6 0
      have u1 : W5.cell? ⟨w.heap.size + 1, 1, none⟩ = some (.slice (A2 1) (L2 1).length (c2 1)) := blk_cell h6 1
      have u2 : W5.cell? ⟨w.heap.size + 1, 2, none⟩ = some (.slice (A2 2) (L2 2).length (c2 2)) := blk_cell h6 2
      have u3 : W5.cell? ⟨w.heap.size + 1, 3, none⟩ = some (.slice (A2 3) (L2 3).length (c2 3)) := blk_cell h6 3
      have u4 : W5.cell? ⟨w.heap.size + 1, 4, none⟩ = some (.bool b2) := blk_cell h6 4
      have u5 : W5.cell? ⟨w.heap.size + 1, 5, none⟩ = some (.slice (A2 4) (L2 4).length (c2 4)) := blk_cell h6 5
      have u6 : W5.cell? ⟨w.heap.size + 1, 6, none⟩ = some (.slice (A2 5) (L2 5).length (c2 5)) := blk_cell h6 6
      have u7 : W5.cell? ⟨w.heap.size + 1, 7, none⟩ = some (.slice (A2 6) (L2 6).length (c2 6)) := blk_cell h6 7
      have HL5 := Lib.hid (mix_lists (f := 0) (HL1.out.below HB5.out) (HL2.out.below HB5.out))
      have HL52 := Lib.hid (HL2.out.below HB5.out)
      have K5 := checkCl_all b1 (mix 0 A1 A2) (mix 0 c1 c2) (mix 0 L1 L2) W5 HL5.out (fun f hf => by unfold mix; split; exact HLe2.out f hf; exact HLe1.out f hf) (HT.out.below HB5.out)
      rw [chkGo_all _ 7 0 (fun i _ hi => by unfold mix; split; exact HZ2.out i (Nat.zero_le _) hi; exact HZ1.out i (Nat.zero_le _) hi)] at K5
      rw [show vCl b1 (mix 0 A1 A2) (mix 0 c1 c2) (mix 0 L1 L2) = .agg #[.slice (A2 0) (L2 0).length (c2 0), .slice (A1 1) (L1 1).length (c1 1), .slice (A1 2) (L1 2).length (c1 2), .slice (A1 3) (L1 3).length (c1 3), .bool b1, .slice (A1 4) (L1 4).length (c1 4), .slice (A1 5) (L1 5).length (c1 5), .slice (A1 6) (L1 6).length (c1 6)] from rfl] at K5
      have K6 : ∀ W, Lists 7 W (mix 0 A1 A2) (mix 0 c1 c2) (mix 0 L1 L2) → Calls Tryd.prog 28 #[.agg #[.slice (A2 0) (L2 0).length (c2 0), .slice (A1 1) (L1 1).length (c1 1), .slice (A1 2) (L1 2).length (c1 2), .slice (A1 3) (L1 3).length (c1 3), .bool b1, .slice (A1 4) (L1 4).length (c1 4), .slice (A1 5) (L1 5).length (c1 5), .slice (A1 6) (L1 6).length (c1 6)], .int .i64 0] W fun e w' => ∃ P p, e = .returned (.slice P (L2 0).length p) ∧ ItemsAt w' P (L2 0) ∧ Below W.heap.size W w' :=
        fun W hW => (fieldCl_any 0 (by omega) b1 (mix 0 A1 A2) (mix 0 c1 c2) (mix 0 L1 L2) W hW (HLe2.out 0 (by omega))).mono (fun e w' ⟨P, p, q1, q2, q3, _⟩ => ⟨P, p, q1, q2, q3⟩)
      have K7 : ∀ W, Lists 7 W A2 c2 L2 → Calls Tryd.prog 28 #[.agg #[.slice (A2 0) (L2 0).length (c2 0), .slice (A2 1) (L2 1).length (c2 1), .slice (A2 2) (L2 2).length (c2 2), .slice (A2 3) (L2 3).length (c2 3), .bool b2, .slice (A2 4) (L2 4).length (c2 4), .slice (A2 5) (L2 5).length (c2 5), .slice (A2 6) (L2 6).length (c2 6)], .int .i64 0] W fun e w' => ∃ P p, e = .returned (.slice P (L2 0).length p) ∧ ItemsAt w' P (L2 0) ∧ Below W.heap.size W w' :=
        fun W hW => (fieldCl_any 0 (by omega) b2 A2 c2 L2 W hW (HLe2.out 0 (by omega))).mono (fun e w' ⟨P, p, q1, q2, q3, _⟩ => ⟨P, p, q1, q2, q3⟩)
      have K8 := fun W P Q cp cq hp hq => isame_any P Q cp cq (L2 0) (L2 0) W (HLe2.out 0 (by omega)) (HLe2.out 0 (by omega)) hp hq
      rw [show sameQ (L2 0) (L2 0) = true from decide_eq_true rfl] at K8
      simp only [] at K5
      have hg5 := lt_of_block h5
      have hd5 := lt_of_block h6
      have HS0 := Lib.hid (show Below W5.heap.size W5 W5 ∧ W5.cell? ⟨w.heap.size, 0, none⟩ = some (.slice (A2 0) (L2 0).length (c2 0)) ∧ W5.cell? ⟨w.heap.size, 1, none⟩ = some (.slice (A1 1) (L1 1).length (c1 1)) ∧ W5.cell? ⟨w.heap.size, 2, none⟩ = some (.slice (A1 2) (L1 2).length (c1 2)) ∧ W5.cell? ⟨w.heap.size, 3, none⟩ = some (.slice (A1 3) (L1 3).length (c1 3)) ∧ W5.cell? ⟨w.heap.size, 4, none⟩ = some (.bool b1) ∧ W5.cell? ⟨w.heap.size, 5, none⟩ = some (.slice (A1 4) (L1 4).length (c1 4)) ∧ W5.cell? ⟨w.heap.size, 6, none⟩ = some (.slice (A1 5) (L1 5).length (c1 5)) ∧ W5.cell? ⟨w.heap.size, 7, none⟩ = some (.slice (A1 6) (L1 6).length (c1 6)) ∧ W5.cell? ⟨w.heap.size + 1, 0, none⟩ = some (.slice (A2 0) (L2 0).length (c2 0)) ∧ W5.cell? ⟨w.heap.size + 1, 1, none⟩ = some (.slice (A2 1) (L2 1).length (c2 1)) ∧ W5.cell? ⟨w.heap.size + 1, 2, none⟩ = some (.slice (A2 2) (L2 2).length (c2 2)) ∧ W5.cell? ⟨w.heap.size + 1, 3, none⟩ = some (.slice (A2 3) (L2 3).length (c2 3)) ∧ W5.cell? ⟨w.heap.size + 1, 4, none⟩ = some (.bool b2) ∧ W5.cell? ⟨w.heap.size + 1, 5, none⟩ = some (.slice (A2 4) (L2 4).length (c2 4)) ∧ W5.cell? ⟨w.heap.size + 1, 6, none⟩ = some (.slice (A2 5) (L2 5).length (c2 5)) ∧ W5.cell? ⟨w.heap.size + 1, 7, none⟩ = some (.slice (A2 6) (L2 6).length (c2 6)) from ⟨Below.refl _ _, v0, v1, v2, v3, v4, v5, v6, v7, u0, u1, u2, u3, u4, u5, u6, u7⟩)
      have HT5 := Lib.hid (HT.out.below HB5.out)
      have tm : Int.tmod (K : Int) 7 = 0 := by rw [Int.tmod_eq_emod_of_nonneg (by omega)]; exact er
      clear h5 h6 u0 u1 u2 u3 u4 u5 u6 u7
      go_wp2_with fail
      try rw [hW5]
      clear hW5 fz z0 z1 z2 z3 z4 z5 z6 z7 y0 y1 y2 y3 y4 y5 y6 y7
      refine K5.mono ?_
      rintro e w6 ⟨rfl, hb6⟩
      have HS := each_keep hg5 hd5 hb6.drew HS0.out
      clear v0 v1 v2 v3 v4 v5 v6 v7 K5 hb6
      have wf : IntKind.i64.wrap (0 : Int) = 0 := by decide
      go_wp2_with fail
      go_region_held3 (fun w' => Below W5.heap.size W5 w' ∧ w'.cell? ⟨w.heap.size, 0, none⟩ = some (.slice (A2 0) (L2 0).length (c2 0)) ∧ w'.cell? ⟨w.heap.size, 1, none⟩ = some (.slice (A1 1) (L1 1).length (c1 1)) ∧ w'.cell? ⟨w.heap.size, 2, none⟩ = some (.slice (A1 2) (L1 2).length (c1 2)) ∧ w'.cell? ⟨w.heap.size, 3, none⟩ = some (.slice (A1 3) (L1 3).length (c1 3)) ∧ w'.cell? ⟨w.heap.size, 4, none⟩ = some (.bool b1) ∧ w'.cell? ⟨w.heap.size, 5, none⟩ = some (.slice (A1 4) (L1 4).length (c1 4)) ∧ w'.cell? ⟨w.heap.size, 6, none⟩ = some (.slice (A1 5) (L1 5).length (c1 5)) ∧ w'.cell? ⟨w.heap.size, 7, none⟩ = some (.slice (A1 6) (L1 6).length (c1 6)) ∧ w'.cell? ⟨w.heap.size + 1, 0, none⟩ = some (.slice (A2 0) (L2 0).length (c2 0)) ∧ w'.cell? ⟨w.heap.size + 1, 1, none⟩ = some (.slice (A2 1) (L2 1).length (c2 1)) ∧ w'.cell? ⟨w.heap.size + 1, 2, none⟩ = some (.slice (A2 2) (L2 2).length (c2 2)) ∧ w'.cell? ⟨w.heap.size + 1, 3, none⟩ = some (.slice (A2 3) (L2 3).length (c2 3)) ∧ w'.cell? ⟨w.heap.size + 1, 4, none⟩ = some (.bool b2) ∧ w'.cell? ⟨w.heap.size + 1, 5, none⟩ = some (.slice (A2 4) (L2 4).length (c2 4)) ∧ w'.cell? ⟨w.heap.size + 1, 6, none⟩ = some (.slice (A2 5) (L2 5).length (c2 5)) ∧ w'.cell? ⟨w.heap.size + 1, 7, none⟩ = some (.slice (A2 6) (L2 6).length (c2 6))) (first | exact HS | exact each_keep hg5 hd5 (by assumption) (by assumption)) (first | (go_at_call 28; with_reducible refine (K6 _ (HL5.out.below (each_below (by assumption)))).mono ?_; rintro e w2 ⟨P1, p1, rfl, hat1, hb1⟩) | (go_at_call 28; with_reducible refine (K7 _ (HL52.out.below (each_below (by assumption)))).mono ?_; rintro e w2 ⟨P2, p2, rfl, hat2, hb2⟩) | (go_at_call 16; with_reducible refine (K8 _ _ _ _ _ (by first | exact hat1 | exact hat1.below hb2) (by first | exact hat2 | exact hat2.below hb1)).mono ?_; rintro e w2 ⟨rfl, hq⟩; have hb3 := quiet_below hq) | (go_at_call 23; with_reducible refine (lives28_any _ (HT5.out.below (each_below (by assumption)))).mono ?_; rintro e w2 ⟨rfl, hb4⟩))
      all_goals (
        have hH : Below W5.heap.size W5 w2 := each_below (by assumption)
        go_wp2
        go_ret
        exact ⟨rfl, HB5.out.trans (hH.mono HB5.out.size)⟩)
    · have HF := Lib.hid (show K % 7 = 1 by omega)
      have er : (K : Int) % 7 = 1 := by omega
      have fz : w4.frozen? ⟨w.heap.size, 1, none⟩ = false := blk_free HG4.out 1
      obtain ⟨W5, hW5⟩ : ∃ W5, w4.setCell ⟨w.heap.size, 1, none⟩ (.slice (A2 1) (L2 1).length (c2 1)) = W5 := ⟨_, rfl⟩
      have h5 : W5.heap[w.heap.size]? = some (.cells #[.slice (A1 0) (L1 0).length (c1 0), .slice (A2 1) (L2 1).length (c2 1), .slice (A1 2) (L1 2).length (c1 2), .slice (A1 3) (L1 3).length (c1 3), .bool b1, .slice (A1 4) (L1 4).length (c1 4), .slice (A1 5) (L1 5).length (c1 5), .slice (A1 6) (L1 6).length (c1 6)] 40 (0, 0)) := by rw [← hW5]; exact blk_put HG4.out 1 _
      have h6 : W5.heap[w.heap.size + 1]? = some (.cells #[.slice (A2 0) (L2 0).length (c2 0), .slice (A2 1) (L2 1).length (c2 1), .slice (A2 2) (L2 2).length (c2 2), .slice (A2 3) (L2 3).length (c2 3), .bool b2, .slice (A2 4) (L2 4).length (c2 4), .slice (A2 5) (L2 5).length (c2 5), .slice (A2 6) (L2 6).length (c2 6)] 40 (0, 0)) := by rw [← hW5]; exact blk_else HD4.out _ (by show w.heap.size + 1 ≠ w.heap.size; omega) _
      have HB5 := Lib.hid (show Below w.heap.size w W5 by rw [← hW5]; exact HB4.out.setCell (p := ⟨w.heap.size, 1, none⟩) (Nat.le_refl _) _)
      have v0 : W5.cell? ⟨w.heap.size, 0, none⟩ = some (.slice (A1 0) (L1 0).length (c1 0)) := blk_cell h5 0
      have v1 : W5.cell? ⟨w.heap.size, 1, none⟩ = some (.slice (A2 1) (L2 1).length (c2 1)) := blk_cell h5 1
      have v2 : W5.cell? ⟨w.heap.size, 2, none⟩ = some (.slice (A1 2) (L1 2).length (c1 2)) := blk_cell h5 2
      have v3 : W5.cell? ⟨w.heap.size, 3, none⟩ = some (.slice (A1 3) (L1 3).length (c1 3)) := blk_cell h5 3
      have v4 : W5.cell? ⟨w.heap.size, 4, none⟩ = some (.bool b1) := blk_cell h5 4
      have v5 : W5.cell? ⟨w.heap.size, 5, none⟩ = some (.slice (A1 4) (L1 4).length (c1 4)) := blk_cell h5 5
      have v6 : W5.cell? ⟨w.heap.size, 6, none⟩ = some (.slice (A1 5) (L1 5).length (c1 5)) := blk_cell h5 6
      have v7 : W5.cell? ⟨w.heap.size, 7, none⟩ = some (.slice (A1 6) (L1 6).length (c1 6)) := blk_cell h5 7
      have u0 : W5.cell? ⟨w.heap.size + 1, 0, none⟩ = some (.slice (A2 0) (L2 0).length (c2 0)) := blk_cell h6 0
      have u1 : W5.cell? ⟨w.heap.size + 1, 1, none⟩ = some (.slice (A2 1) (L2 1).length (c2 1)) := blk_cell h6 1
      have u2 : W5.cell? ⟨w.heap.size + 1, 2, none⟩ = some (.slice (A2 2) (L2 2).length (c2 2)) := blk_cell h6 2
      have u3 : W5.cell? ⟨w.heap.size + 1, 3, none⟩ = some (.slice (A2 3) (L2 3).length (c2 3)) := blk_cell h6 3
      have u4 : W5.cell? ⟨w.heap.size + 1, 4, none⟩ = some (.bool b2) := blk_cell h6 4
      have u5 : W5.cell? ⟨w.heap.size + 1, 5, none⟩ = some (.slice (A2 4) (L2 4).length (c2 4)) := blk_cell h6 5
      have u6 : W5.cell? ⟨w.heap.size + 1, 6, none⟩ = some (.slice (A2 5) (L2 5).length (c2 5)) := blk_cell h6 6
      have u7 : W5.cell? ⟨w.heap.size + 1, 7, none⟩ = some (.slice (A2 6) (L2 6).length (c2 6)) := blk_cell h6 7
      have HL5 := Lib.hid (mix_lists (f := 1) (HL1.out.below HB5.out) (HL2.out.below HB5.out))
      have HL52 := Lib.hid (HL2.out.below HB5.out)
      have K5 := checkCl_all b1 (mix 1 A1 A2) (mix 1 c1 c2) (mix 1 L1 L2) W5 HL5.out (fun f hf => by unfold mix; split; exact HLe2.out f hf; exact HLe1.out f hf) (HT.out.below HB5.out)
      rw [chkGo_all _ 7 0 (fun i _ hi => by unfold mix; split; exact HZ2.out i (Nat.zero_le _) hi; exact HZ1.out i (Nat.zero_le _) hi)] at K5
      rw [show vCl b1 (mix 1 A1 A2) (mix 1 c1 c2) (mix 1 L1 L2) = .agg #[.slice (A1 0) (L1 0).length (c1 0), .slice (A2 1) (L2 1).length (c2 1), .slice (A1 2) (L1 2).length (c1 2), .slice (A1 3) (L1 3).length (c1 3), .bool b1, .slice (A1 4) (L1 4).length (c1 4), .slice (A1 5) (L1 5).length (c1 5), .slice (A1 6) (L1 6).length (c1 6)] from rfl] at K5
      have K6 : ∀ W, Lists 7 W (mix 1 A1 A2) (mix 1 c1 c2) (mix 1 L1 L2) → Calls Tryd.prog 28 #[.agg #[.slice (A1 0) (L1 0).length (c1 0), .slice (A2 1) (L2 1).length (c2 1), .slice (A1 2) (L1 2).length (c1 2), .slice (A1 3) (L1 3).length (c1 3), .bool b1, .slice (A1 4) (L1 4).length (c1 4), .slice (A1 5) (L1 5).length (c1 5), .slice (A1 6) (L1 6).length (c1 6)], .int .i64 1] W fun e w' => ∃ P p, e = .returned (.slice P (L2 1).length p) ∧ ItemsAt w' P (L2 1) ∧ Below W.heap.size W w' :=
        fun W hW => (fieldCl_any 1 (by omega) b1 (mix 1 A1 A2) (mix 1 c1 c2) (mix 1 L1 L2) W hW (HLe2.out 1 (by omega))).mono (fun e w' ⟨P, p, q1, q2, q3, _⟩ => ⟨P, p, q1, q2, q3⟩)
      have K7 : ∀ W, Lists 7 W A2 c2 L2 → Calls Tryd.prog 28 #[.agg #[.slice (A2 0) (L2 0).length (c2 0), .slice (A2 1) (L2 1).length (c2 1), .slice (A2 2) (L2 2).length (c2 2), .slice (A2 3) (L2 3).length (c2 3), .bool b2, .slice (A2 4) (L2 4).length (c2 4), .slice (A2 5) (L2 5).length (c2 5), .slice (A2 6) (L2 6).length (c2 6)], .int .i64 1] W fun e w' => ∃ P p, e = .returned (.slice P (L2 1).length p) ∧ ItemsAt w' P (L2 1) ∧ Below W.heap.size W w' :=
        fun W hW => (fieldCl_any 1 (by omega) b2 A2 c2 L2 W hW (HLe2.out 1 (by omega))).mono (fun e w' ⟨P, p, q1, q2, q3, _⟩ => ⟨P, p, q1, q2, q3⟩)
      have K8 := fun W P Q cp cq hp hq => isame_any P Q cp cq (L2 1) (L2 1) W (HLe2.out 1 (by omega)) (HLe2.out 1 (by omega)) hp hq
      rw [show sameQ (L2 1) (L2 1) = true from decide_eq_true rfl] at K8
      simp only [] at K5
      have hg5 := lt_of_block h5
      have hd5 := lt_of_block h6
      have HS0 := Lib.hid (show Below W5.heap.size W5 W5 ∧ W5.cell? ⟨w.heap.size, 0, none⟩ = some (.slice (A1 0) (L1 0).length (c1 0)) ∧ W5.cell? ⟨w.heap.size, 1, none⟩ = some (.slice (A2 1) (L2 1).length (c2 1)) ∧ W5.cell? ⟨w.heap.size, 2, none⟩ = some (.slice (A1 2) (L1 2).length (c1 2)) ∧ W5.cell? ⟨w.heap.size, 3, none⟩ = some (.slice (A1 3) (L1 3).length (c1 3)) ∧ W5.cell? ⟨w.heap.size, 4, none⟩ = some (.bool b1) ∧ W5.cell? ⟨w.heap.size, 5, none⟩ = some (.slice (A1 4) (L1 4).length (c1 4)) ∧ W5.cell? ⟨w.heap.size, 6, none⟩ = some (.slice (A1 5) (L1 5).length (c1 5)) ∧ W5.cell? ⟨w.heap.size, 7, none⟩ = some (.slice (A1 6) (L1 6).length (c1 6)) ∧ W5.cell? ⟨w.heap.size + 1, 0, none⟩ = some (.slice (A2 0) (L2 0).length (c2 0)) ∧ W5.cell? ⟨w.heap.size + 1, 1, none⟩ = some (.slice (A2 1) (L2 1).length (c2 1)) ∧ W5.cell? ⟨w.heap.size + 1, 2, none⟩ = some (.slice (A2 2) (L2 2).length (c2 2)) ∧ W5.cell? ⟨w.heap.size + 1, 3, none⟩ = some (.slice (A2 3) (L2 3).length (c2 3)) ∧ W5.cell? ⟨w.heap.size + 1, 4, none⟩ = some (.bool b2) ∧ W5.cell? ⟨w.heap.size + 1, 5, none⟩ = some (.slice (A2 4) (L2 4).length (c2 4)) ∧ W5.cell? ⟨w.heap.size + 1, 6, none⟩ = some (.slice (A2 5) (L2 5).length (c2 5)) ∧ W5.cell? ⟨w.heap.size + 1, 7, none⟩ = some (.slice (A2 6) (L2 6).length (c2 6)) from ⟨Below.refl _ _, v0, v1, v2, v3, v4, v5, v6, v7, u0, u1, u2, u3, u4, u5, u6, u7⟩)
      have HT5 := Lib.hid (HT.out.below HB5.out)
      have tm : Int.tmod (K : Int) 7 = 1 := by rw [Int.tmod_eq_emod_of_nonneg (by omega)]; exact er
      clear h5 h6 u0 u1 u2 u3 u4 u5 u6 u7
      go_wp2_with fail
      try rw [hW5]
      clear hW5 fz z0 z1 z2 z3 z4 z5 z6 z7 y0 y1 y2 y3 y4 y5 y6 y7
      refine K5.mono ?_
      rintro e w6 ⟨rfl, hb6⟩
      have HS := each_keep hg5 hd5 hb6.drew HS0.out
      clear v0 v1 v2 v3 v4 v5 v6 v7 K5 hb6
      have wf : IntKind.i64.wrap (1 : Int) = 1 := by decide
      go_wp2_with fail
      go_region_held3 (fun w' => Below W5.heap.size W5 w' ∧ w'.cell? ⟨w.heap.size, 0, none⟩ = some (.slice (A1 0) (L1 0).length (c1 0)) ∧ w'.cell? ⟨w.heap.size, 1, none⟩ = some (.slice (A2 1) (L2 1).length (c2 1)) ∧ w'.cell? ⟨w.heap.size, 2, none⟩ = some (.slice (A1 2) (L1 2).length (c1 2)) ∧ w'.cell? ⟨w.heap.size, 3, none⟩ = some (.slice (A1 3) (L1 3).length (c1 3)) ∧ w'.cell? ⟨w.heap.size, 4, none⟩ = some (.bool b1) ∧ w'.cell? ⟨w.heap.size, 5, none⟩ = some (.slice (A1 4) (L1 4).length (c1 4)) ∧ w'.cell? ⟨w.heap.size, 6, none⟩ = some (.slice (A1 5) (L1 5).length (c1 5)) ∧ w'.cell? ⟨w.heap.size, 7, none⟩ = some (.slice (A1 6) (L1 6).length (c1 6)) ∧ w'.cell? ⟨w.heap.size + 1, 0, none⟩ = some (.slice (A2 0) (L2 0).length (c2 0)) ∧ w'.cell? ⟨w.heap.size + 1, 1, none⟩ = some (.slice (A2 1) (L2 1).length (c2 1)) ∧ w'.cell? ⟨w.heap.size + 1, 2, none⟩ = some (.slice (A2 2) (L2 2).length (c2 2)) ∧ w'.cell? ⟨w.heap.size + 1, 3, none⟩ = some (.slice (A2 3) (L2 3).length (c2 3)) ∧ w'.cell? ⟨w.heap.size + 1, 4, none⟩ = some (.bool b2) ∧ w'.cell? ⟨w.heap.size + 1, 5, none⟩ = some (.slice (A2 4) (L2 4).length (c2 4)) ∧ w'.cell? ⟨w.heap.size + 1, 6, none⟩ = some (.slice (A2 5) (L2 5).length (c2 5)) ∧ w'.cell? ⟨w.heap.size + 1, 7, none⟩ = some (.slice (A2 6) (L2 6).length (c2 6))) (first | exact HS | exact each_keep hg5 hd5 (by assumption) (by assumption)) (first | (go_at_call 28; with_reducible refine (K6 _ (HL5.out.below (each_below (by assumption)))).mono ?_; rintro e w2 ⟨P1, p1, rfl, hat1, hb1⟩) | (go_at_call 28; with_reducible refine (K7 _ (HL52.out.below (each_below (by assumption)))).mono ?_; rintro e w2 ⟨P2, p2, rfl, hat2, hb2⟩) | (go_at_call 16; with_reducible refine (K8 _ _ _ _ _ (by first | exact hat1 | exact hat1.below hb2) (by first | exact hat2 | exact hat2.below hb1)).mono ?_; rintro e w2 ⟨rfl, hq⟩; have hb3 := quiet_below hq) | (go_at_call 23; with_reducible refine (lives28_any _ (HT5.out.below (each_below (by assumption)))).mono ?_; rintro e w2 ⟨rfl, hb4⟩))
      all_goals (
        have hH : Below W5.heap.size W5 w2 := each_below (by assumption)
        go_wp2
        go_ret
        exact ⟨rfl, HB5.out.trans (hH.mono HB5.out.size)⟩)
    · have HF := Lib.hid (show K % 7 = 2 by omega)
      have er : (K : Int) % 7 = 2 := by omega
      have fz : w4.frozen? ⟨w.heap.size, 2, none⟩ = false := blk_free HG4.out 2
      obtain ⟨W5, hW5⟩ : ∃ W5, w4.setCell ⟨w.heap.size, 2, none⟩ (.slice (A2 2) (L2 2).length (c2 2)) = W5 := ⟨_, rfl⟩
      have h5 : W5.heap[w.heap.size]? = some (.cells #[.slice (A1 0) (L1 0).length (c1 0), .slice (A1 1) (L1 1).length (c1 1), .slice (A2 2) (L2 2).length (c2 2), .slice (A1 3) (L1 3).length (c1 3), .bool b1, .slice (A1 4) (L1 4).length (c1 4), .slice (A1 5) (L1 5).length (c1 5), .slice (A1 6) (L1 6).length (c1 6)] 40 (0, 0)) := by rw [← hW5]; exact blk_put HG4.out 2 _
      have h6 : W5.heap[w.heap.size + 1]? = some (.cells #[.slice (A2 0) (L2 0).length (c2 0), .slice (A2 1) (L2 1).length (c2 1), .slice (A2 2) (L2 2).length (c2 2), .slice (A2 3) (L2 3).length (c2 3), .bool b2, .slice (A2 4) (L2 4).length (c2 4), .slice (A2 5) (L2 5).length (c2 5), .slice (A2 6) (L2 6).length (c2 6)] 40 (0, 0)) := by rw [← hW5]; exact blk_else HD4.out _ (by show w.heap.size + 1 ≠ w.heap.size; omega) _
      have HB5 := Lib.hid (show Below w.heap.size w W5 by rw [← hW5]; exact HB4.out.setCell (p := ⟨w.heap.size, 2, none⟩) (Nat.le_refl _) _)
      have v0 : W5.cell? ⟨w.heap.size, 0, none⟩ = some (.slice (A1 0) (L1 0).length (c1 0)) := blk_cell h5 0
      have v1 : W5.cell? ⟨w.heap.size, 1, none⟩ = some (.slice (A1 1) (L1 1).length (c1 1)) := blk_cell h5 1
      have v2 : W5.cell? ⟨w.heap.size, 2, none⟩ = some (.slice (A2 2) (L2 2).length (c2 2)) := blk_cell h5 2
      have v3 : W5.cell? ⟨w.heap.size, 3, none⟩ = some (.slice (A1 3) (L1 3).length (c1 3)) := blk_cell h5 3
      have v4 : W5.cell? ⟨w.heap.size, 4, none⟩ = some (.bool b1) := blk_cell h5 4
      have v5 : W5.cell? ⟨w.heap.size, 5, none⟩ = some (.slice (A1 4) (L1 4).length (c1 4)) := blk_cell h5 5
      have v6 : W5.cell? ⟨w.heap.size, 6, none⟩ = some (.slice (A1 5) (L1 5).length (c1 5)) := blk_cell h5 6
      have v7 : W5.cell? ⟨w.heap.size, 7, none⟩ = some (.slice (A1 6) (L1 6).length (c1 6)) := blk_cell h5 7
      have u0 : W5.cell? ⟨w.heap.size + 1, 0, none⟩ = some (.slice (A2 0) (L2 0).length (c2 0)) := blk_cell h6 0
      have u1 : W5.cell? ⟨w.heap.size + 1, 1, none⟩ = some (.slice (A2 1) (L2 1).length (c2 1)) := blk_cell h6 1
      have u2 : W5.cell? ⟨w.heap.size + 1, 2, none⟩ = some (.slice (A2 2) (L2 2).length (c2 2)) := blk_cell h6 2
      have u3 : W5.cell? ⟨w.heap.size + 1, 3, none⟩ = some (.slice (A2 3) (L2 3).length (c2 3)) := blk_cell h6 3
      have u4 : W5.cell? ⟨w.heap.size + 1, 4, none⟩ = some (.bool b2) := blk_cell h6 4
      have u5 : W5.cell? ⟨w.heap.size + 1, 5, none⟩ = some (.slice (A2 4) (L2 4).length (c2 4)) := blk_cell h6 5
      have u6 : W5.cell? ⟨w.heap.size + 1, 6, none⟩ = some (.slice (A2 5) (L2 5).length (c2 5)) := blk_cell h6 6
      have u7 : W5.cell? ⟨w.heap.size + 1, 7, none⟩ = some (.slice (A2 6) (L2 6).length (c2 6)) := blk_cell h6 7
      have HL5 := Lib.hid (mix_lists (f := 2) (HL1.out.below HB5.out) (HL2.out.below HB5.out))
      have HL52 := Lib.hid (HL2.out.below HB5.out)
      have K5 := checkCl_all b1 (mix 2 A1 A2) (mix 2 c1 c2) (mix 2 L1 L2) W5 HL5.out (fun f hf => by unfold mix; split; exact HLe2.out f hf; exact HLe1.out f hf) (HT.out.below HB5.out)
      rw [chkGo_all _ 7 0 (fun i _ hi => by unfold mix; split; exact HZ2.out i (Nat.zero_le _) hi; exact HZ1.out i (Nat.zero_le _) hi)] at K5
      rw [show vCl b1 (mix 2 A1 A2) (mix 2 c1 c2) (mix 2 L1 L2) = .agg #[.slice (A1 0) (L1 0).length (c1 0), .slice (A1 1) (L1 1).length (c1 1), .slice (A2 2) (L2 2).length (c2 2), .slice (A1 3) (L1 3).length (c1 3), .bool b1, .slice (A1 4) (L1 4).length (c1 4), .slice (A1 5) (L1 5).length (c1 5), .slice (A1 6) (L1 6).length (c1 6)] from rfl] at K5
      have K6 : ∀ W, Lists 7 W (mix 2 A1 A2) (mix 2 c1 c2) (mix 2 L1 L2) → Calls Tryd.prog 28 #[.agg #[.slice (A1 0) (L1 0).length (c1 0), .slice (A1 1) (L1 1).length (c1 1), .slice (A2 2) (L2 2).length (c2 2), .slice (A1 3) (L1 3).length (c1 3), .bool b1, .slice (A1 4) (L1 4).length (c1 4), .slice (A1 5) (L1 5).length (c1 5), .slice (A1 6) (L1 6).length (c1 6)], .int .i64 2] W fun e w' => ∃ P p, e = .returned (.slice P (L2 2).length p) ∧ ItemsAt w' P (L2 2) ∧ Below W.heap.size W w' :=
        fun W hW => (fieldCl_any 2 (by omega) b1 (mix 2 A1 A2) (mix 2 c1 c2) (mix 2 L1 L2) W hW (HLe2.out 2 (by omega))).mono (fun e w' ⟨P, p, q1, q2, q3, _⟩ => ⟨P, p, q1, q2, q3⟩)
      have K7 : ∀ W, Lists 7 W A2 c2 L2 → Calls Tryd.prog 28 #[.agg #[.slice (A2 0) (L2 0).length (c2 0), .slice (A2 1) (L2 1).length (c2 1), .slice (A2 2) (L2 2).length (c2 2), .slice (A2 3) (L2 3).length (c2 3), .bool b2, .slice (A2 4) (L2 4).length (c2 4), .slice (A2 5) (L2 5).length (c2 5), .slice (A2 6) (L2 6).length (c2 6)], .int .i64 2] W fun e w' => ∃ P p, e = .returned (.slice P (L2 2).length p) ∧ ItemsAt w' P (L2 2) ∧ Below W.heap.size W w' :=
        fun W hW => (fieldCl_any 2 (by omega) b2 A2 c2 L2 W hW (HLe2.out 2 (by omega))).mono (fun e w' ⟨P, p, q1, q2, q3, _⟩ => ⟨P, p, q1, q2, q3⟩)
      have K8 := fun W P Q cp cq hp hq => isame_any P Q cp cq (L2 2) (L2 2) W (HLe2.out 2 (by omega)) (HLe2.out 2 (by omega)) hp hq
      rw [show sameQ (L2 2) (L2 2) = true from decide_eq_true rfl] at K8
      simp only [] at K5
      have hg5 := lt_of_block h5
      have hd5 := lt_of_block h6
      have HS0 := Lib.hid (show Below W5.heap.size W5 W5 ∧ W5.cell? ⟨w.heap.size, 0, none⟩ = some (.slice (A1 0) (L1 0).length (c1 0)) ∧ W5.cell? ⟨w.heap.size, 1, none⟩ = some (.slice (A1 1) (L1 1).length (c1 1)) ∧ W5.cell? ⟨w.heap.size, 2, none⟩ = some (.slice (A2 2) (L2 2).length (c2 2)) ∧ W5.cell? ⟨w.heap.size, 3, none⟩ = some (.slice (A1 3) (L1 3).length (c1 3)) ∧ W5.cell? ⟨w.heap.size, 4, none⟩ = some (.bool b1) ∧ W5.cell? ⟨w.heap.size, 5, none⟩ = some (.slice (A1 4) (L1 4).length (c1 4)) ∧ W5.cell? ⟨w.heap.size, 6, none⟩ = some (.slice (A1 5) (L1 5).length (c1 5)) ∧ W5.cell? ⟨w.heap.size, 7, none⟩ = some (.slice (A1 6) (L1 6).length (c1 6)) ∧ W5.cell? ⟨w.heap.size + 1, 0, none⟩ = some (.slice (A2 0) (L2 0).length (c2 0)) ∧ W5.cell? ⟨w.heap.size + 1, 1, none⟩ = some (.slice (A2 1) (L2 1).length (c2 1)) ∧ W5.cell? ⟨w.heap.size + 1, 2, none⟩ = some (.slice (A2 2) (L2 2).length (c2 2)) ∧ W5.cell? ⟨w.heap.size + 1, 3, none⟩ = some (.slice (A2 3) (L2 3).length (c2 3)) ∧ W5.cell? ⟨w.heap.size + 1, 4, none⟩ = some (.bool b2) ∧ W5.cell? ⟨w.heap.size + 1, 5, none⟩ = some (.slice (A2 4) (L2 4).length (c2 4)) ∧ W5.cell? ⟨w.heap.size + 1, 6, none⟩ = some (.slice (A2 5) (L2 5).length (c2 5)) ∧ W5.cell? ⟨w.heap.size + 1, 7, none⟩ = some (.slice (A2 6) (L2 6).length (c2 6)) from ⟨Below.refl _ _, v0, v1, v2, v3, v4, v5, v6, v7, u0, u1, u2, u3, u4, u5, u6, u7⟩)
      have HT5 := Lib.hid (HT.out.below HB5.out)
      have tm : Int.tmod (K : Int) 7 = 2 := by rw [Int.tmod_eq_emod_of_nonneg (by omega)]; exact er
      clear h5 h6 u0 u1 u2 u3 u4 u5 u6 u7
      go_wp2_with fail
      try rw [hW5]
      clear hW5 fz z0 z1 z2 z3 z4 z5 z6 z7 y0 y1 y2 y3 y4 y5 y6 y7
      refine K5.mono ?_
      rintro e w6 ⟨rfl, hb6⟩
      have HS := each_keep hg5 hd5 hb6.drew HS0.out
      clear v0 v1 v2 v3 v4 v5 v6 v7 K5 hb6
      have wf : IntKind.i64.wrap (2 : Int) = 2 := by decide
      go_wp2_with fail
      go_region_held3 (fun w' => Below W5.heap.size W5 w' ∧ w'.cell? ⟨w.heap.size, 0, none⟩ = some (.slice (A1 0) (L1 0).length (c1 0)) ∧ w'.cell? ⟨w.heap.size, 1, none⟩ = some (.slice (A1 1) (L1 1).length (c1 1)) ∧ w'.cell? ⟨w.heap.size, 2, none⟩ = some (.slice (A2 2) (L2 2).length (c2 2)) ∧ w'.cell? ⟨w.heap.size, 3, none⟩ = some (.slice (A1 3) (L1 3).length (c1 3)) ∧ w'.cell? ⟨w.heap.size, 4, none⟩ = some (.bool b1) ∧ w'.cell? ⟨w.heap.size, 5, none⟩ = some (.slice (A1 4) (L1 4).length (c1 4)) ∧ w'.cell? ⟨w.heap.size, 6, none⟩ = some (.slice (A1 5) (L1 5).length (c1 5)) ∧ w'.cell? ⟨w.heap.size, 7, none⟩ = some (.slice (A1 6) (L1 6).length (c1 6)) ∧ w'.cell? ⟨w.heap.size + 1, 0, none⟩ = some (.slice (A2 0) (L2 0).length (c2 0)) ∧ w'.cell? ⟨w.heap.size + 1, 1, none⟩ = some (.slice (A2 1) (L2 1).length (c2 1)) ∧ w'.cell? ⟨w.heap.size + 1, 2, none⟩ = some (.slice (A2 2) (L2 2).length (c2 2)) ∧ w'.cell? ⟨w.heap.size + 1, 3, none⟩ = some (.slice (A2 3) (L2 3).length (c2 3)) ∧ w'.cell? ⟨w.heap.size + 1, 4, none⟩ = some (.bool b2) ∧ w'.cell? ⟨w.heap.size + 1, 5, none⟩ = some (.slice (A2 4) (L2 4).length (c2 4)) ∧ w'.cell? ⟨w.heap.size + 1, 6, none⟩ = some (.slice (A2 5) (L2 5).length (c2 5)) ∧ w'.cell? ⟨w.heap.size + 1, 7, none⟩ = some (.slice (A2 6) (L2 6).length (c2 6))) (first | exact HS | exact each_keep hg5 hd5 (by assumption) (by assumption)) (first | (go_at_call 28; with_reducible refine (K6 _ (HL5.out.below (each_below (by assumption)))).mono ?_; rintro e w2 ⟨P1, p1, rfl, hat1, hb1⟩) | (go_at_call 28; with_reducible refine (K7 _ (HL52.out.below (each_below (by assumption)))).mono ?_; rintro e w2 ⟨P2, p2, rfl, hat2, hb2⟩) | (go_at_call 16; with_reducible refine (K8 _ _ _ _ _ (by first | exact hat1 | exact hat1.below hb2) (by first | exact hat2 | exact hat2.below hb1)).mono ?_; rintro e w2 ⟨rfl, hq⟩; have hb3 := quiet_below hq) | (go_at_call 23; with_reducible refine (lives28_any _ (HT5.out.below (each_below (by assumption)))).mono ?_; rintro e w2 ⟨rfl, hb4⟩))
      all_goals (
        have hH : Below W5.heap.size W5 w2 := each_below (by assumption)
        go_wp2
        go_ret
        exact ⟨rfl, HB5.out.trans (hH.mono HB5.out.size)⟩)
    · have HF := Lib.hid (show K % 7 = 3 by omega)
      have er : (K : Int) % 7 = 3 := by omega
      have fz : w4.frozen? ⟨w.heap.size, 3, none⟩ = false := blk_free HG4.out 3
      obtain ⟨W5, hW5⟩ : ∃ W5, w4.setCell ⟨w.heap.size, 3, none⟩ (.slice (A2 3) (L2 3).length (c2 3)) = W5 := ⟨_, rfl⟩
      have h5 : W5.heap[w.heap.size]? = some (.cells #[.slice (A1 0) (L1 0).length (c1 0), .slice (A1 1) (L1 1).length (c1 1), .slice (A1 2) (L1 2).length (c1 2), .slice (A2 3) (L2 3).length (c2 3), .bool b1, .slice (A1 4) (L1 4).length (c1 4), .slice (A1 5) (L1 5).length (c1 5), .slice (A1 6) (L1 6).length (c1 6)] 40 (0, 0)) := by rw [← hW5]; exact blk_put HG4.out 3 _
      have h6 : W5.heap[w.heap.size + 1]? = some (.cells #[.slice (A2 0) (L2 0).length (c2 0), .slice (A2 1) (L2 1).length (c2 1), .slice (A2 2) (L2 2).length (c2 2), .slice (A2 3) (L2 3).length (c2 3), .bool b2, .slice (A2 4) (L2 4).length (c2 4), .slice (A2 5) (L2 5).length (c2 5), .slice (A2 6) (L2 6).length (c2 6)] 40 (0, 0)) := by rw [← hW5]; exact blk_else HD4.out _ (by show w.heap.size + 1 ≠ w.heap.size; omega) _
      have HB5 := Lib.hid (show Below w.heap.size w W5 by rw [← hW5]; exact HB4.out.setCell (p := ⟨w.heap.size, 3, none⟩) (Nat.le_refl _) _)
      have v0 : W5.cell? ⟨w.heap.size, 0, none⟩ = some (.slice (A1 0) (L1 0).length (c1 0)) := blk_cell h5 0
      have v1 : W5.cell? ⟨w.heap.size, 1, none⟩ = some (.slice (A1 1) (L1 1).length (c1 1)) := blk_cell h5 1
      have v2 : W5.cell? ⟨w.heap.size, 2, none⟩ = some (.slice (A1 2) (L1 2).length (c1 2)) := blk_cell h5 2
      have v3 : W5.cell? ⟨w.heap.size, 3, none⟩ = some (.slice (A2 3) (L2 3).length (c2 3)) := blk_cell h5 3
      have v4 : W5.cell? ⟨w.heap.size, 4, none⟩ = some (.bool b1) := blk_cell h5 4
      have v5 : W5.cell? ⟨w.heap.size, 5, none⟩ = some (.slice (A1 4) (L1 4).length (c1 4)) := blk_cell h5 5
      have v6 : W5.cell? ⟨w.heap.size, 6, none⟩ = some (.slice (A1 5) (L1 5).length (c1 5)) := blk_cell h5 6
      have v7 : W5.cell? ⟨w.heap.size, 7, none⟩ = some (.slice (A1 6) (L1 6).length (c1 6)) := blk_cell h5 7
      have u0 : W5.cell? ⟨w.heap.size + 1, 0, none⟩ = some (.slice (A2 0) (L2 0).length (c2 0)) := blk_cell h6 0
      have u1 : W5.cell? ⟨w.heap.size + 1, 1, none⟩ = some (.slice (A2 1) (L2 1).length (c2 1)) := blk_cell h6 1
      have u2 : W5.cell? ⟨w.heap.size + 1, 2, none⟩ = some (.slice (A2 2) (L2 2).length (c2 2)) := blk_cell h6 2
      have u3 : W5.cell? ⟨w.heap.size + 1, 3, none⟩ = some (.slice (A2 3) (L2 3).length (c2 3)) := blk_cell h6 3
      have u4 : W5.cell? ⟨w.heap.size + 1, 4, none⟩ = some (.bool b2) := blk_cell h6 4
      have u5 : W5.cell? ⟨w.heap.size + 1, 5, none⟩ = some (.slice (A2 4) (L2 4).length (c2 4)) := blk_cell h6 5
      have u6 : W5.cell? ⟨w.heap.size + 1, 6, none⟩ = some (.slice (A2 5) (L2 5).length (c2 5)) := blk_cell h6 6
      have u7 : W5.cell? ⟨w.heap.size + 1, 7, none⟩ = some (.slice (A2 6) (L2 6).length (c2 6)) := blk_cell h6 7
      have HL5 := Lib.hid (mix_lists (f := 3) (HL1.out.below HB5.out) (HL2.out.below HB5.out))
      have HL52 := Lib.hid (HL2.out.below HB5.out)
      have K5 := checkCl_all b1 (mix 3 A1 A2) (mix 3 c1 c2) (mix 3 L1 L2) W5 HL5.out (fun f hf => by unfold mix; split; exact HLe2.out f hf; exact HLe1.out f hf) (HT.out.below HB5.out)
      rw [chkGo_all _ 7 0 (fun i _ hi => by unfold mix; split; exact HZ2.out i (Nat.zero_le _) hi; exact HZ1.out i (Nat.zero_le _) hi)] at K5
      rw [show vCl b1 (mix 3 A1 A2) (mix 3 c1 c2) (mix 3 L1 L2) = .agg #[.slice (A1 0) (L1 0).length (c1 0), .slice (A1 1) (L1 1).length (c1 1), .slice (A1 2) (L1 2).length (c1 2), .slice (A2 3) (L2 3).length (c2 3), .bool b1, .slice (A1 4) (L1 4).length (c1 4), .slice (A1 5) (L1 5).length (c1 5), .slice (A1 6) (L1 6).length (c1 6)] from rfl] at K5
      have K6 : ∀ W, Lists 7 W (mix 3 A1 A2) (mix 3 c1 c2) (mix 3 L1 L2) → Calls Tryd.prog 28 #[.agg #[.slice (A1 0) (L1 0).length (c1 0), .slice (A1 1) (L1 1).length (c1 1), .slice (A1 2) (L1 2).length (c1 2), .slice (A2 3) (L2 3).length (c2 3), .bool b1, .slice (A1 4) (L1 4).length (c1 4), .slice (A1 5) (L1 5).length (c1 5), .slice (A1 6) (L1 6).length (c1 6)], .int .i64 3] W fun e w' => ∃ P p, e = .returned (.slice P (L2 3).length p) ∧ ItemsAt w' P (L2 3) ∧ Below W.heap.size W w' :=
        fun W hW => (fieldCl_any 3 (by omega) b1 (mix 3 A1 A2) (mix 3 c1 c2) (mix 3 L1 L2) W hW (HLe2.out 3 (by omega))).mono (fun e w' ⟨P, p, q1, q2, q3, _⟩ => ⟨P, p, q1, q2, q3⟩)
      have K7 : ∀ W, Lists 7 W A2 c2 L2 → Calls Tryd.prog 28 #[.agg #[.slice (A2 0) (L2 0).length (c2 0), .slice (A2 1) (L2 1).length (c2 1), .slice (A2 2) (L2 2).length (c2 2), .slice (A2 3) (L2 3).length (c2 3), .bool b2, .slice (A2 4) (L2 4).length (c2 4), .slice (A2 5) (L2 5).length (c2 5), .slice (A2 6) (L2 6).length (c2 6)], .int .i64 3] W fun e w' => ∃ P p, e = .returned (.slice P (L2 3).length p) ∧ ItemsAt w' P (L2 3) ∧ Below W.heap.size W w' :=
        fun W hW => (fieldCl_any 3 (by omega) b2 A2 c2 L2 W hW (HLe2.out 3 (by omega))).mono (fun e w' ⟨P, p, q1, q2, q3, _⟩ => ⟨P, p, q1, q2, q3⟩)
      have K8 := fun W P Q cp cq hp hq => isame_any P Q cp cq (L2 3) (L2 3) W (HLe2.out 3 (by omega)) (HLe2.out 3 (by omega)) hp hq
      rw [show sameQ (L2 3) (L2 3) = true from decide_eq_true rfl] at K8
      simp only [] at K5
      have hg5 := lt_of_block h5
      have hd5 := lt_of_block h6
      have HS0 := Lib.hid (show Below W5.heap.size W5 W5 ∧ W5.cell? ⟨w.heap.size, 0, none⟩ = some (.slice (A1 0) (L1 0).length (c1 0)) ∧ W5.cell? ⟨w.heap.size, 1, none⟩ = some (.slice (A1 1) (L1 1).length (c1 1)) ∧ W5.cell? ⟨w.heap.size, 2, none⟩ = some (.slice (A1 2) (L1 2).length (c1 2)) ∧ W5.cell? ⟨w.heap.size, 3, none⟩ = some (.slice (A2 3) (L2 3).length (c2 3)) ∧ W5.cell? ⟨w.heap.size, 4, none⟩ = some (.bool b1) ∧ W5.cell? ⟨w.heap.size, 5, none⟩ = some (.slice (A1 4) (L1 4).length (c1 4)) ∧ W5.cell? ⟨w.heap.size, 6, none⟩ = some (.slice (A1 5) (L1 5).length (c1 5)) ∧ W5.cell? ⟨w.heap.size, 7, none⟩ = some (.slice (A1 6) (L1 6).length (c1 6)) ∧ W5.cell? ⟨w.heap.size + 1, 0, none⟩ = some (.slice (A2 0) (L2 0).length (c2 0)) ∧ W5.cell? ⟨w.heap.size + 1, 1, none⟩ = some (.slice (A2 1) (L2 1).length (c2 1)) ∧ W5.cell? ⟨w.heap.size + 1, 2, none⟩ = some (.slice (A2 2) (L2 2).length (c2 2)) ∧ W5.cell? ⟨w.heap.size + 1, 3, none⟩ = some (.slice (A2 3) (L2 3).length (c2 3)) ∧ W5.cell? ⟨w.heap.size + 1, 4, none⟩ = some (.bool b2) ∧ W5.cell? ⟨w.heap.size + 1, 5, none⟩ = some (.slice (A2 4) (L2 4).length (c2 4)) ∧ W5.cell? ⟨w.heap.size + 1, 6, none⟩ = some (.slice (A2 5) (L2 5).length (c2 5)) ∧ W5.cell? ⟨w.heap.size + 1, 7, none⟩ = some (.slice (A2 6) (L2 6).length (c2 6)) from ⟨Below.refl _ _, v0, v1, v2, v3, v4, v5, v6, v7, u0, u1, u2, u3, u4, u5, u6, u7⟩)
      have HT5 := Lib.hid (HT.out.below HB5.out)
      have tm : Int.tmod (K : Int) 7 = 3 := by rw [Int.tmod_eq_emod_of_nonneg (by omega)]; exact er
      clear h5 h6 u0 u1 u2 u3 u4 u5 u6 u7
      go_wp2_with fail
      try rw [hW5]
      clear hW5 fz z0 z1 z2 z3 z4 z5 z6 z7 y0 y1 y2 y3 y4 y5 y6 y7
      refine K5.mono ?_
      rintro e w6 ⟨rfl, hb6⟩
      have HS := each_keep hg5 hd5 hb6.drew HS0.out
      clear v0 v1 v2 v3 v4 v5 v6 v7 K5 hb6
      have wf : IntKind.i64.wrap (3 : Int) = 3 := by decide
      go_wp2_with fail
      go_region_held3 (fun w' => Below W5.heap.size W5 w' ∧ w'.cell? ⟨w.heap.size, 0, none⟩ = some (.slice (A1 0) (L1 0).length (c1 0)) ∧ w'.cell? ⟨w.heap.size, 1, none⟩ = some (.slice (A1 1) (L1 1).length (c1 1)) ∧ w'.cell? ⟨w.heap.size, 2, none⟩ = some (.slice (A1 2) (L1 2).length (c1 2)) ∧ w'.cell? ⟨w.heap.size, 3, none⟩ = some (.slice (A2 3) (L2 3).length (c2 3)) ∧ w'.cell? ⟨w.heap.size, 4, none⟩ = some (.bool b1) ∧ w'.cell? ⟨w.heap.size, 5, none⟩ = some (.slice (A1 4) (L1 4).length (c1 4)) ∧ w'.cell? ⟨w.heap.size, 6, none⟩ = some (.slice (A1 5) (L1 5).length (c1 5)) ∧ w'.cell? ⟨w.heap.size, 7, none⟩ = some (.slice (A1 6) (L1 6).length (c1 6)) ∧ w'.cell? ⟨w.heap.size + 1, 0, none⟩ = some (.slice (A2 0) (L2 0).length (c2 0)) ∧ w'.cell? ⟨w.heap.size + 1, 1, none⟩ = some (.slice (A2 1) (L2 1).length (c2 1)) ∧ w'.cell? ⟨w.heap.size + 1, 2, none⟩ = some (.slice (A2 2) (L2 2).length (c2 2)) ∧ w'.cell? ⟨w.heap.size + 1, 3, none⟩ = some (.slice (A2 3) (L2 3).length (c2 3)) ∧ w'.cell? ⟨w.heap.size + 1, 4, none⟩ = some (.bool b2) ∧ w'.cell? ⟨w.heap.size + 1, 5, none⟩ = some (.slice (A2 4) (L2 4).length (c2 4)) ∧ w'.cell? ⟨w.heap.size + 1, 6, none⟩ = some (.slice (A2 5) (L2 5).length (c2 5)) ∧ w'.cell? ⟨w.heap.size + 1, 7, none⟩ = some (.slice (A2 6) (L2 6).length (c2 6))) (first | exact HS | exact each_keep hg5 hd5 (by assumption) (by assumption)) (first | (go_at_call 28; with_reducible refine (K6 _ (HL5.out.below (each_below (by assumption)))).mono ?_; rintro e w2 ⟨P1, p1, rfl, hat1, hb1⟩) | (go_at_call 28; with_reducible refine (K7 _ (HL52.out.below (each_below (by assumption)))).mono ?_; rintro e w2 ⟨P2, p2, rfl, hat2, hb2⟩) | (go_at_call 16; with_reducible refine (K8 _ _ _ _ _ (by first | exact hat1 | exact hat1.below hb2) (by first | exact hat2 | exact hat2.below hb1)).mono ?_; rintro e w2 ⟨rfl, hq⟩; have hb3 := quiet_below hq) | (go_at_call 23; with_reducible refine (lives28_any _ (HT5.out.below (each_below (by assumption)))).mono ?_; rintro e w2 ⟨rfl, hb4⟩))
      all_goals (
        have hH : Below W5.heap.size W5 w2 := each_below (by assumption)
        go_wp2
        go_ret
        exact ⟨rfl, HB5.out.trans (hH.mono HB5.out.size)⟩)
    · have HF := Lib.hid (show K % 7 = 4 by omega)
      have er : (K : Int) % 7 = 4 := by omega
      have fz : w4.frozen? ⟨w.heap.size, 5, none⟩ = false := blk_free HG4.out 5
      obtain ⟨W5, hW5⟩ : ∃ W5, w4.setCell ⟨w.heap.size, 5, none⟩ (.slice (A2 4) (L2 4).length (c2 4)) = W5 := ⟨_, rfl⟩
      have h5 : W5.heap[w.heap.size]? = some (.cells #[.slice (A1 0) (L1 0).length (c1 0), .slice (A1 1) (L1 1).length (c1 1), .slice (A1 2) (L1 2).length (c1 2), .slice (A1 3) (L1 3).length (c1 3), .bool b1, .slice (A2 4) (L2 4).length (c2 4), .slice (A1 5) (L1 5).length (c1 5), .slice (A1 6) (L1 6).length (c1 6)] 40 (0, 0)) := by rw [← hW5]; exact blk_put HG4.out 5 _
      have h6 : W5.heap[w.heap.size + 1]? = some (.cells #[.slice (A2 0) (L2 0).length (c2 0), .slice (A2 1) (L2 1).length (c2 1), .slice (A2 2) (L2 2).length (c2 2), .slice (A2 3) (L2 3).length (c2 3), .bool b2, .slice (A2 4) (L2 4).length (c2 4), .slice (A2 5) (L2 5).length (c2 5), .slice (A2 6) (L2 6).length (c2 6)] 40 (0, 0)) := by rw [← hW5]; exact blk_else HD4.out _ (by show w.heap.size + 1 ≠ w.heap.size; omega) _
      have HB5 := Lib.hid (show Below w.heap.size w W5 by rw [← hW5]; exact HB4.out.setCell (p := ⟨w.heap.size, 5, none⟩) (Nat.le_refl _) _)
      have v0 : W5.cell? ⟨w.heap.size, 0, none⟩ = some (.slice (A1 0) (L1 0).length (c1 0)) := blk_cell h5 0
      have v1 : W5.cell? ⟨w.heap.size, 1, none⟩ = some (.slice (A1 1) (L1 1).length (c1 1)) := blk_cell h5 1
      have v2 : W5.cell? ⟨w.heap.size, 2, none⟩ = some (.slice (A1 2) (L1 2).length (c1 2)) := blk_cell h5 2
      have v3 : W5.cell? ⟨w.heap.size, 3, none⟩ = some (.slice (A1 3) (L1 3).length (c1 3)) := blk_cell h5 3
      have v4 : W5.cell? ⟨w.heap.size, 4, none⟩ = some (.bool b1) := blk_cell h5 4
      have v5 : W5.cell? ⟨w.heap.size, 5, none⟩ = some (.slice (A2 4) (L2 4).length (c2 4)) := blk_cell h5 5
      have v6 : W5.cell? ⟨w.heap.size, 6, none⟩ = some (.slice (A1 5) (L1 5).length (c1 5)) := blk_cell h5 6
      have v7 : W5.cell? ⟨w.heap.size, 7, none⟩ = some (.slice (A1 6) (L1 6).length (c1 6)) := blk_cell h5 7
      have u0 : W5.cell? ⟨w.heap.size + 1, 0, none⟩ = some (.slice (A2 0) (L2 0).length (c2 0)) := blk_cell h6 0
      have u1 : W5.cell? ⟨w.heap.size + 1, 1, none⟩ = some (.slice (A2 1) (L2 1).length (c2 1)) := blk_cell h6 1
      have u2 : W5.cell? ⟨w.heap.size + 1, 2, none⟩ = some (.slice (A2 2) (L2 2).length (c2 2)) := blk_cell h6 2
      have u3 : W5.cell? ⟨w.heap.size + 1, 3, none⟩ = some (.slice (A2 3) (L2 3).length (c2 3)) := blk_cell h6 3
      have u4 : W5.cell? ⟨w.heap.size + 1, 4, none⟩ = some (.bool b2) := blk_cell h6 4
      have u5 : W5.cell? ⟨w.heap.size + 1, 5, none⟩ = some (.slice (A2 4) (L2 4).length (c2 4)) := blk_cell h6 5
      have u6 : W5.cell? ⟨w.heap.size + 1, 6, none⟩ = some (.slice (A2 5) (L2 5).length (c2 5)) := blk_cell h6 6
      have u7 : W5.cell? ⟨w.heap.size + 1, 7, none⟩ = some (.slice (A2 6) (L2 6).length (c2 6)) := blk_cell h6 7
      have HL5 := Lib.hid (mix_lists (f := 4) (HL1.out.below HB5.out) (HL2.out.below HB5.out))
      have HL52 := Lib.hid (HL2.out.below HB5.out)
      have K5 := checkCl_all b1 (mix 4 A1 A2) (mix 4 c1 c2) (mix 4 L1 L2) W5 HL5.out (fun f hf => by unfold mix; split; exact HLe2.out f hf; exact HLe1.out f hf) (HT.out.below HB5.out)
      rw [chkGo_all _ 7 0 (fun i _ hi => by unfold mix; split; exact HZ2.out i (Nat.zero_le _) hi; exact HZ1.out i (Nat.zero_le _) hi)] at K5
      rw [show vCl b1 (mix 4 A1 A2) (mix 4 c1 c2) (mix 4 L1 L2) = .agg #[.slice (A1 0) (L1 0).length (c1 0), .slice (A1 1) (L1 1).length (c1 1), .slice (A1 2) (L1 2).length (c1 2), .slice (A1 3) (L1 3).length (c1 3), .bool b1, .slice (A2 4) (L2 4).length (c2 4), .slice (A1 5) (L1 5).length (c1 5), .slice (A1 6) (L1 6).length (c1 6)] from rfl] at K5
      have K6 : ∀ W, Lists 7 W (mix 4 A1 A2) (mix 4 c1 c2) (mix 4 L1 L2) → Calls Tryd.prog 28 #[.agg #[.slice (A1 0) (L1 0).length (c1 0), .slice (A1 1) (L1 1).length (c1 1), .slice (A1 2) (L1 2).length (c1 2), .slice (A1 3) (L1 3).length (c1 3), .bool b1, .slice (A2 4) (L2 4).length (c2 4), .slice (A1 5) (L1 5).length (c1 5), .slice (A1 6) (L1 6).length (c1 6)], .int .i64 4] W fun e w' => ∃ P p, e = .returned (.slice P (L2 4).length p) ∧ ItemsAt w' P (L2 4) ∧ Below W.heap.size W w' :=
        fun W hW => (fieldCl_any 4 (by omega) b1 (mix 4 A1 A2) (mix 4 c1 c2) (mix 4 L1 L2) W hW (HLe2.out 4 (by omega))).mono (fun e w' ⟨P, p, q1, q2, q3, _⟩ => ⟨P, p, q1, q2, q3⟩)
      have K7 : ∀ W, Lists 7 W A2 c2 L2 → Calls Tryd.prog 28 #[.agg #[.slice (A2 0) (L2 0).length (c2 0), .slice (A2 1) (L2 1).length (c2 1), .slice (A2 2) (L2 2).length (c2 2), .slice (A2 3) (L2 3).length (c2 3), .bool b2, .slice (A2 4) (L2 4).length (c2 4), .slice (A2 5) (L2 5).length (c2 5), .slice (A2 6) (L2 6).length (c2 6)], .int .i64 4] W fun e w' => ∃ P p, e = .returned (.slice P (L2 4).length p) ∧ ItemsAt w' P (L2 4) ∧ Below W.heap.size W w' :=
        fun W hW => (fieldCl_any 4 (by omega) b2 A2 c2 L2 W hW (HLe2.out 4 (by omega))).mono (fun e w' ⟨P, p, q1, q2, q3, _⟩ => ⟨P, p, q1, q2, q3⟩)
      have K8 := fun W P Q cp cq hp hq => isame_any P Q cp cq (L2 4) (L2 4) W (HLe2.out 4 (by omega)) (HLe2.out 4 (by omega)) hp hq
      rw [show sameQ (L2 4) (L2 4) = true from decide_eq_true rfl] at K8
      simp only [] at K5
      have hg5 := lt_of_block h5
      have hd5 := lt_of_block h6
      have HS0 := Lib.hid (show Below W5.heap.size W5 W5 ∧ W5.cell? ⟨w.heap.size, 0, none⟩ = some (.slice (A1 0) (L1 0).length (c1 0)) ∧ W5.cell? ⟨w.heap.size, 1, none⟩ = some (.slice (A1 1) (L1 1).length (c1 1)) ∧ W5.cell? ⟨w.heap.size, 2, none⟩ = some (.slice (A1 2) (L1 2).length (c1 2)) ∧ W5.cell? ⟨w.heap.size, 3, none⟩ = some (.slice (A1 3) (L1 3).length (c1 3)) ∧ W5.cell? ⟨w.heap.size, 4, none⟩ = some (.bool b1) ∧ W5.cell? ⟨w.heap.size, 5, none⟩ = some (.slice (A2 4) (L2 4).length (c2 4)) ∧ W5.cell? ⟨w.heap.size, 6, none⟩ = some (.slice (A1 5) (L1 5).length (c1 5)) ∧ W5.cell? ⟨w.heap.size, 7, none⟩ = some (.slice (A1 6) (L1 6).length (c1 6)) ∧ W5.cell? ⟨w.heap.size + 1, 0, none⟩ = some (.slice (A2 0) (L2 0).length (c2 0)) ∧ W5.cell? ⟨w.heap.size + 1, 1, none⟩ = some (.slice (A2 1) (L2 1).length (c2 1)) ∧ W5.cell? ⟨w.heap.size + 1, 2, none⟩ = some (.slice (A2 2) (L2 2).length (c2 2)) ∧ W5.cell? ⟨w.heap.size + 1, 3, none⟩ = some (.slice (A2 3) (L2 3).length (c2 3)) ∧ W5.cell? ⟨w.heap.size + 1, 4, none⟩ = some (.bool b2) ∧ W5.cell? ⟨w.heap.size + 1, 5, none⟩ = some (.slice (A2 4) (L2 4).length (c2 4)) ∧ W5.cell? ⟨w.heap.size + 1, 6, none⟩ = some (.slice (A2 5) (L2 5).length (c2 5)) ∧ W5.cell? ⟨w.heap.size + 1, 7, none⟩ = some (.slice (A2 6) (L2 6).length (c2 6)) from ⟨Below.refl _ _, v0, v1, v2, v3, v4, v5, v6, v7, u0, u1, u2, u3, u4, u5, u6, u7⟩)
      have HT5 := Lib.hid (HT.out.below HB5.out)
      have tm : Int.tmod (K : Int) 7 = 4 := by rw [Int.tmod_eq_emod_of_nonneg (by omega)]; exact er
      clear h5 h6 u0 u1 u2 u3 u4 u5 u6 u7
      go_wp2_with fail
      try rw [hW5]
      clear hW5 fz z0 z1 z2 z3 z4 z5 z6 z7 y0 y1 y2 y3 y4 y5 y6 y7
      refine K5.mono ?_
      rintro e w6 ⟨rfl, hb6⟩
      have HS := each_keep hg5 hd5 hb6.drew HS0.out
      clear v0 v1 v2 v3 v4 v5 v6 v7 K5 hb6
      have wf : IntKind.i64.wrap (4 : Int) = 4 := by decide
      go_wp2_with fail
      go_region_held3 (fun w' => Below W5.heap.size W5 w' ∧ w'.cell? ⟨w.heap.size, 0, none⟩ = some (.slice (A1 0) (L1 0).length (c1 0)) ∧ w'.cell? ⟨w.heap.size, 1, none⟩ = some (.slice (A1 1) (L1 1).length (c1 1)) ∧ w'.cell? ⟨w.heap.size, 2, none⟩ = some (.slice (A1 2) (L1 2).length (c1 2)) ∧ w'.cell? ⟨w.heap.size, 3, none⟩ = some (.slice (A1 3) (L1 3).length (c1 3)) ∧ w'.cell? ⟨w.heap.size, 4, none⟩ = some (.bool b1) ∧ w'.cell? ⟨w.heap.size, 5, none⟩ = some (.slice (A2 4) (L2 4).length (c2 4)) ∧ w'.cell? ⟨w.heap.size, 6, none⟩ = some (.slice (A1 5) (L1 5).length (c1 5)) ∧ w'.cell? ⟨w.heap.size, 7, none⟩ = some (.slice (A1 6) (L1 6).length (c1 6)) ∧ w'.cell? ⟨w.heap.size + 1, 0, none⟩ = some (.slice (A2 0) (L2 0).length (c2 0)) ∧ w'.cell? ⟨w.heap.size + 1, 1, none⟩ = some (.slice (A2 1) (L2 1).length (c2 1)) ∧ w'.cell? ⟨w.heap.size + 1, 2, none⟩ = some (.slice (A2 2) (L2 2).length (c2 2)) ∧ w'.cell? ⟨w.heap.size + 1, 3, none⟩ = some (.slice (A2 3) (L2 3).length (c2 3)) ∧ w'.cell? ⟨w.heap.size + 1, 4, none⟩ = some (.bool b2) ∧ w'.cell? ⟨w.heap.size + 1, 5, none⟩ = some (.slice (A2 4) (L2 4).length (c2 4)) ∧ w'.cell? ⟨w.heap.size + 1, 6, none⟩ = some (.slice (A2 5) (L2 5).length (c2 5)) ∧ w'.cell? ⟨w.heap.size + 1, 7, none⟩ = some (.slice (A2 6) (L2 6).length (c2 6))) (first | exact HS | exact each_keep hg5 hd5 (by assumption) (by assumption)) (first | (go_at_call 28; with_reducible refine (K6 _ (HL5.out.below (each_below (by assumption)))).mono ?_; rintro e w2 ⟨P1, p1, rfl, hat1, hb1⟩) | (go_at_call 28; with_reducible refine (K7 _ (HL52.out.below (each_below (by assumption)))).mono ?_; rintro e w2 ⟨P2, p2, rfl, hat2, hb2⟩) | (go_at_call 16; with_reducible refine (K8 _ _ _ _ _ (by first | exact hat1 | exact hat1.below hb2) (by first | exact hat2 | exact hat2.below hb1)).mono ?_; rintro e w2 ⟨rfl, hq⟩; have hb3 := quiet_below hq) | (go_at_call 23; with_reducible refine (lives28_any _ (HT5.out.below (each_below (by assumption)))).mono ?_; rintro e w2 ⟨rfl, hb4⟩))
      all_goals (
        have hH : Below W5.heap.size W5 w2 := each_below (by assumption)
        go_wp2
        go_ret
        exact ⟨rfl, HB5.out.trans (hH.mono HB5.out.size)⟩)
    · have HF := Lib.hid (show K % 7 = 5 by omega)
      have er : (K : Int) % 7 = 5 := by omega
      have fz : w4.frozen? ⟨w.heap.size, 6, none⟩ = false := blk_free HG4.out 6
      obtain ⟨W5, hW5⟩ : ∃ W5, w4.setCell ⟨w.heap.size, 6, none⟩ (.slice (A2 5) (L2 5).length (c2 5)) = W5 := ⟨_, rfl⟩
      have h5 : W5.heap[w.heap.size]? = some (.cells #[.slice (A1 0) (L1 0).length (c1 0), .slice (A1 1) (L1 1).length (c1 1), .slice (A1 2) (L1 2).length (c1 2), .slice (A1 3) (L1 3).length (c1 3), .bool b1, .slice (A1 4) (L1 4).length (c1 4), .slice (A2 5) (L2 5).length (c2 5), .slice (A1 6) (L1 6).length (c1 6)] 40 (0, 0)) := by rw [← hW5]; exact blk_put HG4.out 6 _
      have h6 : W5.heap[w.heap.size + 1]? = some (.cells #[.slice (A2 0) (L2 0).length (c2 0), .slice (A2 1) (L2 1).length (c2 1), .slice (A2 2) (L2 2).length (c2 2), .slice (A2 3) (L2 3).length (c2 3), .bool b2, .slice (A2 4) (L2 4).length (c2 4), .slice (A2 5) (L2 5).length (c2 5), .slice (A2 6) (L2 6).length (c2 6)] 40 (0, 0)) := by rw [← hW5]; exact blk_else HD4.out _ (by show w.heap.size + 1 ≠ w.heap.size; omega) _
      have HB5 := Lib.hid (show Below w.heap.size w W5 by rw [← hW5]; exact HB4.out.setCell (p := ⟨w.heap.size, 6, none⟩) (Nat.le_refl _) _)
      have v0 : W5.cell? ⟨w.heap.size, 0, none⟩ = some (.slice (A1 0) (L1 0).length (c1 0)) := blk_cell h5 0
      have v1 : W5.cell? ⟨w.heap.size, 1, none⟩ = some (.slice (A1 1) (L1 1).length (c1 1)) := blk_cell h5 1
      have v2 : W5.cell? ⟨w.heap.size, 2, none⟩ = some (.slice (A1 2) (L1 2).length (c1 2)) := blk_cell h5 2
      have v3 : W5.cell? ⟨w.heap.size, 3, none⟩ = some (.slice (A1 3) (L1 3).length (c1 3)) := blk_cell h5 3
      have v4 : W5.cell? ⟨w.heap.size, 4, none⟩ = some (.bool b1) := blk_cell h5 4
      have v5 : W5.cell? ⟨w.heap.size, 5, none⟩ = some (.slice (A1 4) (L1 4).length (c1 4)) := blk_cell h5 5
      have v6 : W5.cell? ⟨w.heap.size, 6, none⟩ = some (.slice (A2 5) (L2 5).length (c2 5)) := blk_cell h5 6
      have v7 : W5.cell? ⟨w.heap.size, 7, none⟩ = some (.slice (A1 6) (L1 6).length (c1 6)) := blk_cell h5 7
      have u0 : W5.cell? ⟨w.heap.size + 1, 0, none⟩ = some (.slice (A2 0) (L2 0).length (c2 0)) := blk_cell h6 0
      have u1 : W5.cell? ⟨w.heap.size + 1, 1, none⟩ = some (.slice (A2 1) (L2 1).length (c2 1)) := blk_cell h6 1
      have u2 : W5.cell? ⟨w.heap.size + 1, 2, none⟩ = some (.slice (A2 2) (L2 2).length (c2 2)) := blk_cell h6 2
      have u3 : W5.cell? ⟨w.heap.size + 1, 3, none⟩ = some (.slice (A2 3) (L2 3).length (c2 3)) := blk_cell h6 3
      have u4 : W5.cell? ⟨w.heap.size + 1, 4, none⟩ = some (.bool b2) := blk_cell h6 4
      have u5 : W5.cell? ⟨w.heap.size + 1, 5, none⟩ = some (.slice (A2 4) (L2 4).length (c2 4)) := blk_cell h6 5
      have u6 : W5.cell? ⟨w.heap.size + 1, 6, none⟩ = some (.slice (A2 5) (L2 5).length (c2 5)) := blk_cell h6 6
      have u7 : W5.cell? ⟨w.heap.size + 1, 7, none⟩ = some (.slice (A2 6) (L2 6).length (c2 6)) := blk_cell h6 7
      have HL5 := Lib.hid (mix_lists (f := 5) (HL1.out.below HB5.out) (HL2.out.below HB5.out))
      have HL52 := Lib.hid (HL2.out.below HB5.out)
      have K5 := checkCl_all b1 (mix 5 A1 A2) (mix 5 c1 c2) (mix 5 L1 L2) W5 HL5.out (fun f hf => by unfold mix; split; exact HLe2.out f hf; exact HLe1.out f hf) (HT.out.below HB5.out)
      rw [chkGo_all _ 7 0 (fun i _ hi => by unfold mix; split; exact HZ2.out i (Nat.zero_le _) hi; exact HZ1.out i (Nat.zero_le _) hi)] at K5
      rw [show vCl b1 (mix 5 A1 A2) (mix 5 c1 c2) (mix 5 L1 L2) = .agg #[.slice (A1 0) (L1 0).length (c1 0), .slice (A1 1) (L1 1).length (c1 1), .slice (A1 2) (L1 2).length (c1 2), .slice (A1 3) (L1 3).length (c1 3), .bool b1, .slice (A1 4) (L1 4).length (c1 4), .slice (A2 5) (L2 5).length (c2 5), .slice (A1 6) (L1 6).length (c1 6)] from rfl] at K5
      have K6 : ∀ W, Lists 7 W (mix 5 A1 A2) (mix 5 c1 c2) (mix 5 L1 L2) → Calls Tryd.prog 28 #[.agg #[.slice (A1 0) (L1 0).length (c1 0), .slice (A1 1) (L1 1).length (c1 1), .slice (A1 2) (L1 2).length (c1 2), .slice (A1 3) (L1 3).length (c1 3), .bool b1, .slice (A1 4) (L1 4).length (c1 4), .slice (A2 5) (L2 5).length (c2 5), .slice (A1 6) (L1 6).length (c1 6)], .int .i64 5] W fun e w' => ∃ P p, e = .returned (.slice P (L2 5).length p) ∧ ItemsAt w' P (L2 5) ∧ Below W.heap.size W w' :=
        fun W hW => (fieldCl_any 5 (by omega) b1 (mix 5 A1 A2) (mix 5 c1 c2) (mix 5 L1 L2) W hW (HLe2.out 5 (by omega))).mono (fun e w' ⟨P, p, q1, q2, q3, _⟩ => ⟨P, p, q1, q2, q3⟩)
      have K7 : ∀ W, Lists 7 W A2 c2 L2 → Calls Tryd.prog 28 #[.agg #[.slice (A2 0) (L2 0).length (c2 0), .slice (A2 1) (L2 1).length (c2 1), .slice (A2 2) (L2 2).length (c2 2), .slice (A2 3) (L2 3).length (c2 3), .bool b2, .slice (A2 4) (L2 4).length (c2 4), .slice (A2 5) (L2 5).length (c2 5), .slice (A2 6) (L2 6).length (c2 6)], .int .i64 5] W fun e w' => ∃ P p, e = .returned (.slice P (L2 5).length p) ∧ ItemsAt w' P (L2 5) ∧ Below W.heap.size W w' :=
        fun W hW => (fieldCl_any 5 (by omega) b2 A2 c2 L2 W hW (HLe2.out 5 (by omega))).mono (fun e w' ⟨P, p, q1, q2, q3, _⟩ => ⟨P, p, q1, q2, q3⟩)
      have K8 := fun W P Q cp cq hp hq => isame_any P Q cp cq (L2 5) (L2 5) W (HLe2.out 5 (by omega)) (HLe2.out 5 (by omega)) hp hq
      rw [show sameQ (L2 5) (L2 5) = true from decide_eq_true rfl] at K8
      simp only [] at K5
      have hg5 := lt_of_block h5
      have hd5 := lt_of_block h6
      have HS0 := Lib.hid (show Below W5.heap.size W5 W5 ∧ W5.cell? ⟨w.heap.size, 0, none⟩ = some (.slice (A1 0) (L1 0).length (c1 0)) ∧ W5.cell? ⟨w.heap.size, 1, none⟩ = some (.slice (A1 1) (L1 1).length (c1 1)) ∧ W5.cell? ⟨w.heap.size, 2, none⟩ = some (.slice (A1 2) (L1 2).length (c1 2)) ∧ W5.cell? ⟨w.heap.size, 3, none⟩ = some (.slice (A1 3) (L1 3).length (c1 3)) ∧ W5.cell? ⟨w.heap.size, 4, none⟩ = some (.bool b1) ∧ W5.cell? ⟨w.heap.size, 5, none⟩ = some (.slice (A1 4) (L1 4).length (c1 4)) ∧ W5.cell? ⟨w.heap.size, 6, none⟩ = some (.slice (A2 5) (L2 5).length (c2 5)) ∧ W5.cell? ⟨w.heap.size, 7, none⟩ = some (.slice (A1 6) (L1 6).length (c1 6)) ∧ W5.cell? ⟨w.heap.size + 1, 0, none⟩ = some (.slice (A2 0) (L2 0).length (c2 0)) ∧ W5.cell? ⟨w.heap.size + 1, 1, none⟩ = some (.slice (A2 1) (L2 1).length (c2 1)) ∧ W5.cell? ⟨w.heap.size + 1, 2, none⟩ = some (.slice (A2 2) (L2 2).length (c2 2)) ∧ W5.cell? ⟨w.heap.size + 1, 3, none⟩ = some (.slice (A2 3) (L2 3).length (c2 3)) ∧ W5.cell? ⟨w.heap.size + 1, 4, none⟩ = some (.bool b2) ∧ W5.cell? ⟨w.heap.size + 1, 5, none⟩ = some (.slice (A2 4) (L2 4).length (c2 4)) ∧ W5.cell? ⟨w.heap.size + 1, 6, none⟩ = some (.slice (A2 5) (L2 5).length (c2 5)) ∧ W5.cell? ⟨w.heap.size + 1, 7, none⟩ = some (.slice (A2 6) (L2 6).length (c2 6)) from ⟨Below.refl _ _, v0, v1, v2, v3, v4, v5, v6, v7, u0, u1, u2, u3, u4, u5, u6, u7⟩)
      have HT5 := Lib.hid (HT.out.below HB5.out)
      have tm : Int.tmod (K : Int) 7 = 5 := by rw [Int.tmod_eq_emod_of_nonneg (by omega)]; exact er
      clear h5 h6 u0 u1 u2 u3 u4 u5 u6 u7
      go_wp2_with fail
      try rw [hW5]
      clear hW5 fz z0 z1 z2 z3 z4 z5 z6 z7 y0 y1 y2 y3 y4 y5 y6 y7
      refine K5.mono ?_
      rintro e w6 ⟨rfl, hb6⟩
      have HS := each_keep hg5 hd5 hb6.drew HS0.out
      clear v0 v1 v2 v3 v4 v5 v6 v7 K5 hb6
      have wf : IntKind.i64.wrap (5 : Int) = 5 := by decide
      go_wp2_with fail
      go_region_held3 (fun w' => Below W5.heap.size W5 w' ∧ w'.cell? ⟨w.heap.size, 0, none⟩ = some (.slice (A1 0) (L1 0).length (c1 0)) ∧ w'.cell? ⟨w.heap.size, 1, none⟩ = some (.slice (A1 1) (L1 1).length (c1 1)) ∧ w'.cell? ⟨w.heap.size, 2, none⟩ = some (.slice (A1 2) (L1 2).length (c1 2)) ∧ w'.cell? ⟨w.heap.size, 3, none⟩ = some (.slice (A1 3) (L1 3).length (c1 3)) ∧ w'.cell? ⟨w.heap.size, 4, none⟩ = some (.bool b1) ∧ w'.cell? ⟨w.heap.size, 5, none⟩ = some (.slice (A1 4) (L1 4).length (c1 4)) ∧ w'.cell? ⟨w.heap.size, 6, none⟩ = some (.slice (A2 5) (L2 5).length (c2 5)) ∧ w'.cell? ⟨w.heap.size, 7, none⟩ = some (.slice (A1 6) (L1 6).length (c1 6)) ∧ w'.cell? ⟨w.heap.size + 1, 0, none⟩ = some (.slice (A2 0) (L2 0).length (c2 0)) ∧ w'.cell? ⟨w.heap.size + 1, 1, none⟩ = some (.slice (A2 1) (L2 1).length (c2 1)) ∧ w'.cell? ⟨w.heap.size + 1, 2, none⟩ = some (.slice (A2 2) (L2 2).length (c2 2)) ∧ w'.cell? ⟨w.heap.size + 1, 3, none⟩ = some (.slice (A2 3) (L2 3).length (c2 3)) ∧ w'.cell? ⟨w.heap.size + 1, 4, none⟩ = some (.bool b2) ∧ w'.cell? ⟨w.heap.size + 1, 5, none⟩ = some (.slice (A2 4) (L2 4).length (c2 4)) ∧ w'.cell? ⟨w.heap.size + 1, 6, none⟩ = some (.slice (A2 5) (L2 5).length (c2 5)) ∧ w'.cell? ⟨w.heap.size + 1, 7, none⟩ = some (.slice (A2 6) (L2 6).length (c2 6))) (first | exact HS | exact each_keep hg5 hd5 (by assumption) (by assumption)) (first | (go_at_call 28; with_reducible refine (K6 _ (HL5.out.below (each_below (by assumption)))).mono ?_; rintro e w2 ⟨P1, p1, rfl, hat1, hb1⟩) | (go_at_call 28; with_reducible refine (K7 _ (HL52.out.below (each_below (by assumption)))).mono ?_; rintro e w2 ⟨P2, p2, rfl, hat2, hb2⟩) | (go_at_call 16; with_reducible refine (K8 _ _ _ _ _ (by first | exact hat1 | exact hat1.below hb2) (by first | exact hat2 | exact hat2.below hb1)).mono ?_; rintro e w2 ⟨rfl, hq⟩; have hb3 := quiet_below hq) | (go_at_call 23; with_reducible refine (lives28_any _ (HT5.out.below (each_below (by assumption)))).mono ?_; rintro e w2 ⟨rfl, hb4⟩))
      all_goals (
        have hH : Below W5.heap.size W5 w2 := each_below (by assumption)
        go_wp2
        go_ret
        exact ⟨rfl, HB5.out.trans (hH.mono HB5.out.size)⟩)
    · have HF := Lib.hid (show K % 7 = 6 by omega)
      have er : (K : Int) % 7 = 6 := by omega
      have fz : w4.frozen? ⟨w.heap.size, 7, none⟩ = false := blk_free HG4.out 7
      obtain ⟨W5, hW5⟩ : ∃ W5, w4.setCell ⟨w.heap.size, 7, none⟩ (.slice (A2 6) (L2 6).length (c2 6)) = W5 := ⟨_, rfl⟩
      have h5 : W5.heap[w.heap.size]? = some (.cells #[.slice (A1 0) (L1 0).length (c1 0), .slice (A1 1) (L1 1).length (c1 1), .slice (A1 2) (L1 2).length (c1 2), .slice (A1 3) (L1 3).length (c1 3), .bool b1, .slice (A1 4) (L1 4).length (c1 4), .slice (A1 5) (L1 5).length (c1 5), .slice (A2 6) (L2 6).length (c2 6)] 40 (0, 0)) := by rw [← hW5]; exact blk_put HG4.out 7 _
      have h6 : W5.heap[w.heap.size + 1]? = some (.cells #[.slice (A2 0) (L2 0).length (c2 0), .slice (A2 1) (L2 1).length (c2 1), .slice (A2 2) (L2 2).length (c2 2), .slice (A2 3) (L2 3).length (c2 3), .bool b2, .slice (A2 4) (L2 4).length (c2 4), .slice (A2 5) (L2 5).length (c2 5), .slice (A2 6) (L2 6).length (c2 6)] 40 (0, 0)) := by rw [← hW5]; exact blk_else HD4.out _ (by show w.heap.size + 1 ≠ w.heap.size; omega) _
      have HB5 := Lib.hid (show Below w.heap.size w W5 by rw [← hW5]; exact HB4.out.setCell (p := ⟨w.heap.size, 7, none⟩) (Nat.le_refl _) _)
      have v0 : W5.cell? ⟨w.heap.size, 0, none⟩ = some (.slice (A1 0) (L1 0).length (c1 0)) := blk_cell h5 0
      have v1 : W5.cell? ⟨w.heap.size, 1, none⟩ = some (.slice (A1 1) (L1 1).length (c1 1)) := blk_cell h5 1
      have v2 : W5.cell? ⟨w.heap.size, 2, none⟩ = some (.slice (A1 2) (L1 2).length (c1 2)) := blk_cell h5 2
      have v3 : W5.cell? ⟨w.heap.size, 3, none⟩ = some (.slice (A1 3) (L1 3).length (c1 3)) := blk_cell h5 3
      have v4 : W5.cell? ⟨w.heap.size, 4, none⟩ = some (.bool b1) := blk_cell h5 4
      have v5 : W5.cell? ⟨w.heap.size, 5, none⟩ = some (.slice (A1 4) (L1 4).length (c1 4)) := blk_cell h5 5
      have v6 : W5.cell? ⟨w.heap.size, 6, none⟩ = some (.slice (A1 5) (L1 5).length (c1 5)) := blk_cell h5 6
      have v7 : W5.cell? ⟨w.heap.size, 7, none⟩ = some (.slice (A2 6) (L2 6).length (c2 6)) := blk_cell h5 7
      have u0 : W5.cell? ⟨w.heap.size + 1, 0, none⟩ = some (.slice (A2 0) (L2 0).length (c2 0)) := blk_cell h6 0
      have u1 : W5.cell? ⟨w.heap.size + 1, 1, none⟩ = some (.slice (A2 1) (L2 1).length (c2 1)) := blk_cell h6 1
      have u2 : W5.cell? ⟨w.heap.size + 1, 2, none⟩ = some (.slice (A2 2) (L2 2).length (c2 2)) := blk_cell h6 2
      have u3 : W5.cell? ⟨w.heap.size + 1, 3, none⟩ = some (.slice (A2 3) (L2 3).length (c2 3)) := blk_cell h6 3
      have u4 : W5.cell? ⟨w.heap.size + 1, 4, none⟩ = some (.bool b2) := blk_cell h6 4
      have u5 : W5.cell? ⟨w.heap.size + 1, 5, none⟩ = some (.slice (A2 4) (L2 4).length (c2 4)) := blk_cell h6 5
      have u6 : W5.cell? ⟨w.heap.size + 1, 6, none⟩ = some (.slice (A2 5) (L2 5).length (c2 5)) := blk_cell h6 6
      have u7 : W5.cell? ⟨w.heap.size + 1, 7, none⟩ = some (.slice (A2 6) (L2 6).length (c2 6)) := blk_cell h6 7
      have HL5 := Lib.hid (mix_lists (f := 6) (HL1.out.below HB5.out) (HL2.out.below HB5.out))
      have HL52 := Lib.hid (HL2.out.below HB5.out)
      have K5 := checkCl_all b1 (mix 6 A1 A2) (mix 6 c1 c2) (mix 6 L1 L2) W5 HL5.out (fun f hf => by unfold mix; split; exact HLe2.out f hf; exact HLe1.out f hf) (HT.out.below HB5.out)
      rw [chkGo_all _ 7 0 (fun i _ hi => by unfold mix; split; exact HZ2.out i (Nat.zero_le _) hi; exact HZ1.out i (Nat.zero_le _) hi)] at K5
      rw [show vCl b1 (mix 6 A1 A2) (mix 6 c1 c2) (mix 6 L1 L2) = .agg #[.slice (A1 0) (L1 0).length (c1 0), .slice (A1 1) (L1 1).length (c1 1), .slice (A1 2) (L1 2).length (c1 2), .slice (A1 3) (L1 3).length (c1 3), .bool b1, .slice (A1 4) (L1 4).length (c1 4), .slice (A1 5) (L1 5).length (c1 5), .slice (A2 6) (L2 6).length (c2 6)] from rfl] at K5
      have K6 : ∀ W, Lists 7 W (mix 6 A1 A2) (mix 6 c1 c2) (mix 6 L1 L2) → Calls Tryd.prog 28 #[.agg #[.slice (A1 0) (L1 0).length (c1 0), .slice (A1 1) (L1 1).length (c1 1), .slice (A1 2) (L1 2).length (c1 2), .slice (A1 3) (L1 3).length (c1 3), .bool b1, .slice (A1 4) (L1 4).length (c1 4), .slice (A1 5) (L1 5).length (c1 5), .slice (A2 6) (L2 6).length (c2 6)], .int .i64 6] W fun e w' => ∃ P p, e = .returned (.slice P (L2 6).length p) ∧ ItemsAt w' P (L2 6) ∧ Below W.heap.size W w' :=
        fun W hW => (fieldCl_any 6 (by omega) b1 (mix 6 A1 A2) (mix 6 c1 c2) (mix 6 L1 L2) W hW (HLe2.out 6 (by omega))).mono (fun e w' ⟨P, p, q1, q2, q3, _⟩ => ⟨P, p, q1, q2, q3⟩)
      have K7 : ∀ W, Lists 7 W A2 c2 L2 → Calls Tryd.prog 28 #[.agg #[.slice (A2 0) (L2 0).length (c2 0), .slice (A2 1) (L2 1).length (c2 1), .slice (A2 2) (L2 2).length (c2 2), .slice (A2 3) (L2 3).length (c2 3), .bool b2, .slice (A2 4) (L2 4).length (c2 4), .slice (A2 5) (L2 5).length (c2 5), .slice (A2 6) (L2 6).length (c2 6)], .int .i64 6] W fun e w' => ∃ P p, e = .returned (.slice P (L2 6).length p) ∧ ItemsAt w' P (L2 6) ∧ Below W.heap.size W w' :=
        fun W hW => (fieldCl_any 6 (by omega) b2 A2 c2 L2 W hW (HLe2.out 6 (by omega))).mono (fun e w' ⟨P, p, q1, q2, q3, _⟩ => ⟨P, p, q1, q2, q3⟩)
      have K8 := fun W P Q cp cq hp hq => isame_any P Q cp cq (L2 6) (L2 6) W (HLe2.out 6 (by omega)) (HLe2.out 6 (by omega)) hp hq
      rw [show sameQ (L2 6) (L2 6) = true from decide_eq_true rfl] at K8
      simp only [] at K5
      have hg5 := lt_of_block h5
      have hd5 := lt_of_block h6
      have HS0 := Lib.hid (show Below W5.heap.size W5 W5 ∧ W5.cell? ⟨w.heap.size, 0, none⟩ = some (.slice (A1 0) (L1 0).length (c1 0)) ∧ W5.cell? ⟨w.heap.size, 1, none⟩ = some (.slice (A1 1) (L1 1).length (c1 1)) ∧ W5.cell? ⟨w.heap.size, 2, none⟩ = some (.slice (A1 2) (L1 2).length (c1 2)) ∧ W5.cell? ⟨w.heap.size, 3, none⟩ = some (.slice (A1 3) (L1 3).length (c1 3)) ∧ W5.cell? ⟨w.heap.size, 4, none⟩ = some (.bool b1) ∧ W5.cell? ⟨w.heap.size, 5, none⟩ = some (.slice (A1 4) (L1 4).length (c1 4)) ∧ W5.cell? ⟨w.heap.size, 6, none⟩ = some (.slice (A1 5) (L1 5).length (c1 5)) ∧ W5.cell? ⟨w.heap.size, 7, none⟩ = some (.slice (A2 6) (L2 6).length (c2 6)) ∧ W5.cell? ⟨w.heap.size + 1, 0, none⟩ = some (.slice (A2 0) (L2 0).length (c2 0)) ∧ W5.cell? ⟨w.heap.size + 1, 1, none⟩ = some (.slice (A2 1) (L2 1).length (c2 1)) ∧ W5.cell? ⟨w.heap.size + 1, 2, none⟩ = some (.slice (A2 2) (L2 2).length (c2 2)) ∧ W5.cell? ⟨w.heap.size + 1, 3, none⟩ = some (.slice (A2 3) (L2 3).length (c2 3)) ∧ W5.cell? ⟨w.heap.size + 1, 4, none⟩ = some (.bool b2) ∧ W5.cell? ⟨w.heap.size + 1, 5, none⟩ = some (.slice (A2 4) (L2 4).length (c2 4)) ∧ W5.cell? ⟨w.heap.size + 1, 6, none⟩ = some (.slice (A2 5) (L2 5).length (c2 5)) ∧ W5.cell? ⟨w.heap.size + 1, 7, none⟩ = some (.slice (A2 6) (L2 6).length (c2 6)) from ⟨Below.refl _ _, v0, v1, v2, v3, v4, v5, v6, v7, u0, u1, u2, u3, u4, u5, u6, u7⟩)
      have HT5 := Lib.hid (HT.out.below HB5.out)
      have tm : Int.tmod (K : Int) 7 = 6 := by rw [Int.tmod_eq_emod_of_nonneg (by omega)]; exact er
      clear h5 h6 u0 u1 u2 u3 u4 u5 u6 u7
      go_wp2_with fail
      try rw [hW5]
      clear hW5 fz z0 z1 z2 z3 z4 z5 z6 z7 y0 y1 y2 y3 y4 y5 y6 y7
      refine K5.mono ?_
      rintro e w6 ⟨rfl, hb6⟩
      have HS := each_keep hg5 hd5 hb6.drew HS0.out
      clear v0 v1 v2 v3 v4 v5 v6 v7 K5 hb6
      have wf : IntKind.i64.wrap (6 : Int) = 6 := by decide
      go_wp2_with fail
      go_region_held3 (fun w' => Below W5.heap.size W5 w' ∧ w'.cell? ⟨w.heap.size, 0, none⟩ = some (.slice (A1 0) (L1 0).length (c1 0)) ∧ w'.cell? ⟨w.heap.size, 1, none⟩ = some (.slice (A1 1) (L1 1).length (c1 1)) ∧ w'.cell? ⟨w.heap.size, 2, none⟩ = some (.slice (A1 2) (L1 2).length (c1 2)) ∧ w'.cell? ⟨w.heap.size, 3, none⟩ = some (.slice (A1 3) (L1 3).length (c1 3)) ∧ w'.cell? ⟨w.heap.size, 4, none⟩ = some (.bool b1) ∧ w'.cell? ⟨w.heap.size, 5, none⟩ = some (.slice (A1 4) (L1 4).length (c1 4)) ∧ w'.cell? ⟨w.heap.size, 6, none⟩ = some (.slice (A1 5) (L1 5).length (c1 5)) ∧ w'.cell? ⟨w.heap.size, 7, none⟩ = some (.slice (A2 6) (L2 6).length (c2 6)) ∧ w'.cell? ⟨w.heap.size + 1, 0, none⟩ = some (.slice (A2 0) (L2 0).length (c2 0)) ∧ w'.cell? ⟨w.heap.size + 1, 1, none⟩ = some (.slice (A2 1) (L2 1).length (c2 1)) ∧ w'.cell? ⟨w.heap.size + 1, 2, none⟩ = some (.slice (A2 2) (L2 2).length (c2 2)) ∧ w'.cell? ⟨w.heap.size + 1, 3, none⟩ = some (.slice (A2 3) (L2 3).length (c2 3)) ∧ w'.cell? ⟨w.heap.size + 1, 4, none⟩ = some (.bool b2) ∧ w'.cell? ⟨w.heap.size + 1, 5, none⟩ = some (.slice (A2 4) (L2 4).length (c2 4)) ∧ w'.cell? ⟨w.heap.size + 1, 6, none⟩ = some (.slice (A2 5) (L2 5).length (c2 5)) ∧ w'.cell? ⟨w.heap.size + 1, 7, none⟩ = some (.slice (A2 6) (L2 6).length (c2 6))) (first | exact HS | exact each_keep hg5 hd5 (by assumption) (by assumption)) (first | (go_at_call 28; with_reducible refine (K6 _ (HL5.out.below (each_below (by assumption)))).mono ?_; rintro e w2 ⟨P1, p1, rfl, hat1, hb1⟩) | (go_at_call 28; with_reducible refine (K7 _ (HL52.out.below (each_below (by assumption)))).mono ?_; rintro e w2 ⟨P2, p2, rfl, hat2, hb2⟩) | (go_at_call 16; with_reducible refine (K8 _ _ _ _ _ (by first | exact hat1 | exact hat1.below hb2) (by first | exact hat2 | exact hat2.below hb1)).mono ?_; rintro e w2 ⟨rfl, hq⟩; have hb3 := quiet_below hq) | (go_at_call 23; with_reducible refine (lives28_any _ (HT5.out.below (each_below (by assumption)))).mono ?_; rintro e w2 ⟨rfl, hb4⟩))
      all_goals (
        have hH : Below W5.heap.size W5 w2 := each_below (by assumption)
        go_wp2
        go_ret
        exact ⟨rfl, HB5.out.trans (hH.mono HB5.out.size)⟩)
  · have K7 := lives28_any w4 (HT.out.below HB4.out)
    clear g1 g2
    by_cases he1 : e1 = 0
    · have d1 : (e1 == 0) = true := by rw [beq_iff_eq]; exact he1
      have d3 : (e1 != 0) = false := by rw [bne_eq_false_iff_eq]; exact he1
      have d2 : (e2 == 0) = false := by rw [beq_eq_false_iff_ne]; exact fun h => he ⟨he1, h⟩
      have d4 : (e2 != 0) = true := by rw [bne_iff_ne]; exact fun h => he ⟨he1, h⟩
      clear he he1
      go_wp2_with fail
      refine K7.mono ?_
      rintro e w5 ⟨rfl, hb5⟩
      go_wp2
      go_ret
      exact ⟨rfl, HB4.out.trans (hb5.mono HB4.out.size)⟩
    · have d1 : (e1 == 0) = false := by rw [beq_eq_false_iff_ne]; exact he1
      have d3 : (e1 != 0) = true := by rw [bne_iff_ne]; exact he1
      clear he he1
      go_wp2_with fail
      refine K7.mono ?_
      rintro e w5 ⟨rfl, hb5⟩
      go_wp2
      go_ret
      exact ⟨rfl, HB4.out.trans (hb5.mono HB4.out.size)⟩
theorem calEach_walk (b1 : Bool) (A1 : Nat → Option Addr) (c1 : Nat → Nat) (L1 : Nat → List Q4) (b2 : Bool) (A2 : Nat → Option Addr) (c2 : Nat → Nat) (L2 : Nat → List Q4) (k : Int) (w : World) (hL1 : Lists 7 w A1 c1 L1) (hL2 : Lists 7 w A2 c2 L2) (wk : (Lit.int .u8 k).wf = true) (hT : TabCl w) :
    Calls Tryd.prog 7 #[vCl b1 A1 c1 L1, vCl b2 A2 c2 L2, .int .u8 k] w fun e w' => e = .returned (.bool true) ∧ Below w.heap.size w w' := by
  obtain ⟨K, rfl, hK⟩ := wf_u8 wk
  by_cases h : ∃ f0, f0 < 7 ∧ 500 < (L1 f0).length
  · obtain ⟨f0, h1, h2⟩ := h
    exact each_out1 b1 b2 A1 A2 c1 c2 L1 L2 K w f0 h1 h2 hT
  · have hl1 : ∀ f, f < 7 → (L1 f).length ≤ 500 := fun f hf => by
      rcases Nat.lt_or_ge 500 (L1 f).length with g | g
      · exact absurd ⟨f, hf, g⟩ h
      · exact g
    by_cases h' : ∃ f0, f0 < 7 ∧ 500 < (L2 f0).length
    · obtain ⟨f0, h1, h2⟩ := h'
      exact each_out2 b1 b2 A1 A2 c1 c2 L1 L2 K w hl1 f0 h1 h2 hT
    · exact each_in b1 b2 A1 A2 c1 c2 L1 L2 K w hl1 (fun f hf => by
        rcases Nat.lt_or_ge 500 (L2 f).length with g | g
        · exact absurd ⟨f, hf, g⟩ h'
        · exact g) hL1 hL2 hK hT
end Go.Proofs.YtjgifiaokmmjfaaDoor
