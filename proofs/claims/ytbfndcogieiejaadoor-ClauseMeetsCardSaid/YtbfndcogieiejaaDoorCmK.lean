/- Whether a clause's step is taken over, and its Ord: clause.joinStep, joinOrd (layer 13). Whether a clause's Ord is taken over: clause.joinOrd (layer 13). -/
import Derived.Test.YtbfndcogieiejaaDoorCm3
import Derived.Deep.QuietTactic
namespace Go.Proofs.YtbfndcogieiejaaDoor
open Go.RowKit
set_option linter.unusedVariables false

def stepOk (a c : Cl) : Bool := decide (c.st = 1) || !decide (1 < a.st)
def stepC (a c : Cl) : Cl := if c.st = 1 then a else { a with u := c.u, st := c.st, an := c.an }
theorem ClAt.drew {w : World} {g : Nat} {c : Cl} (h : ClAt w g c) : ClAt w.drew g c := h
theorem ClAt.put3 {w : World} {g : Nat} {a : Cl} (h : ClAt w g a) (u st an : Int) : ClAt (((w.setCell ⟨g, 25, none⟩ (.int .i64 u)).setCell ⟨g, 26, none⟩ (.int .i64 st)).setCell ⟨g, 27, none⟩ (.int .i64 an)) g { a with u := u, st := st, an := an } := blk_put (blk_put (blk_put h 25 (.int .i64 u)) 26 (.int .i64 st)) 27 (.int .i64 an)
set_option maxHeartbeats 1600000 in
set_option maxRecDepth 20000 in
theorem joinStep_any (a c : Cl) (g : Nat) (w : World) (hg : ClAt w g a) : Calls Tryd.prog 55 #[.pointer (some ⟨g, 0, none⟩), clV c] w fun e w' => e = .returned (.bool (stepOk a c)) ∧ (stepOk a c = true → ClAt w' g (stepC a c)) ∧ But (fun k => k = g) w w' := by
  have hgl : g < w.heap.size := lt_of_block hg
  have HB0 := Lib.hid (show Below w.heap.size w (w.alloc (.cells (clC c) 28)) from (Below.refl _ _).alloc (Nat.le_refl _) _)
  have HC0 := Lib.hid (show ClAt (w.alloc (.cells (clC c) 28)) w.heap.size c from blk_new w _)
  have HG0 := Lib.hid (hg.below HB0.out)
  have HS := Lib.hid (show stepOk a c = (decide (c.st = 1) || !decide (1 < a.st)) from rfl)
  have HT := Lib.hid (show stepC a c = if c.st = 1 then a else { a with u := c.u, st := c.st, an := c.an } from rfl)
  obtain ⟨x0, x1, x2⟩ := HC0.out.rest
  obtain ⟨y0, y1, y2⟩ := HG0.out.rest
  have z0 := blk_free HG0.out 25
  have z1 := blk_free HG0.out 26
  have z2 := blk_free HG0.out 27
  have hne : g ≠ w.heap.size := by omega
  have hne' : w.heap.size ≠ g := by omega
  generalize stepOk a c = so at HS ⊢
  generalize stepC a c = sc at HT ⊢
  clear hg
  obtain ⟨W0, hW0⟩ : ∃ W0, w.alloc (.cells (clC c) 28) = W0 := ⟨_, rfl⟩
  rw [hW0] at HB0 HC0 HG0 x0 x1 x2 y0 y1 y2 z0 z1 z2
  unfold clV clC
  unfold clC at hW0
  by_cases h1 : c.st = 1
  · have HE := Lib.hid (show so = true by rw [HS.out, h1]; rfl)
    have HF := Lib.hid (show sc = a by rw [HT.out, if_pos h1])
    have d1 : (c.st == 1) = true := by rw [beq_iff_eq]; exact h1
    clear h1 HS HT y0 y1 y2 z0 z1 z2
    go_enter Tryd.func55, Tryd.ntmps55
    go_wp2
    try rw [hW0]
    go_ret
    exact ⟨by rw [HE.out]; rfl, (fun _ => by rw [HF.out]; exact HG0.out), But.of_below HB0.out⟩
  · have d1 : (c.st == 1) = false := by rw [beq_eq_false_iff_ne]; exact h1
    by_cases h2 : 1 < a.st
    · have HE := Lib.hid (show so = false by rw [HS.out, dec_t h2, dec_n h1]; rfl)
      have d2 := dec_t h2
      clear h1 h2 HS HT z0 z1 z2
      go_enter Tryd.func55, Tryd.ntmps55
      go_wp2
      try rw [hW0]
      go_ret
      exact ⟨by rw [HE.out]; rfl, (fun h => by rw [HE.out] at h; cases h), But.of_below HB0.out⟩
    · have HE := Lib.hid (show so = true by rw [HS.out, dec_n h2, dec_n h1]; rfl)
      have HF := Lib.hid (show sc = { a with u := c.u, st := c.st, an := c.an } by rw [HT.out, if_neg h1])
      have d2 := dec_n h2
      clear h1 h2 HS HT
      go_enter Tryd.func55, Tryd.ntmps55
      go_wp2_with fail
      try rw [hW0]
      go_wp2_with fail
      go_region
      have HD := Lib.hid (HG0.out.put3 c.u c.st c.an).drew
      have HBT := Lib.hid ((((But.of_below (X := fun k => k = g) HB0.out).setCell (p := ⟨g, 25, none⟩) (.inr rfl) (.int .i64 c.u)).setCell (p := ⟨g, 26, none⟩) (.inr rfl) (.int .i64 c.st)).setCell (p := ⟨g, 27, none⟩) (.inr rfl) (.int .i64 c.an)).drew
      clear hW0 x0 x1 x2 y0 y1 y2 z0 z1 z2
      go_wp2
      go_ret
      exact ⟨by rw [HE.out]; rfl, (fun _ => by rw [HF.out]; exact HD.out), HBT.out⟩
/-- says an Ord nothing? -/
def noOrd (c : Cl) : Bool := decide (c.n = 0) && ((c.b == false) && decide (c.D 0 = 0 ∧ c.D 1 = 0 ∧ c.D 2 = 0 ∧ c.D 3 = 0 ∧ c.D 4 = 0 ∧ c.D 5 = 0 ∧ c.D 6 = 0 ∧ c.D 7 = 0))
end Go.Proofs.YtbfndcogieiejaaDoor
namespace Go.Proofs.YtbfndcogieiejaaDoor
open Go.RowKit
set_option linter.unusedVariables false
attribute [local go_sem] eq_ord guard_ord

def noO (n : Int) (b : Bool) (D : Nat → Nat) : Bool := decide (n = 0) && (!b && decide (D 0 = 0 ∧ D 1 = 0 ∧ D 2 = 0 ∧ D 3 = 0 ∧ D 4 = 0 ∧ D 5 = 0 ∧ D 6 = 0 ∧ D 7 = 0))
def ordOk (a c : Cl) : Bool := noO c.n c.b c.D || noO a.n a.b a.D
def ordJ (a c : Cl) : Cl := if noO c.n c.b c.D = true then a else { a with n := c.n, b := c.b, D := c.D }
def ordZ : Array Value := #[.int .i64 0, .bool false, .int .u64 0, .int .u64 0, .int .u64 0, .int .u64 0, .int .u64 0, .int .u64 0, .int .u64 0, .int .u64 0]
set_option maxHeartbeats 800000 in
set_option maxRecDepth 20000 in
theorem ClAt.put10 {w : World} {g : Nat} {a : Cl} (h : ClAt w g a) (c : Cl) : ClAt ((((((((((w.setCell ⟨g, 8, none⟩ (.int .i64 c.n)).setCell ⟨g, 9, none⟩ (.bool c.b)).setCell ⟨g, 10, none⟩ (.int .u64 (c.D 0 : Nat))).setCell ⟨g, 11, none⟩ (.int .u64 (c.D 1 : Nat))).setCell ⟨g, 12, none⟩ (.int .u64 (c.D 2 : Nat))).setCell ⟨g, 13, none⟩ (.int .u64 (c.D 3 : Nat))).setCell ⟨g, 14, none⟩ (.int .u64 (c.D 4 : Nat))).setCell ⟨g, 15, none⟩ (.int .u64 (c.D 5 : Nat))).setCell ⟨g, 16, none⟩ (.int .u64 (c.D 6 : Nat))).setCell ⟨g, 17, none⟩ (.int .u64 (c.D 7 : Nat))) g { a with n := c.n, b := c.b, D := c.D } := by
  unfold ClAt at h ⊢
  refine ((blk_put (blk_put (blk_put (blk_put (blk_put (blk_put (blk_put (blk_put (blk_put (blk_put h 8 (.int .i64 c.n)) 9 (.bool c.b)) 10 (.int .u64 (c.D 0 : Nat))) 11 (.int .u64 (c.D 1 : Nat))) 12 (.int .u64 (c.D 2 : Nat))) 13 (.int .u64 (c.D 3 : Nat))) 14 (.int .u64 (c.D 4 : Nat))) 15 (.int .u64 (c.D 5 : Nat))) 16 (.int .u64 (c.D 6 : Nat))) 17 (.int .u64 (c.D 7 : Nat)))).trans ?_
  simp [clC]
theorem eq_ordV (n : Int) (b : Bool) (D : Nat → Nat) (W : World) : (Op.equalIn 10000 25 (.agg #[.int .i64 n, .bool b, .int .u64 (D 0 : Nat), .int .u64 (D 1 : Nat), .int .u64 (D 2 : Nat), .int .u64 (D 3 : Nat), .int .u64 (D 4 : Nat), .int .u64 (D 5 : Nat), .int .u64 (D 6 : Nat), .int .u64 (D 7 : Nat)]) (.agg #[.int .i64 0, .bool false, .int .u64 0, .int .u64 0, .int .u64 0, .int .u64 0, .int .u64 0, .int .u64 0, .int .u64 0, .int .u64 0])).run Tryd.prog W = .ok (noO n b D) W := eq_ord n b D W
set_option maxHeartbeats 1600000 in
set_option maxRecDepth 20000 in
theorem joinOrd_any (a c : Cl) (g : Nat) (w : World) (hg : ClAt w g a) : Calls Tryd.prog 54 #[.pointer (some ⟨g, 0, none⟩), clV c] w fun e w' => e = .returned (.bool (ordOk a c)) ∧ (ordOk a c = true → ClAt w' g (ordJ a c)) ∧ But (fun k => k = g) w w' := by
  have hgl : g < w.heap.size := lt_of_block hg
  have hgd := guard_ord
  have HB0 := Lib.hid (show Below w.heap.size w ((w.alloc (.cells (clC c) 28)).alloc (.cells ordZ 25)) from ((Below.refl _ _).alloc (Nat.le_refl _) _).alloc (by simp) _)
  have HC0 := Lib.hid (show ClAt ((w.alloc (.cells (clC c) 28)).alloc (.cells ordZ 25)) w.heap.size c from blk_more (blk_new w _) _)
  have HO0 := Lib.hid (show ((w.alloc (.cells (clC c) 28)).alloc (.cells ordZ 25)).heap[w.heap.size + 1]? = some (.cells ordZ 25 (0, 0)) by
    have q := blk_new (w.alloc (.cells (clC c) 28)) (.cells ordZ 25)
    rwa [World.size_alloc] at q)
  have HG0 := Lib.hid (hg.below HB0.out)
  have HS := Lib.hid (show ordOk a c = (noO c.n c.b c.D || noO a.n a.b a.D) from rfl)
  have HT := Lib.hid (show ordJ a c = if noO c.n c.b c.D = true then a else { a with n := c.n, b := c.b, D := c.D } from rfl)
  have E1 := Lib.hid (fun W => eq_ordV c.n c.b c.D W)
  have E2 := Lib.hid (fun W => eq_ordV a.n a.b a.D W)
  have hne : g ≠ w.heap.size := by omega
  generalize ordOk a c = so at HS ⊢
  generalize ordJ a c = sc at HT ⊢
  clear hg
  obtain ⟨W0, hW0⟩ : ∃ W0, (w.alloc (.cells (clC c) 28)).alloc (.cells ordZ 25) = W0 := ⟨_, rfl⟩
  rw [hW0] at HB0 HC0 HO0 HG0
  obtain ⟨x8, x9, x10, x11, x12, x13, x14, x15, x16, x17⟩ := HC0.out.ord
  obtain ⟨y8, y9, y10, y11, y12, y13, y14, y15, y16, y17⟩ := HG0.out.ord
  have z8 := blk_free HG0.out 8
  have z9 := blk_free HG0.out 9
  have z10 := blk_free HG0.out 10
  have z11 := blk_free HG0.out 11
  have z12 := blk_free HG0.out 12
  have z13 := blk_free HG0.out 13
  have z14 := blk_free HG0.out 14
  have z15 := blk_free HG0.out 15
  have z16 := blk_free HG0.out 16
  have z17 := blk_free HG0.out 17
  have o0 : W0.cell? ⟨w.heap.size + 1, 0, none⟩ = some (.int .i64 0) := blk_cell HO0.out 0
  have o1 : W0.cell? ⟨w.heap.size + 1, 1, none⟩ = some (.bool false) := blk_cell HO0.out 1
  have o2 : W0.cell? ⟨w.heap.size + 1, 2, none⟩ = some (.int .u64 0) := blk_cell HO0.out 2
  have o3 : W0.cell? ⟨w.heap.size + 1, 3, none⟩ = some (.int .u64 0) := blk_cell HO0.out 3
  have o4 : W0.cell? ⟨w.heap.size + 1, 4, none⟩ = some (.int .u64 0) := blk_cell HO0.out 4
  have o5 : W0.cell? ⟨w.heap.size + 1, 5, none⟩ = some (.int .u64 0) := blk_cell HO0.out 5
  have o6 : W0.cell? ⟨w.heap.size + 1, 6, none⟩ = some (.int .u64 0) := blk_cell HO0.out 6
  have o7 : W0.cell? ⟨w.heap.size + 1, 7, none⟩ = some (.int .u64 0) := blk_cell HO0.out 7
  have o8 : W0.cell? ⟨w.heap.size + 1, 8, none⟩ = some (.int .u64 0) := blk_cell HO0.out 8
  have o9 : W0.cell? ⟨w.heap.size + 1, 9, none⟩ = some (.int .u64 0) := blk_cell HO0.out 9
  have HD := Lib.hid (HG0.out.put10 c)
  have HDD := Lib.hid HD.out.drew
  have HBT := Lib.hid (((((((((((But.of_below (X := fun k => k = g) HB0.out).setCell (p := ⟨g, 8, none⟩) (.inr rfl) (.int .i64 c.n)).setCell (p := ⟨g, 9, none⟩) (.inr rfl) (.bool c.b)).setCell (p := ⟨g, 10, none⟩) (.inr rfl) (.int .u64 (c.D 0 : Nat))).setCell (p := ⟨g, 11, none⟩) (.inr rfl) (.int .u64 (c.D 1 : Nat))).setCell (p := ⟨g, 12, none⟩) (.inr rfl) (.int .u64 (c.D 2 : Nat))).setCell (p := ⟨g, 13, none⟩) (.inr rfl) (.int .u64 (c.D 3 : Nat))).setCell (p := ⟨g, 14, none⟩) (.inr rfl) (.int .u64 (c.D 4 : Nat))).setCell (p := ⟨g, 15, none⟩) (.inr rfl) (.int .u64 (c.D 5 : Nat))).setCell (p := ⟨g, 16, none⟩) (.inr rfl) (.int .u64 (c.D 6 : Nat))).setCell (p := ⟨g, 17, none⟩) (.inr rfl) (.int .u64 (c.D 7 : Nat)))
  have HBD := Lib.hid HBT.out.drew
  unfold clV clC
  unfold clC ordZ at hW0
  have HW := Lib.hid hW0
  clear hW0
  generalize hc : noO c.n c.b c.D = nc at HS HT E1
  generalize ha : noO a.n a.b a.D = na at HS E2
  have e1 := E1.out
  have e2 := E2.out
  clear E1 E2
  cases nc
  · cases na
    · have HE := Lib.hid (show so = false by rw [HS.out]; rfl)
      clear HS HT HD HBT z8 z9 z10 z11 z12 z13 z14 z15 z16 z17
      go_enter Tryd.func54, Tryd.ntmps54
      go_wp2_with fail
      rw [HW.out]
      go_region
      go_wp2
      go_ret
      exact ⟨by rw [HE.out]; rfl, (fun h => by rw [HE.out] at h; cases h), But.of_below HB0.out.drew⟩
    · have HE := Lib.hid (show so = true by rw [HS.out]; rfl)
      have HF := Lib.hid (show sc = { a with n := c.n, b := c.b, D := c.D } by rw [HT.out]; rfl)
      clear HS HT
      go_enter Tryd.func54, Tryd.ntmps54
      go_wp2_with fail
      rw [HW.out]
      go_region
      go_wp2
      go_ret
      exact ⟨by rw [HE.out]; rfl, (fun _ => by rw [HF.out]; exact HDD.out), HBD.out⟩
  · have HE := Lib.hid (show so = true by rw [HS.out]; rfl)
    have HF := Lib.hid (show sc = a by rw [HT.out]; rfl)
    clear HS HT HD HBT y8 y9 y10 y11 y12 y13 y14 y15 y16 y17 z8 z9 z10 z11 z12 z13 z14 z15 z16 z17
    go_enter Tryd.func54, Tryd.ntmps54
    go_wp2
    rw [HW.out]
    go_ret
    exact ⟨by rw [HE.out]; rfl, (fun _ => by rw [HF.out]; exact HG0.out), But.of_below HB0.out⟩
end Go.Proofs.YtbfndcogieiejaaDoor
