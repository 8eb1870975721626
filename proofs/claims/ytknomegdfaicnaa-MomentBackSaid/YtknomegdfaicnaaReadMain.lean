/- Contracts of moment.Read, case by case (layer 8). -/
import Derived.Test.YtknomegdfaicnaaReadPart
namespace Go.Proofs.Ytknomegdfaicnaa
open Go.RowKit Civ
set_option linter.unusedVariables false

theorem ok_sizes (s : ByteArray) (h : scan s.data.toList 0 15 = (15, 0)) : 15 ≤ s.size := by
  have := (scan_fits _ 15 0 rfl h 14 (by omega) (by omega)).1
  rw [size_list] at this; omega
set_option maxHeartbeats 400000 in
theorem mread_err (s : ByteArray) (k e : Int) (w : World) (hs : s.size ≤ 1000) (h : scan s.data.toList 0 15 = (k, e)) (he : e = 2 ∨ e = 3) :
    Calls Try.prog 14 #[.string s] w fun e' w' => e' = .returned (.tuple #[.int .i64 0, .int .i64 k, .int .i64 e]) ∧ Below w.heap.size w w' := by
  have k1 := fun w => formed_any s w hs
  rw [h] at k1
  dsimp only at k1
  clear h
  rcases he with rfl | rfl
  all_goals
    go_enter Try.func14, Try.ntmps14
    go_wp2_with fail
    refine (k1 _).mono ?_
    rintro e w1 ⟨rfl, rfl⟩
    go_wp2
    go_ret3
    exact ⟨rfl, below_a1 _ _⟩
/-- what the walk of moment.Read needs of a text whose places fit -/
structure Parts (s : ByteArray) (p0 p1 p2 p3 p4 p5 : Int) : Prop where
  f : ∀ w, Calls Try.prog 51 #[.string s] w fun e w' => e = .returned (.tuple #[.int .i64 15, .int .i64 0]) ∧ w = w'
  c0 : ∀ w g, w.cell? ⟨g, 0, none⟩ = some (.string s) → Calls Try.prog 52 #[.int .i64 0, .int .i64 4, .pointer (some ⟨g, 0, none⟩)] w fun e w' => e = .returned (.int .i64 p0) ∧ Below w.heap.size w w'
  c1 : ∀ w g, w.cell? ⟨g, 0, none⟩ = some (.string s) → Calls Try.prog 52 #[.int .i64 4, .int .i64 6, .pointer (some ⟨g, 0, none⟩)] w fun e w' => e = .returned (.int .i64 p1) ∧ Below w.heap.size w w'
  c2 : ∀ w g, w.cell? ⟨g, 0, none⟩ = some (.string s) → Calls Try.prog 52 #[.int .i64 6, .int .i64 8, .pointer (some ⟨g, 0, none⟩)] w fun e w' => e = .returned (.int .i64 p2) ∧ Below w.heap.size w w'
  c3 : ∀ w g, w.cell? ⟨g, 0, none⟩ = some (.string s) → Calls Try.prog 52 #[.int .i64 9, .int .i64 11, .pointer (some ⟨g, 0, none⟩)] w fun e w' => e = .returned (.int .i64 p3) ∧ Below w.heap.size w w'
  c4 : ∀ w g, w.cell? ⟨g, 0, none⟩ = some (.string s) → Calls Try.prog 52 #[.int .i64 11, .int .i64 13, .pointer (some ⟨g, 0, none⟩)] w fun e w' => e = .returned (.int .i64 p4) ∧ Below w.heap.size w w'
  c5 : ∀ w g, w.cell? ⟨g, 0, none⟩ = some (.string s) → Calls Try.prog 52 #[.int .i64 13, .int .i64 15, .pointer (some ⟨g, 0, none⟩)] w fun e w' => e = .returned (.int .i64 p5) ∧ Below w.heap.size w w'
theorem parts_of (s : ByteArray) (hs : s.size ≤ 1000) (h : scan s.data.toList 0 15 = (15, 0)) : Parts s (partI s.data.toList 0 4) (partI s.data.toList 4 6) (partI s.data.toList 6 8) (partI s.data.toList 9 11) (partI s.data.toList 11 13) (partI s.data.toList 13 15) := by
  have h15 := ok_sizes s h
  have k1 := fun w => formed_any s w hs
  rw [h] at k1
  exact ⟨k1, fun w g hg => part_any 0 4 g s w hg (by omega) (by omega) hs (by omega) (digs_sub s h 0 4 (by omega) (by omega)), fun w g hg => part_any 4 6 g s w hg (by omega) (by omega) hs (by omega) (digs_sub s h 4 6 (by omega) (by omega)), fun w g hg => part_any 6 8 g s w hg (by omega) (by omega) hs (by omega) (digs_sub s h 6 8 (by omega) (by omega)),
    fun w g hg => part_any 9 11 g s w hg (by omega) (by omega) hs (by omega) (digs_sub s h 9 11 (by omega) (by omega)), fun w g hg => part_any 11 13 g s w hg (by omega) (by omega) hs (by omega) (digs_sub s h 11 13 (by omega) (by omega)), fun w g hg => part_any 13 15 g s w hg (by omega) (by omega) hs (by omega) (digs_sub s h 13 15 (by omega) (by omega))⟩
set_option maxHeartbeats 800000 in
set_option maxRecDepth 20000 in
theorem mread_out (s : ByteArray) (p0 p1 p2 p3 p4 p5 : Int) (w : World) (P : Parts s p0 p1 p2 p3 p4 p5) (k7 : ∀ w, Calls Try.prog 20 #[.agg #[.int .i64 p0, .int .i64 p1, .int .i64 p2, .int .i64 p3, .int .i64 p4, .int .i64 p5]] w fun e w' => e = .returned (.tuple #[.int .i64 0, .bool false]) ∧ Below w.heap.size w w')  :
    Calls Try.prog 14 #[.string s] w fun e' w' => e' = .returned (.tuple #[.int .i64 0, .int .i64 0, .int .i64 4]) ∧ Below w.heap.size w w' := by
  go_enter Try.func14, Try.ntmps14
  go_wp2_with fail
  refine (P.f _).mono ?_
  rintro e w1 ⟨rfl, rfl⟩
  have g0 : (w.alloc (.cells #[.string s] 9)).cell? ⟨w.heap.size, 0, none⟩ = some (.string s) := cell_new w _ 9 0
  have z0 : w.heap.size < (w.alloc (.cells #[.string s] 9)).heap.size := by simp
  have b0 : Below w.heap.size w (w.alloc (.cells #[.string s] 9)) := below_a1 _ _
  go_wp2_with fail
  refine (P.c0 _ _ (by assumption)).mono ?_
  rintro e x0 ⟨rfl, h0⟩
  have g1 := (h0.cell (p := ⟨w.heap.size, 0, none⟩) z0).trans g0
  have z1 : w.heap.size < x0.heap.size := Nat.lt_of_lt_of_le z0 h0.size
  have b1 : Below w.heap.size w x0 := b0.trans (h0.mono (Nat.le_of_lt z0))
  clear g0 z0 h0 b0
  go_wp2_with fail
  refine (P.c1 _ _ (by assumption)).mono ?_
  rintro e x1 ⟨rfl, h1⟩
  have g2 := (h1.cell (p := ⟨w.heap.size, 0, none⟩) z1).trans g1
  have z2 : w.heap.size < x1.heap.size := Nat.lt_of_lt_of_le z1 h1.size
  have b2 : Below w.heap.size w x1 := b1.trans (h1.mono (Nat.le_of_lt z1))
  clear g1 z1 h1 b1
  go_wp2_with fail
  refine (P.c2 _ _ (by assumption)).mono ?_
  rintro e x2 ⟨rfl, h2⟩
  have g3 := (h2.cell (p := ⟨w.heap.size, 0, none⟩) z2).trans g2
  have z3 : w.heap.size < x2.heap.size := Nat.lt_of_lt_of_le z2 h2.size
  have b3 : Below w.heap.size w x2 := b2.trans (h2.mono (Nat.le_of_lt z2))
  clear g2 z2 h2 b2
  go_wp2_with fail
  refine (P.c3 _ _ (by assumption)).mono ?_
  rintro e x3 ⟨rfl, h3⟩
  have g4 := (h3.cell (p := ⟨w.heap.size, 0, none⟩) z3).trans g3
  have z4 : w.heap.size < x3.heap.size := Nat.lt_of_lt_of_le z3 h3.size
  have b4 : Below w.heap.size w x3 := b3.trans (h3.mono (Nat.le_of_lt z3))
  clear g3 z3 h3 b3
  go_wp2_with fail
  refine (P.c4 _ _ (by assumption)).mono ?_
  rintro e x4 ⟨rfl, h4⟩
  have g5 := (h4.cell (p := ⟨w.heap.size, 0, none⟩) z4).trans g4
  have z5 : w.heap.size < x4.heap.size := Nat.lt_of_lt_of_le z4 h4.size
  have b5 : Below w.heap.size w x4 := b4.trans (h4.mono (Nat.le_of_lt z4))
  clear g4 z4 h4 b4
  go_wp2_with fail
  refine (P.c5 _ _ (by assumption)).mono ?_
  rintro e x5 ⟨rfl, h5⟩
  have g6 := (h5.cell (p := ⟨w.heap.size, 0, none⟩) z5).trans g5
  have z6 : w.heap.size < x5.heap.size := Nat.lt_of_lt_of_le z5 h5.size
  have b6 : Below w.heap.size w x5 := b5.trans (h5.mono (Nat.le_of_lt z5))
  clear g5 z5 h5 b5
  go_wp2_with fail
  refine (k7 _).mono ?_
  rintro e x6 ⟨rfl, h6⟩
  have g7 := (h6.cell (p := ⟨w.heap.size, 0, none⟩) z6).trans g6
  have b7 : Below w.heap.size w x6 := b6.trans (h6.mono (Nat.le_of_lt z6))
  clear g6 h6 b6
  go_wp2
  go_ret3
  exact ⟨rfl, b7⟩
set_option maxHeartbeats 800000 in
set_option maxRecDepth 20000 in
theorem mread_15 (s : ByteArray) (p0 p1 p2 p3 p4 p5 N : Int) (w : World) (P : Parts s p0 p1 p2 p3 p4 p5) (k7 : ∀ w, Calls Try.prog 20 #[.agg #[.int .i64 p0, .int .i64 p1, .int .i64 p2, .int .i64 p3, .int .i64 p4, .int .i64 p5]] w fun e w' => e = .returned (.tuple #[.int .i64 N, .bool true]) ∧ Below w.heap.size w w') (hz : s.size = 15) :
    Calls Try.prog 14 #[.string s] w fun e' w' => e' = .returned (.tuple #[.int .i64 0, .int .i64 15, .int .i64 7]) ∧ Below w.heap.size w w' := by
  go_enter Try.func14, Try.ntmps14
  go_wp2_with fail
  refine (P.f _).mono ?_
  rintro e w1 ⟨rfl, rfl⟩
  have g0 : (w.alloc (.cells #[.string s] 9)).cell? ⟨w.heap.size, 0, none⟩ = some (.string s) := cell_new w _ 9 0
  have z0 : w.heap.size < (w.alloc (.cells #[.string s] 9)).heap.size := by simp
  have b0 : Below w.heap.size w (w.alloc (.cells #[.string s] 9)) := below_a1 _ _
  go_wp2_with fail
  refine (P.c0 _ _ (by assumption)).mono ?_
  rintro e x0 ⟨rfl, h0⟩
  have g1 := (h0.cell (p := ⟨w.heap.size, 0, none⟩) z0).trans g0
  have z1 : w.heap.size < x0.heap.size := Nat.lt_of_lt_of_le z0 h0.size
  have b1 : Below w.heap.size w x0 := b0.trans (h0.mono (Nat.le_of_lt z0))
  clear g0 z0 h0 b0
  go_wp2_with fail
  refine (P.c1 _ _ (by assumption)).mono ?_
  rintro e x1 ⟨rfl, h1⟩
  have g2 := (h1.cell (p := ⟨w.heap.size, 0, none⟩) z1).trans g1
  have z2 : w.heap.size < x1.heap.size := Nat.lt_of_lt_of_le z1 h1.size
  have b2 : Below w.heap.size w x1 := b1.trans (h1.mono (Nat.le_of_lt z1))
  clear g1 z1 h1 b1
  go_wp2_with fail
  refine (P.c2 _ _ (by assumption)).mono ?_
  rintro e x2 ⟨rfl, h2⟩
  have g3 := (h2.cell (p := ⟨w.heap.size, 0, none⟩) z2).trans g2
  have z3 : w.heap.size < x2.heap.size := Nat.lt_of_lt_of_le z2 h2.size
  have b3 : Below w.heap.size w x2 := b2.trans (h2.mono (Nat.le_of_lt z2))
  clear g2 z2 h2 b2
  go_wp2_with fail
  refine (P.c3 _ _ (by assumption)).mono ?_
  rintro e x3 ⟨rfl, h3⟩
  have g4 := (h3.cell (p := ⟨w.heap.size, 0, none⟩) z3).trans g3
  have z4 : w.heap.size < x3.heap.size := Nat.lt_of_lt_of_le z3 h3.size
  have b4 : Below w.heap.size w x3 := b3.trans (h3.mono (Nat.le_of_lt z3))
  clear g3 z3 h3 b3
  go_wp2_with fail
  refine (P.c4 _ _ (by assumption)).mono ?_
  rintro e x4 ⟨rfl, h4⟩
  have g5 := (h4.cell (p := ⟨w.heap.size, 0, none⟩) z4).trans g4
  have z5 : w.heap.size < x4.heap.size := Nat.lt_of_lt_of_le z4 h4.size
  have b5 : Below w.heap.size w x4 := b4.trans (h4.mono (Nat.le_of_lt z4))
  clear g4 z4 h4 b4
  go_wp2_with fail
  refine (P.c5 _ _ (by assumption)).mono ?_
  rintro e x5 ⟨rfl, h5⟩
  have g6 := (h5.cell (p := ⟨w.heap.size, 0, none⟩) z5).trans g5
  have z6 : w.heap.size < x5.heap.size := Nat.lt_of_lt_of_le z5 h5.size
  have b6 : Below w.heap.size w x5 := b5.trans (h5.mono (Nat.le_of_lt z5))
  clear g5 z5 h5 b5
  go_wp2_with fail
  refine (k7 _).mono ?_
  rintro e x6 ⟨rfl, h6⟩
  have g7 := (h6.cell (p := ⟨w.heap.size, 0, none⟩) z6).trans g6
  have b7 : Below w.heap.size w x6 := b6.trans (h6.mono (Nat.le_of_lt z6))
  clear g6 h6 b6
  have e1 : decide ((s.size : Int) < 16) = true := decide_eq_true (by omega)
  clear hz
  go_wp2
  go_ret3
  exact ⟨rfl, b7⟩
set_option maxHeartbeats 800000 in
set_option maxRecDepth 20000 in
theorem mread_noZ (s : ByteArray) (p0 p1 p2 p3 p4 p5 N : Int) (w : World) (P : Parts s p0 p1 p2 p3 p4 p5) (k7 : ∀ w, Calls Try.prog 20 #[.agg #[.int .i64 p0, .int .i64 p1, .int .i64 p2, .int .i64 p3, .int .i64 p4, .int .i64 p5]] w fun e w' => e = .returned (.tuple #[.int .i64 N, .bool true]) ∧ Below w.heap.size w w') (hz : 15 < s.size) (hb : (s[15]'hz).toNat ≠ 90) :
    Calls Try.prog 14 #[.string s] w fun e' w' => e' = .returned (.tuple #[.int .i64 0, .int .i64 15, .int .i64 7]) ∧ Below w.heap.size w w' := by
  go_enter Try.func14, Try.ntmps14
  go_wp2_with fail
  refine (P.f _).mono ?_
  rintro e w1 ⟨rfl, rfl⟩
  have g0 : (w.alloc (.cells #[.string s] 9)).cell? ⟨w.heap.size, 0, none⟩ = some (.string s) := cell_new w _ 9 0
  have z0 : w.heap.size < (w.alloc (.cells #[.string s] 9)).heap.size := by simp
  have b0 : Below w.heap.size w (w.alloc (.cells #[.string s] 9)) := below_a1 _ _
  go_wp2_with fail
  refine (P.c0 _ _ (by assumption)).mono ?_
  rintro e x0 ⟨rfl, h0⟩
  have g1 := (h0.cell (p := ⟨w.heap.size, 0, none⟩) z0).trans g0
  have z1 : w.heap.size < x0.heap.size := Nat.lt_of_lt_of_le z0 h0.size
  have b1 : Below w.heap.size w x0 := b0.trans (h0.mono (Nat.le_of_lt z0))
  clear g0 z0 h0 b0
  go_wp2_with fail
  refine (P.c1 _ _ (by assumption)).mono ?_
  rintro e x1 ⟨rfl, h1⟩
  have g2 := (h1.cell (p := ⟨w.heap.size, 0, none⟩) z1).trans g1
  have z2 : w.heap.size < x1.heap.size := Nat.lt_of_lt_of_le z1 h1.size
  have b2 : Below w.heap.size w x1 := b1.trans (h1.mono (Nat.le_of_lt z1))
  clear g1 z1 h1 b1
  go_wp2_with fail
  refine (P.c2 _ _ (by assumption)).mono ?_
  rintro e x2 ⟨rfl, h2⟩
  have g3 := (h2.cell (p := ⟨w.heap.size, 0, none⟩) z2).trans g2
  have z3 : w.heap.size < x2.heap.size := Nat.lt_of_lt_of_le z2 h2.size
  have b3 : Below w.heap.size w x2 := b2.trans (h2.mono (Nat.le_of_lt z2))
  clear g2 z2 h2 b2
  go_wp2_with fail
  refine (P.c3 _ _ (by assumption)).mono ?_
  rintro e x3 ⟨rfl, h3⟩
  have g4 := (h3.cell (p := ⟨w.heap.size, 0, none⟩) z3).trans g3
  have z4 : w.heap.size < x3.heap.size := Nat.lt_of_lt_of_le z3 h3.size
  have b4 : Below w.heap.size w x3 := b3.trans (h3.mono (Nat.le_of_lt z3))
  clear g3 z3 h3 b3
  go_wp2_with fail
  refine (P.c4 _ _ (by assumption)).mono ?_
  rintro e x4 ⟨rfl, h4⟩
  have g5 := (h4.cell (p := ⟨w.heap.size, 0, none⟩) z4).trans g4
  have z5 : w.heap.size < x4.heap.size := Nat.lt_of_lt_of_le z4 h4.size
  have b5 : Below w.heap.size w x4 := b4.trans (h4.mono (Nat.le_of_lt z4))
  clear g4 z4 h4 b4
  go_wp2_with fail
  refine (P.c5 _ _ (by assumption)).mono ?_
  rintro e x5 ⟨rfl, h5⟩
  have g6 := (h5.cell (p := ⟨w.heap.size, 0, none⟩) z5).trans g5
  have z6 : w.heap.size < x5.heap.size := Nat.lt_of_lt_of_le z5 h5.size
  have b6 : Below w.heap.size w x5 := b5.trans (h5.mono (Nat.le_of_lt z5))
  clear g5 z5 h5 b5
  go_wp2_with fail
  refine (k7 _).mono ?_
  rintro e x6 ⟨rfl, h6⟩
  have g7 := (h6.cell (p := ⟨w.heap.size, 0, none⟩) z6).trans g6
  have b7 : Below w.heap.size w x6 := b6.trans (h6.mono (Nat.le_of_lt z6))
  clear g6 h6 b6
  have e1 : decide ((s.size : Int) < 16) = false := decide_eq_false (by omega)
  have e2 : (((s[15]'hz).toNat : Int) == 90) = false := by rw [beq_eq_false_iff_ne]; omega
  have e3 : (((s[15]'hz).toNat : Int) != 90) = true := by rw [bne_iff_ne]; omega
  clear hb
  go_wp2
  go_ret3
  exact ⟨rfl, b7⟩
set_option maxHeartbeats 800000 in
set_option maxRecDepth 20000 in
theorem mread_long (s : ByteArray) (p0 p1 p2 p3 p4 p5 N : Int) (w : World) (P : Parts s p0 p1 p2 p3 p4 p5) (k7 : ∀ w, Calls Try.prog 20 #[.agg #[.int .i64 p0, .int .i64 p1, .int .i64 p2, .int .i64 p3, .int .i64 p4, .int .i64 p5]] w fun e w' => e = .returned (.tuple #[.int .i64 N, .bool true]) ∧ Below w.heap.size w w') (hz : 15 < s.size) (h16 : 16 < s.size) (hb : (s[15]'hz).toNat = 90) :
    Calls Try.prog 14 #[.string s] w fun e' w' => e' = .returned (.tuple #[.int .i64 0, .int .i64 16, .int .i64 7]) ∧ Below w.heap.size w w' := by
  go_enter Try.func14, Try.ntmps14
  go_wp2_with fail
  refine (P.f _).mono ?_
  rintro e w1 ⟨rfl, rfl⟩
  have g0 : (w.alloc (.cells #[.string s] 9)).cell? ⟨w.heap.size, 0, none⟩ = some (.string s) := cell_new w _ 9 0
  have z0 : w.heap.size < (w.alloc (.cells #[.string s] 9)).heap.size := by simp
  have b0 : Below w.heap.size w (w.alloc (.cells #[.string s] 9)) := below_a1 _ _
  go_wp2_with fail
  refine (P.c0 _ _ (by assumption)).mono ?_
  rintro e x0 ⟨rfl, h0⟩
  have g1 := (h0.cell (p := ⟨w.heap.size, 0, none⟩) z0).trans g0
  have z1 : w.heap.size < x0.heap.size := Nat.lt_of_lt_of_le z0 h0.size
  have b1 : Below w.heap.size w x0 := b0.trans (h0.mono (Nat.le_of_lt z0))
  clear g0 z0 h0 b0
  go_wp2_with fail
  refine (P.c1 _ _ (by assumption)).mono ?_
  rintro e x1 ⟨rfl, h1⟩
  have g2 := (h1.cell (p := ⟨w.heap.size, 0, none⟩) z1).trans g1
  have z2 : w.heap.size < x1.heap.size := Nat.lt_of_lt_of_le z1 h1.size
  have b2 : Below w.heap.size w x1 := b1.trans (h1.mono (Nat.le_of_lt z1))
  clear g1 z1 h1 b1
  go_wp2_with fail
  refine (P.c2 _ _ (by assumption)).mono ?_
  rintro e x2 ⟨rfl, h2⟩
  have g3 := (h2.cell (p := ⟨w.heap.size, 0, none⟩) z2).trans g2
  have z3 : w.heap.size < x2.heap.size := Nat.lt_of_lt_of_le z2 h2.size
  have b3 : Below w.heap.size w x2 := b2.trans (h2.mono (Nat.le_of_lt z2))
  clear g2 z2 h2 b2
  go_wp2_with fail
  refine (P.c3 _ _ (by assumption)).mono ?_
  rintro e x3 ⟨rfl, h3⟩
  have g4 := (h3.cell (p := ⟨w.heap.size, 0, none⟩) z3).trans g3
  have z4 : w.heap.size < x3.heap.size := Nat.lt_of_lt_of_le z3 h3.size
  have b4 : Below w.heap.size w x3 := b3.trans (h3.mono (Nat.le_of_lt z3))
  clear g3 z3 h3 b3
  go_wp2_with fail
  refine (P.c4 _ _ (by assumption)).mono ?_
  rintro e x4 ⟨rfl, h4⟩
  have g5 := (h4.cell (p := ⟨w.heap.size, 0, none⟩) z4).trans g4
  have z5 : w.heap.size < x4.heap.size := Nat.lt_of_lt_of_le z4 h4.size
  have b5 : Below w.heap.size w x4 := b4.trans (h4.mono (Nat.le_of_lt z4))
  clear g4 z4 h4 b4
  go_wp2_with fail
  refine (P.c5 _ _ (by assumption)).mono ?_
  rintro e x5 ⟨rfl, h5⟩
  have g6 := (h5.cell (p := ⟨w.heap.size, 0, none⟩) z5).trans g5
  have z6 : w.heap.size < x5.heap.size := Nat.lt_of_lt_of_le z5 h5.size
  have b6 : Below w.heap.size w x5 := b5.trans (h5.mono (Nat.le_of_lt z5))
  clear g5 z5 h5 b5
  go_wp2_with fail
  refine (k7 _).mono ?_
  rintro e x6 ⟨rfl, h6⟩
  have g7 := (h6.cell (p := ⟨w.heap.size, 0, none⟩) z6).trans g6
  have b7 : Below w.heap.size w x6 := b6.trans (h6.mono (Nat.le_of_lt z6))
  clear g6 h6 b6
  have e1 : decide ((s.size : Int) < 16) = false := decide_eq_false (by omega)
  have e2 : (((s[15]'hz).toNat : Int) == 90) = true := by rw [beq_iff_eq]; omega
  have e3 : (((s[15]'hz).toNat : Int) != 90) = false := by rw [bne_eq_false_iff_eq]; omega
  clear hb
  go_wp2
  go_ret3
  exact ⟨rfl, b7⟩
set_option maxHeartbeats 800000 in
set_option maxRecDepth 20000 in
theorem mread_yes (s : ByteArray) (p0 p1 p2 p3 p4 p5 N : Int) (w : World) (P : Parts s p0 p1 p2 p3 p4 p5) (k7 : ∀ w, Calls Try.prog 20 #[.agg #[.int .i64 p0, .int .i64 p1, .int .i64 p2, .int .i64 p3, .int .i64 p4, .int .i64 p5]] w fun e w' => e = .returned (.tuple #[.int .i64 N, .bool true]) ∧ Below w.heap.size w w') (hz : 15 < s.size) (h16 : s.size ≤ 16) (hb : (s[15]'hz).toNat = 90) :
    Calls Try.prog 14 #[.string s] w fun e' w' => e' = .returned (.tuple #[.int .i64 N, .int .i64 16, .int .i64 0]) ∧ Below w.heap.size w w' := by
  go_enter Try.func14, Try.ntmps14
  go_wp2_with fail
  refine (P.f _).mono ?_
  rintro e w1 ⟨rfl, rfl⟩
  have g0 : (w.alloc (.cells #[.string s] 9)).cell? ⟨w.heap.size, 0, none⟩ = some (.string s) := cell_new w _ 9 0
  have z0 : w.heap.size < (w.alloc (.cells #[.string s] 9)).heap.size := by simp
  have b0 : Below w.heap.size w (w.alloc (.cells #[.string s] 9)) := below_a1 _ _
  go_wp2_with fail
  refine (P.c0 _ _ (by assumption)).mono ?_
  rintro e x0 ⟨rfl, h0⟩
  have g1 := (h0.cell (p := ⟨w.heap.size, 0, none⟩) z0).trans g0
  have z1 : w.heap.size < x0.heap.size := Nat.lt_of_lt_of_le z0 h0.size
  have b1 : Below w.heap.size w x0 := b0.trans (h0.mono (Nat.le_of_lt z0))
  clear g0 z0 h0 b0
  go_wp2_with fail
  refine (P.c1 _ _ (by assumption)).mono ?_
  rintro e x1 ⟨rfl, h1⟩
  have g2 := (h1.cell (p := ⟨w.heap.size, 0, none⟩) z1).trans g1
  have z2 : w.heap.size < x1.heap.size := Nat.lt_of_lt_of_le z1 h1.size
  have b2 : Below w.heap.size w x1 := b1.trans (h1.mono (Nat.le_of_lt z1))
  clear g1 z1 h1 b1
  go_wp2_with fail
  refine (P.c2 _ _ (by assumption)).mono ?_
  rintro e x2 ⟨rfl, h2⟩
  have g3 := (h2.cell (p := ⟨w.heap.size, 0, none⟩) z2).trans g2
  have z3 : w.heap.size < x2.heap.size := Nat.lt_of_lt_of_le z2 h2.size
  have b3 : Below w.heap.size w x2 := b2.trans (h2.mono (Nat.le_of_lt z2))
  clear g2 z2 h2 b2
  go_wp2_with fail
  refine (P.c3 _ _ (by assumption)).mono ?_
  rintro e x3 ⟨rfl, h3⟩
  have g4 := (h3.cell (p := ⟨w.heap.size, 0, none⟩) z3).trans g3
  have z4 : w.heap.size < x3.heap.size := Nat.lt_of_lt_of_le z3 h3.size
  have b4 : Below w.heap.size w x3 := b3.trans (h3.mono (Nat.le_of_lt z3))
  clear g3 z3 h3 b3
  go_wp2_with fail
  refine (P.c4 _ _ (by assumption)).mono ?_
  rintro e x4 ⟨rfl, h4⟩
  have g5 := (h4.cell (p := ⟨w.heap.size, 0, none⟩) z4).trans g4
  have z5 : w.heap.size < x4.heap.size := Nat.lt_of_lt_of_le z4 h4.size
  have b5 : Below w.heap.size w x4 := b4.trans (h4.mono (Nat.le_of_lt z4))
  clear g4 z4 h4 b4
  go_wp2_with fail
  refine (P.c5 _ _ (by assumption)).mono ?_
  rintro e x5 ⟨rfl, h5⟩
  have g6 := (h5.cell (p := ⟨w.heap.size, 0, none⟩) z5).trans g5
  have z6 : w.heap.size < x5.heap.size := Nat.lt_of_lt_of_le z5 h5.size
  have b6 : Below w.heap.size w x5 := b5.trans (h5.mono (Nat.le_of_lt z5))
  clear g5 z5 h5 b5
  go_wp2_with fail
  refine (k7 _).mono ?_
  rintro e x6 ⟨rfl, h6⟩
  have g7 := (h6.cell (p := ⟨w.heap.size, 0, none⟩) z6).trans g6
  have b7 : Below w.heap.size w x6 := b6.trans (h6.mono (Nat.le_of_lt z6))
  clear g6 h6 b6
  have e1 : decide ((s.size : Int) < 16) = false := decide_eq_false (by omega)
  have e2 : (((s[15]'hz).toNat : Int) == 90) = true := by rw [beq_iff_eq]; omega
  have e3 : (((s[15]'hz).toNat : Int) != 90) = false := by rw [bne_eq_false_iff_eq]; omega
  have e4 : decide (16 < (s.size : Int)) = false := decide_eq_false (by omega)
  clear hb
  go_wp2
  go_ret3
  exact ⟨rfl, b7⟩
end Go.Proofs.Ytknomegdfaicnaa
