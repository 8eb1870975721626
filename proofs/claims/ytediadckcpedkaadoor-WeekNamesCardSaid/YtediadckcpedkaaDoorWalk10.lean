/- The walk of the statement UnitPhases of layer 10. -/
import Derived.Test.YtediadckcpedkaaDoorUnit
import Derived.Test.YtediadckcpedkaaDoorOpen
namespace Go.Proofs.YtediadckcpedkaaDoor
open Go.RowKit Civ

theorem below_cut {w w1 w2 : World} (h : Below w.heap.size w w1) (h2 : Below w1.heap.size w1 w2) : Below w.heap.size w w2 := h.trans (h2.mono h.size)
theorem blk_frozen {w : World} {g : Nat} {cs : Array Value} {t : TypeId} (h : w.heap[g]? = some (.cells cs t (0, 0))) (i : Nat) : w.frozen? ⟨g, i, none⟩ = false := by
  simp [World.frozen?, h]
theorem new_frozen (w : World) (cs : Array Value) (t : TypeId) (i : Nat) : (w.alloc (.cells cs t)).frozen? ⟨w.heap.size, i, none⟩ = false := blk_frozen (heap_alloc_new w _) i
theorem below10 {w w1 : World} (h : Below w.heap.size w w1) (v0 v1 v2 v3 v4 v5 v6 v7 v8 v9 : Value) : Below w.heap.size w ((((((((((w1.setCell ⟨w.heap.size, 0, none⟩ v0).setCell ⟨w.heap.size, 1, none⟩ v1).setCell ⟨w.heap.size, 2, none⟩ v2).setCell ⟨w.heap.size, 3, none⟩ v3).setCell ⟨w.heap.size, 4, none⟩ v4).setCell ⟨w.heap.size, 5, none⟩ v5).setCell ⟨w.heap.size, 6, none⟩ v6).setCell ⟨w.heap.size, 7, none⟩ v7).setCell ⟨w.heap.size, 8, none⟩ v8).setCell ⟨w.heap.size, 9, none⟩ v9) :=
  ((((((((((h.setCell (p := ⟨w.heap.size, 0, none⟩) (Nat.le_refl _) v0).setCell (p := ⟨w.heap.size, 1, none⟩) (Nat.le_refl _) v1).setCell (p := ⟨w.heap.size, 2, none⟩) (Nat.le_refl _) v2).setCell (p := ⟨w.heap.size, 3, none⟩) (Nat.le_refl _) v3).setCell (p := ⟨w.heap.size, 4, none⟩) (Nat.le_refl _) v4).setCell (p := ⟨w.heap.size, 5, none⟩) (Nat.le_refl _) v5).setCell (p := ⟨w.heap.size, 6, none⟩) (Nat.le_refl _) v6).setCell (p := ⟨w.heap.size, 7, none⟩) (Nat.le_refl _) v7).setCell (p := ⟨w.heap.size, 8, none⟩) (Nat.le_refl _) v8).setCell (p := ⟨w.heap.size, 9, none⟩) (Nat.le_refl _) v9)
theorem umay_five (w : World) : Calls Tryd.prog 36 #[.int .i64 5] w fun e w' => e = .returned (.bool true) ∧ w = w' := by
  go_enter Tryd.func36, Tryd.ntmps36
  go_wp2
  go_ret
  exact ⟨rfl, rfl⟩
theorem which_live (w : World) : Calls Tryd.prog 13 #[.int .i64 5, .int .i64 0] w fun e w' => e = .returned (.tuple #[.int .i64 23640, .bool true]) ∧ Below w.heap.size w w' := by
  have hsp : ∀ w, Calls Tryd.prog 35 #[.int .i64 0] w fun e w' => e = .returned (.tuple #[.int .i64 0, .int .i64 0, .bool true]) ∧ w = w' := fun w => mSplit_yes 0 w (by omega) (by omega)
  have hsz : ∀ w, Calls Tryd.prog 17 #[.int .i64 5] w fun e w' => e = .returned (.int .i64 0) ∧ w = w' := fun w => usize_any 5 w
  have hsh := fun w => shape_ok 0 1970 1 1 w ⟨by decide, by decide, by decide, by decide, by decide⟩ (by omega) (by omega)
  have e1 : shapeV 0 1970 1 1 = .agg #[.int .i64 0, .int .i64 1970, .int .i64 1, .int .i64 1, .int .i64 31, .int .i64 4, .int .i64 1, .int .i64 5, .int .i64 1, .int .i64 53] := rfl
  rw [e1] at hsh
  clear e1
  have hof : ∀ w, Calls Tryd.prog 37 #[.int .i64 5, .agg #[.int .i64 0, .int .i64 1970, .int .i64 1, .int .i64 1, .int .i64 31, .int .i64 4, .int .i64 1, .int .i64 5, .int .i64 1, .int .i64 53]] w fun e w' => e = .returned (.int .i64 23640) ∧ Below w.heap.size w w' := by
    intro w
    go_enter Tryd.func37, Tryd.ntmps37
    go_wp2
    go_ret
    exact ⟨rfl, below_a1 _ _⟩
  go_enter Tryd.func13, Tryd.ntmps13
  go_wp2_with (first | (go_at_call 35; refine (hsp _).mono ?_; rintro e w' ⟨rfl, rfl⟩) | (go_at_call 36; refine (umay_five _).mono ?_; rintro e w' ⟨rfl, rfl⟩) | (go_at_call 17; refine (hsz _).mono ?_; rintro e w' ⟨rfl, rfl⟩))
  refine (hsh _).mono ?_
  rintro e w1 ⟨rfl, hb⟩
  have hz : w.heap.size < w1.heap.size := by have := hb.size; simp at this; omega
  have c0 : w1.cell? ⟨w.heap.size, 0, none⟩ = some (.int .i64 0) := (hb.cell (p := ⟨w.heap.size, 0, none⟩) (by simp)).trans (cell_new w _ _ 0)
  have f0 : w1.frozen? ⟨w.heap.size, 0, none⟩ = false := (hb.frozen (p := ⟨w.heap.size, 0, none⟩) (by simp)).trans (new_frozen w _ _ 0)
  have c1 : w1.cell? ⟨w.heap.size, 1, none⟩ = some (.int .i64 0) := (hb.cell (p := ⟨w.heap.size, 1, none⟩) (by simp)).trans (cell_new w _ _ 1)
  have f1 : w1.frozen? ⟨w.heap.size, 1, none⟩ = false := (hb.frozen (p := ⟨w.heap.size, 1, none⟩) (by simp)).trans (new_frozen w _ _ 1)
  have c2 : w1.cell? ⟨w.heap.size, 2, none⟩ = some (.int .i64 0) := (hb.cell (p := ⟨w.heap.size, 2, none⟩) (by simp)).trans (cell_new w _ _ 2)
  have f2 : w1.frozen? ⟨w.heap.size, 2, none⟩ = false := (hb.frozen (p := ⟨w.heap.size, 2, none⟩) (by simp)).trans (new_frozen w _ _ 2)
  have c3 : w1.cell? ⟨w.heap.size, 3, none⟩ = some (.int .i64 0) := (hb.cell (p := ⟨w.heap.size, 3, none⟩) (by simp)).trans (cell_new w _ _ 3)
  have f3 : w1.frozen? ⟨w.heap.size, 3, none⟩ = false := (hb.frozen (p := ⟨w.heap.size, 3, none⟩) (by simp)).trans (new_frozen w _ _ 3)
  have c4 : w1.cell? ⟨w.heap.size, 4, none⟩ = some (.int .i64 0) := (hb.cell (p := ⟨w.heap.size, 4, none⟩) (by simp)).trans (cell_new w _ _ 4)
  have f4 : w1.frozen? ⟨w.heap.size, 4, none⟩ = false := (hb.frozen (p := ⟨w.heap.size, 4, none⟩) (by simp)).trans (new_frozen w _ _ 4)
  have c5 : w1.cell? ⟨w.heap.size, 5, none⟩ = some (.int .i64 0) := (hb.cell (p := ⟨w.heap.size, 5, none⟩) (by simp)).trans (cell_new w _ _ 5)
  have f5 : w1.frozen? ⟨w.heap.size, 5, none⟩ = false := (hb.frozen (p := ⟨w.heap.size, 5, none⟩) (by simp)).trans (new_frozen w _ _ 5)
  have c6 : w1.cell? ⟨w.heap.size, 6, none⟩ = some (.int .i64 0) := (hb.cell (p := ⟨w.heap.size, 6, none⟩) (by simp)).trans (cell_new w _ _ 6)
  have f6 : w1.frozen? ⟨w.heap.size, 6, none⟩ = false := (hb.frozen (p := ⟨w.heap.size, 6, none⟩) (by simp)).trans (new_frozen w _ _ 6)
  have c7 : w1.cell? ⟨w.heap.size, 7, none⟩ = some (.int .i64 0) := (hb.cell (p := ⟨w.heap.size, 7, none⟩) (by simp)).trans (cell_new w _ _ 7)
  have f7 : w1.frozen? ⟨w.heap.size, 7, none⟩ = false := (hb.frozen (p := ⟨w.heap.size, 7, none⟩) (by simp)).trans (new_frozen w _ _ 7)
  have c8 : w1.cell? ⟨w.heap.size, 8, none⟩ = some (.int .i64 0) := (hb.cell (p := ⟨w.heap.size, 8, none⟩) (by simp)).trans (cell_new w _ _ 8)
  have f8 : w1.frozen? ⟨w.heap.size, 8, none⟩ = false := (hb.frozen (p := ⟨w.heap.size, 8, none⟩) (by simp)).trans (new_frozen w _ _ 8)
  have c9 : w1.cell? ⟨w.heap.size, 9, none⟩ = some (.int .i64 0) := (hb.cell (p := ⟨w.heap.size, 9, none⟩) (by simp)).trans (cell_new w _ _ 9)
  have f9 : w1.frozen? ⟨w.heap.size, 9, none⟩ = false := (hb.frozen (p := ⟨w.heap.size, 9, none⟩) (by simp)).trans (new_frozen w _ _ 9)
  have hbw : Below w.heap.size w w1 := below_cut (below_a1 w _) hb
  clear hb
  go_wp2_with (go_at_call 37; refine (hof _).mono ?_; rintro e w2 ⟨rfl, hb2⟩)
  go_ret2
  exact ⟨rfl, below_cut (below10 hbw _ _ _ _ _ _ _ _ _ _) hb2⟩
theorem rwhich_any (u t S : Int) (w : World) (ht : 0 ≤ t) (ht2 : t ≤ 12622780799) (hS : sz u = S) (hz : S ≠ 0) : Calls Tryd.prog 16 #[.int .i64 u, .int .i64 t] w fun e w' => e = .returned (.int .i64 (t / S)) ∧ w = w' := by
  rcases sz_cases u with ⟨rfl, hq⟩ | ⟨rfl, hq⟩ | ⟨rfl, hq⟩ | ⟨_, _, _, hq⟩
  · obtain rfl : S = 1 := by omega
    have HE := Lib.hid (Int.ediv_one t)
    clear hq hS hz
    go_enter Tryd.func16, Tryd.ntmps16
    go_wp2
    go_ret
    exact ⟨ret_i64 HE.out.symm, rfl⟩
  · obtain rfl : S = 60 := by omega
    clear hq hS hz
    go_enter Tryd.func16, Tryd.ntmps16
    go_wp2
    go_ret
    exact ⟨rfl, rfl⟩
  · obtain rfl : S = 3600 := by omega
    clear hq hS hz
    go_enter Tryd.func16, Tryd.ntmps16
    go_wp2
    go_ret
    exact ⟨rfl, rfl⟩
  · omega
theorem rumay_yes (u : Int) (w : World) (h : sz u ≠ 0) : Calls Tryd.prog 14 #[.int .i64 u] w fun e w' => e = .returned (.bool true) ∧ w = w' := by
  rcases sz_cases u with ⟨rfl, hq⟩ | ⟨rfl, hq⟩ | ⟨rfl, hq⟩ | ⟨_, _, _, hq⟩
  rotate_right
  · exact absurd hq h
  all_goals
    clear hq h
    go_enter Tryd.func14, Tryd.ntmps14
    go_wp2
    go_ret
    exact ⟨rfl, rfl⟩
theorem lives10_any (w : World) : Calls Tryd.prog 22 #[] w fun e w' => e = .returned (.bool true) ∧ Below w.heap.size w w' := by
  have hp : ∀ w, Calls Tryd.prog 40 #[.int .i64 2, .int .i64 5, .int .i64 0, .int .i64 1] w fun e w' => e = .returned (.int .i64 1) ∧ ∃ k, w' = w.drewN k := fun w => uphase_ok 2 5 0 1 0 24 w (by omega) (by omega) (by omega) (by omega) (i64_of _ (by omega) (by omega)) (by decide) (by decide) (by decide)
  go_enter Tryd.func22, Tryd.ntmps22
  go_wp2_with (first | (go_at_call 13; refine (which_live _).mono ?_; rintro e w1 ⟨rfl, hb⟩) | (go_at_call 40; refine (hp _).mono ?_; rintro e w' ⟨rfl, k, rfl⟩))
  go_ret
  exact ⟨rfl, hb.trans (below_draws _ _ _)⟩
end Go.Proofs.YtediadckcpedkaaDoor
