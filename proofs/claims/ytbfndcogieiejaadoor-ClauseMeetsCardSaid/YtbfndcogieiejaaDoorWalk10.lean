/- The walk of the statement UnitPhases of layer 10. -/
import Derived.Test.YtbfndcogieiejaaDoorUnit
import Derived.Test.YtbfndcogieiejaaDoorOpen
namespace Go.Proofs.YtbfndcogieiejaaDoor
open Go.RowKit Civ

theorem below_cut {w w1 w2 : World} (h : Below w.heap.size w w1) (h2 : Below w1.heap.size w1 w2) : Below w.heap.size w w2 := h.trans (h2.mono h.size)
theorem blk_frozen {w : World} {g : Nat} {cs : Array Value} {t : TypeId} (h : w.heap[g]? = some (.cells cs t (0, 0))) (i : Nat) : w.frozen? ⟨g, i, none⟩ = false := by
  simp [World.frozen?, h]
theorem new_frozen (w : World) (cs : Array Value) (t : TypeId) (i : Nat) : (w.alloc (.cells cs t)).frozen? ⟨w.heap.size, i, none⟩ = false := blk_frozen (heap_alloc_new w _) i
theorem below10 {w w1 : World} (h : Below w.heap.size w w1) (v0 v1 v2 v3 v4 v5 v6 v7 v8 v9 : Value) : Below w.heap.size w ((((((((((w1.setCell ⟨w.heap.size, 0, none⟩ v0).setCell ⟨w.heap.size, 1, none⟩ v1).setCell ⟨w.heap.size, 2, none⟩ v2).setCell ⟨w.heap.size, 3, none⟩ v3).setCell ⟨w.heap.size, 4, none⟩ v4).setCell ⟨w.heap.size, 5, none⟩ v5).setCell ⟨w.heap.size, 6, none⟩ v6).setCell ⟨w.heap.size, 7, none⟩ v7).setCell ⟨w.heap.size, 8, none⟩ v8).setCell ⟨w.heap.size, 9, none⟩ v9) :=
  ((((((((((h.setCell (p := ⟨w.heap.size, 0, none⟩) (Nat.le_refl _) v0).setCell (p := ⟨w.heap.size, 1, none⟩) (Nat.le_refl _) v1).setCell (p := ⟨w.heap.size, 2, none⟩) (Nat.le_refl _) v2).setCell (p := ⟨w.heap.size, 3, none⟩) (Nat.le_refl _) v3).setCell (p := ⟨w.heap.size, 4, none⟩) (Nat.le_refl _) v4).setCell (p := ⟨w.heap.size, 5, none⟩) (Nat.le_refl _) v5).setCell (p := ⟨w.heap.size, 6, none⟩) (Nat.le_refl _) v6).setCell (p := ⟨w.heap.size, 7, none⟩) (Nat.le_refl _) v7).setCell (p := ⟨w.heap.size, 8, none⟩) (Nat.le_refl _) v8).setCell (p := ⟨w.heap.size, 9, none⟩) (Nat.le_refl _) v9)
theorem umay_five (w : World) : Calls Tryd.prog 58 #[.int .i64 5] w fun e w' => e = .returned (.bool true) ∧ w = w' := by
  go_enter Tryd.func58, Tryd.ntmps58
  go_wp2
  go_ret
  exact ⟨rfl, rfl⟩
theorem which_live (w : World) : Calls Tryd.prog 62 #[.int .i64 5, .int .i64 0] w fun e w' => e = .returned (.tuple #[.int .i64 23640, .bool true]) ∧ Below w.heap.size w w' := by
  have hsp : ∀ w, Calls Tryd.prog 34 #[.int .i64 0] w fun e w' => e = .returned (.tuple #[.int .i64 0, .int .i64 0, .bool true]) ∧ w = w' := fun w => mSplit_yes 0 w (by omega) (by omega)
  have hsz : ∀ w, Calls Tryd.prog 78 #[.int .i64 5] w fun e w' => e = .returned (.int .i64 0) ∧ w = w' := fun w => usize_any 5 w
  have hsh := fun w => shape_ok 0 1970 1 1 w ⟨by decide, by decide, by decide, by decide, by decide⟩ (by omega) (by omega)
  have e1 : shapeV 0 1970 1 1 = .agg #[.int .i64 0, .int .i64 1970, .int .i64 1, .int .i64 1, .int .i64 31, .int .i64 4, .int .i64 1, .int .i64 5, .int .i64 1, .int .i64 53] := rfl
  rw [e1] at hsh
  clear e1
  have hof : ∀ w, Calls Tryd.prog 76 #[.int .i64 5, .agg #[.int .i64 0, .int .i64 1970, .int .i64 1, .int .i64 1, .int .i64 31, .int .i64 4, .int .i64 1, .int .i64 5, .int .i64 1, .int .i64 53]] w fun e w' => e = .returned (.int .i64 23640) ∧ Below w.heap.size w w' := by
    intro w
    go_enter Tryd.func76, Tryd.ntmps76
    go_wp2
    go_ret
    exact ⟨rfl, below_a1 _ _⟩
  go_enter Tryd.func62, Tryd.ntmps62
  go_wp2_with (first | (go_at_call 34; refine (hsp _).mono ?_; rintro e w' ⟨rfl, rfl⟩) | (go_at_call 58; refine (umay_five _).mono ?_; rintro e w' ⟨rfl, rfl⟩) | (go_at_call 78; refine (hsz _).mono ?_; rintro e w' ⟨rfl, rfl⟩))
  refine (hsh _).mono ?_
  rintro e w1 ⟨rfl, hb⟩
  have hz : w.heap.size < w1.heap.size := by have := hb.size; simp at this; omega
  have c0 : w1.cell? ⟨w.heap.size, 0, none⟩ = some (.int .i64 0) := (hb.cell (p := ⟨w.heap.size, 0, none⟩) (by simp)).trans (cell_new w _ _ 0)
  have f0 : w1.frozen? ⟨w.heap.size, 0, none⟩ = false := (hb.frozen (p := ⟨w.heap.size, 0, none⟩) (by simp)).trans (new_frozen w _ _ 0)
  have c1 : w1.cell? ⟨w.heap.size, 1, none⟩ = some (.int .i64 0) := (hb.cell (p := ⟨w.heap.size, 1, none⟩) (by simp)).trans (cell_new w _ _ 1)
  have f1 : w1.frozen? ⟨w.heap.size, 1, none⟩ = false := (hb.frozen (p := ⟨w.heap.size, 1, none⟩) (by simp)).trans (new_frozen w _ _ 1)
  have c2 : w1.cell? ⟨w.heap.size, 2, none⟩ = some (.int .i64 0) := (hb.cell (p := ⟨w.heap.size, 2, none⟩) (by simp)).trans (cell_new w _ _ 2)
  have f2 : w1.frozen? ⟨w.heap.size, 2, none⟩ = false := (hb.frozen (p := ⟨w.heap.size, 2, none⟩) (by simp)).trans (new_frozen w _ _ 2)
  have c3 : w1.cell? ⟨w.heap.size, 3, none⟩ = some (.int .i64 0) := (hb.cell (p := ⟨w.heap.size, 3, none⟩) (by simp)).trans (cell_new w _ _ 3)
  have f3 : w1.frozen? ⟨w.heap.size, 3, none⟩ = false := (hb.frozen (p := ⟨w.heap.size, 3, none⟩) (by simp)).trans (new_frozen w _ _ 3)
  have c4 : w1.cell? ⟨w.heap.size, 4, none⟩ = some (.int .i64 0) := (hb.cell (p := ⟨w.heap.size, 4, none⟩) (by simp)).trans (cell_new w _ _ 4)
  have f4 : w1.frozen? ⟨w.heap.size, 4, none⟩ = false := (hb.frozen (p := ⟨w.heap.size, 4, none⟩) (by simp)).trans (new_frozen w _ _ 4)
  have c5 : w1.cell? ⟨w.heap.size, 5, none⟩ = some (.int .i64 0) := (hb.cell (p := ⟨w.heap.size, 5, none⟩) (by simp)).trans (cell_new w _ _ 5)
  have f5 : w1.frozen? ⟨w.heap.size, 5, none⟩ = false := (hb.frozen (p := ⟨w.heap.size, 5, none⟩) (by simp)).trans (new_frozen w _ _ 5)
  have c6 : w1.cell? ⟨w.heap.size, 6, none⟩ = some (.int .i64 0) := (hb.cell (p := ⟨w.heap.size, 6, none⟩) (by simp)).trans (cell_new w _ _ 6)
  have f6 : w1.frozen? ⟨w.heap.size, 6, none⟩ = false := (hb.frozen (p := ⟨w.heap.size, 6, none⟩) (by simp)).trans (new_frozen w _ _ 6)
  have c7 : w1.cell? ⟨w.heap.size, 7, none⟩ = some (.int .i64 0) := (hb.cell (p := ⟨w.heap.size, 7, none⟩) (by simp)).trans (cell_new w _ _ 7)
  have f7 : w1.frozen? ⟨w.heap.size, 7, none⟩ = false := (hb.frozen (p := ⟨w.heap.size, 7, none⟩) (by simp)).trans (new_frozen w _ _ 7)
  have c8 : w1.cell? ⟨w.heap.size, 8, none⟩ = some (.int .i64 0) := (hb.cell (p := ⟨w.heap.size, 8, none⟩) (by simp)).trans (cell_new w _ _ 8)
  have f8 : w1.frozen? ⟨w.heap.size, 8, none⟩ = false := (hb.frozen (p := ⟨w.heap.size, 8, none⟩) (by simp)).trans (new_frozen w _ _ 8)
  have c9 : w1.cell? ⟨w.heap.size, 9, none⟩ = some (.int .i64 0) := (hb.cell (p := ⟨w.heap.size, 9, none⟩) (by simp)).trans (cell_new w _ _ 9)
  have f9 : w1.frozen? ⟨w.heap.size, 9, none⟩ = false := (hb.frozen (p := ⟨w.heap.size, 9, none⟩) (by simp)).trans (new_frozen w _ _ 9)
  have hbw : Below w.heap.size w w1 := below_cut (below_a1 w _) hb
  clear hb
  go_wp2_with (go_at_call 76; refine (hof _).mono ?_; rintro e w2 ⟨rfl, hb2⟩)
  go_ret2
  exact ⟨rfl, below_cut (below10 hbw _ _ _ _ _ _ _ _ _ _) hb2⟩
theorem rwhich_any (u t S : Int) (w : World) (ht : 0 ≤ t) (ht2 : t ≤ 12622780799) (hS : sz u = S) (hz : S ≠ 0) : Calls Tryd.prog 70 #[.int .i64 u, .int .i64 t] w fun e w' => e = .returned (.int .i64 (t / S)) ∧ w = w' := by
  rcases sz_cases u with ⟨rfl, hq⟩ | ⟨rfl, hq⟩ | ⟨rfl, hq⟩ | ⟨_, _, _, hq⟩
  · obtain rfl : S = 1 := by omega
    have HE := Lib.hid (Int.ediv_one t)
    clear hq hS hz
    go_enter Tryd.func70, Tryd.ntmps70
    go_wp2
    go_ret
    exact ⟨ret_i64 HE.out.symm, rfl⟩
  · obtain rfl : S = 60 := by omega
    clear hq hS hz
    go_enter Tryd.func70, Tryd.ntmps70
    go_wp2
    go_ret
    exact ⟨rfl, rfl⟩
  · obtain rfl : S = 3600 := by omega
    clear hq hS hz
    go_enter Tryd.func70, Tryd.ntmps70
    go_wp2
    go_ret
    exact ⟨rfl, rfl⟩
  · omega
theorem rumay_yes (u : Int) (w : World) (h : sz u ≠ 0) : Calls Tryd.prog 31 #[.int .i64 u] w fun e w' => e = .returned (.bool true) ∧ w = w' := by
  rcases sz_cases u with ⟨rfl, hq⟩ | ⟨rfl, hq⟩ | ⟨rfl, hq⟩ | ⟨_, _, _, hq⟩
  rotate_right
  · exact absurd hq h
  all_goals
    clear hq h
    go_enter Tryd.func31, Tryd.ntmps31
    go_wp2
    go_ret
    exact ⟨rfl, rfl⟩
/-- On, of a unit below a day: the units' difference is a multiple of the step -/
theorem ron_any (u s a t S A T : Int) (b : Bool) (w : World) (ha : 0 ≤ a) (ha2 : a ≤ 12622780799) (ht : 0 ≤ t) (ht2 : t ≤ 12622780799) (hs : 1 ≤ s) (hS : sz u = S) (hz : 0 < S) (hA : a / S = A) (hT : t / S = T) (hb : b = decide ((T - A) % s = 0)) :
    Calls Tryd.prog 39 #[.int .i64 u, .int .i64 s, .int .i64 a, .int .i64 t] w fun e w' => e = .returned (.bool b) ∧ w = w' := by
  have hm := fun w => rumay_yes u w (by omega)
  have hi1 := fun w => rIn_yes a w ha ha2
  have hi2 := fun w => rIn_yes t w ht ht2
  have hw1 := fun w => rwhich_any u t S w ht ht2 hS (by omega)
  have hw2 := fun w => rwhich_any u a S w ha ha2 hS (by omega)
  rw [hT] at hw1
  rw [hA] at hw2
  have hA1 : 0 ≤ A := by rw [← hA]; exact Int.ediv_nonneg ha (by omega)
  have hA2 : A ≤ 12622780799 := by rw [← hA]; have := Int.ediv_le_self S ha; omega
  have hT1 : 0 ≤ T := by rw [← hT]; exact Int.ediv_nonneg ht (by omega)
  have hT2 : T ≤ 12622780799 := by rw [← hT]; have := Int.ediv_le_self S ht; omega
  have hn : ¬ s < 1 := by omega
  have hs0 : ¬ s = 0 := by omega
  by_cases hlt : T - A < 0
  · have h4 : (-(T - A).tmod s == 0) = b := by
      rw [hb, Bool.eq_iff_iff]
      simp only [beq_iff_eq, decide_eq_true_eq, Int.neg_eq_zero]
      rw [← Int.dvd_iff_tmod_eq_zero, ← Int.dvd_iff_emod_eq_zero]
    have HB := Lib.hid h4
    clear hA hT hS hb h4
    go_enter Tryd.func39, Tryd.ntmps39
    go_wp2_with (first | (go_at_call 31; refine (hm _).mono ?_; rintro e w' ⟨rfl, rfl⟩) | (go_at_call 15; ((with_reducible refine (hi1 _).mono ?_); rintro e w' ⟨rfl, rfl⟩)) | (go_at_call 15; ((with_reducible refine (hi2 _).mono ?_); rintro e w' ⟨rfl, rfl⟩)) | (go_at_call 70; ((with_reducible refine (hw1 _).mono ?_); rintro e w' ⟨rfl, rfl⟩)) | (go_at_call 70; ((with_reducible refine (hw2 _).mono ?_); rintro e w' ⟨rfl, rfl⟩)))
    go_ret
    exact ⟨ret_bool HB.out, rfl⟩
  · have h4 : ((T - A) % s == 0) = b := by rw [hb, Bool.eq_iff_iff]; simp
    have h5 : 0 ≤ T - A := by omega
    clear hA hT hS hb
    go_enter Tryd.func39, Tryd.ntmps39
    go_wp2_with (first | (go_at_call 31; refine (hm _).mono ?_; rintro e w' ⟨rfl, rfl⟩) | (go_at_call 15; ((with_reducible refine (hi1 _).mono ?_); rintro e w' ⟨rfl, rfl⟩)) | (go_at_call 15; ((with_reducible refine (hi2 _).mono ?_); rintro e w' ⟨rfl, rfl⟩)) | (go_at_call 70; ((with_reducible refine (hw1 _).mono ?_); rintro e w' ⟨rfl, rfl⟩)) | (go_at_call 70; ((with_reducible refine (hw2 _).mono ?_); rintro e w' ⟨rfl, rfl⟩)))
    go_ret
    exact ⟨rfl, rfl⟩
end Go.Proofs.YtbfndcogieiejaaDoor
