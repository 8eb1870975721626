/- The walk of MomentStamps (layer 8). -/
import Derived.Test.YtjhaekbehnkecaaStampTexts
namespace Go.Proofs.Ytjhaekbehnkecaa
open Go.RowKit Civ

theorem stamp_no (t : Int) (w : World) (h : t < 0 ∨ 12622780800 ≤ t) : Calls Try.prog 12 #[.int .i64 t] w fun e w' => e = .returned (.tuple #[stampS 0 0 0 0 0 0, .bool false]) ∧ Below w.heap.size w w' := by
  unfold stampS
  have k1 := fun w => split_no t w h
  clear h
  go_enter Try.func12, Try.ntmps12
  go_wp2_with fail
  refine (k1 _).mono ?_
  rintro e w1 ⟨rfl, rfl⟩
  go_wp2
  refine bodyPost_ret (v := .tuple #[.agg #[.int .i64 0, .int .i64 0, .int .i64 0, .int .i64 0, .int .i64 0, .int .i64 0], .bool false]) (by simp [results, Try.results12, go_sem]) rfl ⟨rfl, ?_⟩
  first | exact Below.refl _ _ | exact below_a1 _ _
theorem written_no (form : ByteArray) (t : Int) (w : World) (h : t < 0 ∨ 12622780800 ≤ t) : Calls Try.prog 42 #[.int .i64 t, .string form] w fun e w' => e = .returned (.string ⟨#[]⟩) ∧ Below w.heap.size w w' := by
  have k1 := fun w => stamp_no t w h
  unfold stampS at k1
  clear h
  go_enter Try.func42, Try.ntmps42
  go_wp2_with fail
  refine (k1 _).mono ?_
  rintro e w1 ⟨rfl, hb⟩
  go_wp2
  go_ret
  refine ⟨rfl, ?_⟩
  have hz := hb.size
  first | exact (below_a1 w _).trans (hb.mono (by simp)) | exact ((below_a1 w _).trans (hb.mono (by simp))).alloc (by simp at hz; omega) _
theorem basic_no (t : Int) (w : World) (h : t < 0 ∨ 12622780800 ≤ t) : Calls Try.prog 15 #[.int .i64 t] w fun e w' => e = .returned (.string ⟨#[]⟩) ∧ Below w.heap.size w w' := by
  go_enter Try.func15, Try.ntmps15
  go_wp2_with (go_at_call 42; refine (written_no _ t _ h).mono ?_; rintro e w' ⟨rfl, hb⟩)
  go_ret
  exact ⟨rfl, hb⟩
theorem long_no (t : Int) (w : World) (h : t < 0 ∨ 12622780800 ≤ t) : Calls Try.prog 14 #[.int .i64 t] w fun e w' => e = .returned (.string ⟨#[]⟩) ∧ Below w.heap.size w w' := by
  go_enter Try.func14, Try.ntmps14
  go_wp2_with (go_at_call 42; refine (written_no _ t _ h).mono ?_; rintro e w' ⟨rfl, hb⟩)
  go_ret
  exact ⟨rfl, hb⟩
set_option maxHeartbeats 1600000 in
set_option maxRecDepth 100000 in
theorem stamps_in (t a b c p q r y m d hh hm hs : Int) (A B : ByteArray) (w : World) (h1 : 0 ≤ t) (h2 : t < 12622780800)
   (k1 : ∀ w, Calls Try.prog 12 #[.int .i64 t] w fun e w' => e = .returned (.tuple #[.agg #[.int .i64 y, .int .i64 m, .int .i64 d, .int .i64 hh, .int .i64 hm, .int .i64 hs], .bool true]) ∧ Below w.heap.size w w')
   (k2 : ∀ w, Calls Try.prog 16 #[.int .i64 t] w fun e w' => e = .returned (.agg #[.int .i64 y, .int .i64 m, .int .i64 d, .int .i64 hh, .int .i64 hm, .int .i64 hs]) ∧ Below w.heap.size w w')
   (k3 : ∀ w, Calls Try.prog 14 #[.int .i64 t] w fun e w' => e = .returned (.string A) ∧ Below w.heap.size w w')
   (k4 : ∀ w, Calls Try.prog 17 #[.int .i64 t] w fun e w' => e = .returned (.string A) ∧ Below w.heap.size w w')
   (k5 : ∀ w, Calls Try.prog 15 #[.int .i64 t] w fun e w' => e = .returned (.string B) ∧ Below w.heap.size w w')
   (k6 : ∀ w, Calls Try.prog 18 #[.int .i64 t] w fun e w' => e = .returned (.string B) ∧ Below w.heap.size w w') :
    Calls Try.prog 4 #[.int .i64 t, .agg #[.int .i64 a, .int .i64 b, .int .i64 c, .int .i64 p, .int .i64 q, .int .i64 r]] w fun e w' => e = .returned (.bool true) ∧ Below w.heap.size w w' := by
  have k0 := fun w => rIn_yes t w h1 (by omega)
  go_enter Try.func4, Try.ntmps4
  go_wp2_with fail
  refine (k1 _).mono ?_
  rintro e w1 ⟨rfl, hb1⟩
  go_wp2_with fail
  refine (k0 _).mono ?_
  rintro e w2 ⟨rfl, rfl⟩
  obtain ⟨W0, hW0⟩ : ∃ W0, w1.alloc (.cells #[.int .i64 y, .int .i64 m, .int .i64 d, .int .i64 hh, .int .i64 hm, .int .i64 hs] 34) = W0 := ⟨_, rfl⟩
  have HS := St.start w1 y m d hh hm hs
  have hz1 : w.heap.size < w1.heap.size := by have := hb1.size; simp at this; omega
  have hx : w1.heap.size < W0.heap.size := by rw [← hW0]; simp
  have hba : Below (w.heap.size + 1) (w.alloc (.cells #[.int .i64 a, .int .i64 b, .int .i64 c, .int .i64 p, .int .i64 q, .int .i64 r] 34)) W0 := by
    have z : (w.alloc (.cells #[.int .i64 a, .int .i64 b, .int .i64 c, .int .i64 p, .int .i64 q, .int .i64 r] 34)).heap.size = w.heap.size + 1 := by simp
    rw [z] at hb1
    rw [← hW0]
    exact hb1.alloc (by omega) _
  have c0 : W0.cell? ⟨w.heap.size, 0, none⟩ = some (.int .i64 a) := (hba.cell (p := ⟨w.heap.size, 0, none⟩) (by simp)).trans (cell_of_row _ _ 0 _ _ _ (heap_alloc_new _ _))
  have c1 : W0.cell? ⟨w.heap.size, 1, none⟩ = some (.int .i64 b) := (hba.cell (p := ⟨w.heap.size, 1, none⟩) (by simp)).trans (cell_of_row _ _ 1 _ _ _ (heap_alloc_new _ _))
  have c2 : W0.cell? ⟨w.heap.size, 2, none⟩ = some (.int .i64 c) := (hba.cell (p := ⟨w.heap.size, 2, none⟩) (by simp)).trans (cell_of_row _ _ 2 _ _ _ (heap_alloc_new _ _))
  have c3 : W0.cell? ⟨w.heap.size, 3, none⟩ = some (.int .i64 p) := (hba.cell (p := ⟨w.heap.size, 3, none⟩) (by simp)).trans (cell_of_row _ _ 3 _ _ _ (heap_alloc_new _ _))
  have c4 : W0.cell? ⟨w.heap.size, 4, none⟩ = some (.int .i64 q) := (hba.cell (p := ⟨w.heap.size, 4, none⟩) (by simp)).trans (cell_of_row _ _ 4 _ _ _ (heap_alloc_new _ _))
  have c5 : W0.cell? ⟨w.heap.size, 5, none⟩ = some (.int .i64 r) := (hba.cell (p := ⟨w.heap.size, 5, none⟩) (by simp)).trans (cell_of_row _ _ 5 _ _ _ (heap_alloc_new _ _))
  have hbW : Below w.heap.size w W0 := (below_a1 w _).trans (hba.mono (by omega))
  rw [hW0] at HS
  go_wp2_with fail
  try rw [hW0]
  clear hW0 hb1 hba k1
  go_region_held3 (fun w' => Below W0.heap.size W0 w' ∧ w'.cell? ⟨w1.heap.size, 0, none⟩ = some (.int .i64 y) ∧ w'.cell? ⟨w1.heap.size, 1, none⟩ = some (.int .i64 m) ∧ w'.cell? ⟨w1.heap.size, 2, none⟩ = some (.int .i64 d) ∧ w'.cell? ⟨w1.heap.size, 3, none⟩ = some (.int .i64 hh) ∧ w'.cell? ⟨w1.heap.size, 4, none⟩ = some (.int .i64 hm) ∧ w'.cell? ⟨w1.heap.size, 5, none⟩ = some (.int .i64 hs)) (first | exact HS.drew.conj | exact St.keepC hx (by assumption) (by assumption)) (first | (go_at_call 16; refine (k2 _).mono ?_; rintro e w2 ⟨rfl, hb⟩) | (go_at_call 14; refine (k3 _).mono ?_; rintro e w2 ⟨rfl, hb⟩) | (go_at_call 17; refine (k4 _).mono ?_; rintro e w2 ⟨rfl, hb⟩) | (go_at_call 15; refine (k5 _).mono ?_; rintro e w2 ⟨rfl, hb⟩) | (go_at_call 18; refine (k6 _).mono ?_; rintro e w2 ⟨rfl, hb⟩))
  have hH : Below W0.heap.size W0 w2 ∧ w2.cell? ⟨w1.heap.size, 0, none⟩ = some (.int .i64 y) ∧ w2.cell? ⟨w1.heap.size, 1, none⟩ = some (.int .i64 m) ∧ w2.cell? ⟨w1.heap.size, 2, none⟩ = some (.int .i64 d) ∧ w2.cell? ⟨w1.heap.size, 3, none⟩ = some (.int .i64 hh) ∧ w2.cell? ⟨w1.heap.size, 4, none⟩ = some (.int .i64 hm) ∧ w2.cell? ⟨w1.heap.size, 5, none⟩ = some (.int .i64 hs) := by assumption
  have hb2 := hH.1
  clear HS hH
  have hxa : w.heap.size < W0.heap.size := by omega
  replace c0 := (hb2.cell (p := ⟨w.heap.size, 0, none⟩) hxa).trans c0
  replace c1 := (hb2.cell (p := ⟨w.heap.size, 1, none⟩) hxa).trans c1
  replace c2 := (hb2.cell (p := ⟨w.heap.size, 2, none⟩) hxa).trans c2
  replace c3 := (hb2.cell (p := ⟨w.heap.size, 3, none⟩) hxa).trans c3
  replace c4 := (hb2.cell (p := ⟨w.heap.size, 4, none⟩) hxa).trans c4
  replace c5 := (hb2.cell (p := ⟨w.heap.size, 5, none⟩) hxa).trans c5
  have hbX : Below w.heap.size w w2 := below_cut hbW hb2
  have hxb : w.heap.size < w2.heap.size := by have := hb2.size; omega
  clear hbW hb2 hx hz1 hxa
  by_cases hs : IsStamp a b c p q r
  · obtain ⟨N, hN⟩ : ∃ N, N = 86400 * dayI a b c + secI p q r := ⟨_, rfl⟩
    have hN0 : 0 ≤ N := by
      have z := day_win hs.1 hs.2.1 hs.2.2.1
      obtain ⟨z1, _, z3, _, z5, _⟩ := hs.2.2.2
      rw [hN]; unfold secI; omega
    have k7 : ∀ w, Calls Try.prog 19 #[.agg #[.int .i64 a, .int .i64 b, .int .i64 c, .int .i64 p, .int .i64 q, .int .i64 r]] w fun e w' => e = .returned (.tuple #[.int .i64 N, .bool true]) ∧ Below w.heap.size w w' := by
      intro w
      rw [hN, show 86400 * dayI a b c + secI p q r = dayI a b c * 86400 + secI p q r by omega]
      exact mof_yes a b c p q r w hs
    have k8 : ∀ w, Calls Try.prog 20 #[.agg #[.int .i64 a, .int .i64 b, .int .i64 c, .int .i64 p, .int .i64 q, .int .i64 r]] w fun e w' => e = .returned (.int .i64 N) ∧ Below w.heap.size w w' := by
      intro w
      rw [hN]
      exact rof_yes a b c p q r w hs
    clear hN hs
    go_wp2_with fail
    refine (k7 _).mono ?_
    rintro e w3 ⟨rfl, hb3⟩
    replace c0 := (hb3.cell (p := ⟨w.heap.size, 0, none⟩) hxb).trans c0
    replace c1 := (hb3.cell (p := ⟨w.heap.size, 1, none⟩) hxb).trans c1
    replace c2 := (hb3.cell (p := ⟨w.heap.size, 2, none⟩) hxb).trans c2
    replace c3 := (hb3.cell (p := ⟨w.heap.size, 3, none⟩) hxb).trans c3
    replace c4 := (hb3.cell (p := ⟨w.heap.size, 4, none⟩) hxb).trans c4
    replace c5 := (hb3.cell (p := ⟨w.heap.size, 5, none⟩) hxb).trans c5
    go_wp2_with fail
    refine (k8 _).mono ?_
    rintro e w4 ⟨rfl, hb4⟩
    go_wp2_with fail
    refine (lives08_any _).mono ?_
    rintro e w5 ⟨rfl, hb5⟩
    go_wp2
    go_ret
    exact ⟨rfl, below_cut (below_cut (below_cut hbX hb3) hb4) hb5⟩
  · have k7 : ∀ w, Calls Try.prog 19 #[.agg #[.int .i64 a, .int .i64 b, .int .i64 c, .int .i64 p, .int .i64 q, .int .i64 r]] w fun e w' => e = .returned (.tuple #[.int .i64 0, .bool false]) ∧ Below w.heap.size w w' := fun w => mof_no a b c p q r w hs
    have k8 : ∀ w, Calls Try.prog 20 #[.agg #[.int .i64 a, .int .i64 b, .int .i64 c, .int .i64 p, .int .i64 q, .int .i64 r]] w fun e w' => e = .returned (.int .i64 (-1)) ∧ Below w.heap.size w w' := fun w => rof_no a b c p q r w hs
    clear hs
    go_wp2_with fail
    refine (k7 _).mono ?_
    rintro e w3 ⟨rfl, hb3⟩
    replace c0 := (hb3.cell (p := ⟨w.heap.size, 0, none⟩) hxb).trans c0
    replace c1 := (hb3.cell (p := ⟨w.heap.size, 1, none⟩) hxb).trans c1
    replace c2 := (hb3.cell (p := ⟨w.heap.size, 2, none⟩) hxb).trans c2
    replace c3 := (hb3.cell (p := ⟨w.heap.size, 3, none⟩) hxb).trans c3
    replace c4 := (hb3.cell (p := ⟨w.heap.size, 4, none⟩) hxb).trans c4
    replace c5 := (hb3.cell (p := ⟨w.heap.size, 5, none⟩) hxb).trans c5
    go_wp2_with fail
    refine (k8 _).mono ?_
    rintro e w4 ⟨rfl, hb4⟩
    go_wp2_with fail
    refine (lives08_any _).mono ?_
    rintro e w5 ⟨rfl, hb5⟩
    go_wp2
    go_ret
    exact ⟨rfl, below_cut (below_cut (below_cut hbX hb3) hb4) hb5⟩
set_option maxHeartbeats 1600000 in
set_option maxRecDepth 100000 in
theorem stamps_out (t a b c p q r : Int) (w : World) (h : t < 0 ∨ 12622780800 ≤ t) :
    Calls Try.prog 4 #[.int .i64 t, .agg #[.int .i64 a, .int .i64 b, .int .i64 c, .int .i64 p, .int .i64 q, .int .i64 r]] w fun e w' => e = .returned (.bool true) ∧ Below w.heap.size w w' := by
  have k0 := fun w => rIn_no t w h
  have k1 := fun w => stamp_no t w h
  have k3 := fun w => long_no t w h
  have k5 := fun w => basic_no t w h
  unfold stampS at k1
  clear h
  go_enter Try.func4, Try.ntmps4
  go_wp2_with fail
  refine (k1 _).mono ?_
  rintro e w1 ⟨rfl, hb1⟩
  go_wp2_with fail
  refine (k0 _).mono ?_
  rintro e w2 ⟨rfl, rfl⟩
  go_wp2_with fail
  refine (k3 _).mono ?_
  rintro e w3 ⟨rfl, hb3⟩
  go_wp2_with fail
  refine (k5 _).mono ?_
  rintro e w4 ⟨rfl, hb4⟩
  have hz : (w.alloc (.cells #[.int .i64 a, .int .i64 b, .int .i64 c, .int .i64 p, .int .i64 q, .int .i64 r] 34)).heap.size = w.heap.size + 1 := by simp
  rw [hz] at hb1
  have hb2 : Below (w.heap.size + 1) (w.alloc (.cells #[.int .i64 a, .int .i64 b, .int .i64 c, .int .i64 p, .int .i64 q, .int .i64 r] 34)) w4 := by
    have y1 := hb1.alloc (by have := hb1.size; simp at this; omega) (.cells #[.int .i64 0, .int .i64 0, .int .i64 0, .int .i64 0, .int .i64 0, .int .i64 0] 34)
    have y2 := y1.trans (hb3.mono (by have := y1.size; simp at this; simp; omega))
    exact y2.trans (hb4.mono (by have := y2.size; simp at this; omega))
  have hxb : w.heap.size < w4.heap.size := by have := hb2.size; simp at this; omega
  have c0 : w4.cell? ⟨w.heap.size, 0, none⟩ = some (.int .i64 a) := (hb2.cell (p := ⟨w.heap.size, 0, none⟩) (by simp)).trans (cell_of_row _ _ 0 _ _ _ (heap_alloc_new _ _))
  have c1 : w4.cell? ⟨w.heap.size, 1, none⟩ = some (.int .i64 b) := (hb2.cell (p := ⟨w.heap.size, 1, none⟩) (by simp)).trans (cell_of_row _ _ 1 _ _ _ (heap_alloc_new _ _))
  have c2 : w4.cell? ⟨w.heap.size, 2, none⟩ = some (.int .i64 c) := (hb2.cell (p := ⟨w.heap.size, 2, none⟩) (by simp)).trans (cell_of_row _ _ 2 _ _ _ (heap_alloc_new _ _))
  have c3 : w4.cell? ⟨w.heap.size, 3, none⟩ = some (.int .i64 p) := (hb2.cell (p := ⟨w.heap.size, 3, none⟩) (by simp)).trans (cell_of_row _ _ 3 _ _ _ (heap_alloc_new _ _))
  have c4 : w4.cell? ⟨w.heap.size, 4, none⟩ = some (.int .i64 q) := (hb2.cell (p := ⟨w.heap.size, 4, none⟩) (by simp)).trans (cell_of_row _ _ 4 _ _ _ (heap_alloc_new _ _))
  have c5 : w4.cell? ⟨w.heap.size, 5, none⟩ = some (.int .i64 r) := (hb2.cell (p := ⟨w.heap.size, 5, none⟩) (by simp)).trans (cell_of_row _ _ 5 _ _ _ (heap_alloc_new _ _))
  have hbX : Below w.heap.size w w4 := (below_a1 w _).trans (hb2.mono (by omega))
  clear hb1 hb3 hb4 hz hb2 k0 k1 k3 k5
  by_cases hs : IsStamp a b c p q r
  · obtain ⟨N, hN⟩ : ∃ N, N = 86400 * dayI a b c + secI p q r := ⟨_, rfl⟩
    have hN0 : 0 ≤ N := by
      have z := day_win hs.1 hs.2.1 hs.2.2.1
      obtain ⟨z1, _, z3, _, z5, _⟩ := hs.2.2.2
      rw [hN]; unfold secI; omega
    have k7 : ∀ w, Calls Try.prog 19 #[.agg #[.int .i64 a, .int .i64 b, .int .i64 c, .int .i64 p, .int .i64 q, .int .i64 r]] w fun e w' => e = .returned (.tuple #[.int .i64 N, .bool true]) ∧ Below w.heap.size w w' := by
      intro w
      rw [hN, show 86400 * dayI a b c + secI p q r = dayI a b c * 86400 + secI p q r by omega]
      exact mof_yes a b c p q r w hs
    have k8 : ∀ w, Calls Try.prog 20 #[.agg #[.int .i64 a, .int .i64 b, .int .i64 c, .int .i64 p, .int .i64 q, .int .i64 r]] w fun e w' => e = .returned (.int .i64 N) ∧ Below w.heap.size w w' := by
      intro w
      rw [hN]
      exact rof_yes a b c p q r w hs
    clear hN hs
    go_wp2_with fail
    refine (k7 _).mono ?_
    rintro e w5 ⟨rfl, hb5x⟩
    replace c0 := (hb5x.cell (p := ⟨w.heap.size, 0, none⟩) hxb).trans c0
    replace c1 := (hb5x.cell (p := ⟨w.heap.size, 1, none⟩) hxb).trans c1
    replace c2 := (hb5x.cell (p := ⟨w.heap.size, 2, none⟩) hxb).trans c2
    replace c3 := (hb5x.cell (p := ⟨w.heap.size, 3, none⟩) hxb).trans c3
    replace c4 := (hb5x.cell (p := ⟨w.heap.size, 4, none⟩) hxb).trans c4
    replace c5 := (hb5x.cell (p := ⟨w.heap.size, 5, none⟩) hxb).trans c5
    go_wp2_with fail
    refine (k8 _).mono ?_
    rintro e w6 ⟨rfl, hb6⟩
    go_wp2_with fail
    refine (lives08_any _).mono ?_
    rintro e w7 ⟨rfl, hb7⟩
    go_wp2
    go_ret
    exact ⟨rfl, below_cut (below_cut (below_cut hbX hb5x) hb6) hb7⟩
  · have k7 : ∀ w, Calls Try.prog 19 #[.agg #[.int .i64 a, .int .i64 b, .int .i64 c, .int .i64 p, .int .i64 q, .int .i64 r]] w fun e w' => e = .returned (.tuple #[.int .i64 0, .bool false]) ∧ Below w.heap.size w w' := fun w => mof_no a b c p q r w hs
    have k8 : ∀ w, Calls Try.prog 20 #[.agg #[.int .i64 a, .int .i64 b, .int .i64 c, .int .i64 p, .int .i64 q, .int .i64 r]] w fun e w' => e = .returned (.int .i64 (-1)) ∧ Below w.heap.size w w' := fun w => rof_no a b c p q r w hs
    clear hs
    go_wp2_with fail
    refine (k7 _).mono ?_
    rintro e w5 ⟨rfl, hb5x⟩
    replace c0 := (hb5x.cell (p := ⟨w.heap.size, 0, none⟩) hxb).trans c0
    replace c1 := (hb5x.cell (p := ⟨w.heap.size, 1, none⟩) hxb).trans c1
    replace c2 := (hb5x.cell (p := ⟨w.heap.size, 2, none⟩) hxb).trans c2
    replace c3 := (hb5x.cell (p := ⟨w.heap.size, 3, none⟩) hxb).trans c3
    replace c4 := (hb5x.cell (p := ⟨w.heap.size, 4, none⟩) hxb).trans c4
    replace c5 := (hb5x.cell (p := ⟨w.heap.size, 5, none⟩) hxb).trans c5
    go_wp2_with fail
    refine (k8 _).mono ?_
    rintro e w6 ⟨rfl, hb6⟩
    go_wp2_with fail
    refine (lives08_any _).mono ?_
    rintro e w7 ⟨rfl, hb7⟩
    go_wp2
    go_ret
    exact ⟨rfl, below_cut (below_cut (below_cut hbX hb5x) hb6) hb7⟩
theorem momentStamps_walk (t a b c p q r : Int) (w : World) :
    Calls Try.prog 4 #[.int .i64 t, .agg #[.int .i64 a, .int .i64 b, .int .i64 c, .int .i64 p, .int .i64 q, .int .i64 r]] w fun e w' => e = .returned (.bool true) ∧ Below w.heap.size w w' := by
  by_cases hw : 0 ≤ t ∧ t < 12622780800
  case neg => exact stamps_out t a b c p q r w (by omega)
  obtain ⟨h1, h2⟩ := hw
  obtain ⟨y, m, d, h⟩ := exists_date (t / 86400)
  have hy := date_win h (by omega) (by omega)
  have y1 : 0 ≤ y := by omega
  have y2 : y ≤ 9999 := by omega
  have em : t % 86400 / 60 % 60 = t % 3600 / 60 := by omega
  refine stamps_in t a b c p q r y m d (t % 86400 / 3600) (t % 3600 / 60) (t % 60) _ _ w h1 h2 (fun w => ?_) (fun w => rstamp_yes t y m d _ _ _ w h1 h2 h y1 y2 rfl rfl rfl) (fun w => long_any t y m d _ _ _ w h1 h2 h y1 y2 rfl em rfl) (fun w => rlong_any t y m d _ _ _ w h1 h2 h y1 y2 rfl rfl rfl) (fun w => basic_any t y m d _ _ _ w h1 h2 h y1 y2 rfl em rfl) (fun w => rbasic_any t y m d _ _ _ w h1 h2 h y1 y2 rfl rfl rfl)
  have := stamp_yes t y m d w h1 h2 h y1 y2
  unfold stampV at this
  rwa [em] at this
end Go.Proofs.Ytjhaekbehnkecaa
