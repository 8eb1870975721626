/- The walk of the statement SpanTells of layer 9, and of lives. -/
import Derived.Test.YtpdlonlnkmjijaaSpanC
namespace Go.Proofs.Ytpdlonlnkmjijaa
open Go.RowKit

theorem below_step {w w1 w2 : World} {o : Obj} (h : Below w.heap.size w w1) (h2 : Below (w1.alloc o).heap.size (w1.alloc o) w2) : Below w.heap.size w w2 :=
  (h.alloc h.size o).trans (h2.mono (by have := h.size; simp; omega))
theorem keep4 {W0 w1 w2 : World} {p q r s : Addr} {a b c d : Value} (hp : p.block < W0.heap.size) (hq : q.block < W0.heap.size) (hr : r.block < W0.heap.size) (hs : s.block < W0.heap.size)
    (hb : Below w1.heap.size w1 w2) (h : Below W0.heap.size W0 w1 ∧ w1.cell? p = some a ∧ w1.cell? q = some b ∧ w1.cell? r = some c ∧ w1.cell? s = some d) :
    Below W0.heap.size W0 w2 ∧ w2.cell? p = some a ∧ w2.cell? q = some b ∧ w2.cell? r = some c ∧ w2.cell? s = some d := by
  obtain ⟨h0, h1, h2, h3, h4⟩ := h
  have h5 := below_cut h0 hb
  have hz := h0.size
  exact ⟨h5, (hb.cell (by omega)).trans h1, (hb.cell (by omega)).trans h2, (hb.cell (by omega)).trans h3, (hb.cell (by omega)).trans h4⟩
theorem days_live (w : World) : Calls Try.prog 63 #[.agg #[.int .i64 86399, .int .i64 86400]] w fun e w' => e = .returned (.tuple #[.int .i64 0, .int .i64 1, .bool true]) ∧ Below w.heap.size w w' := by
  have hs : ∀ w, Calls Try.prog 45 #[.agg #[.int .i64 86399, .int .i64 86400]] w fun e w' => e = .returned (.agg #[.int .i64 86399, .int .i64 86400]) ∧ Below w.heap.size w w' := fun w => sheld_any 86399 86400 w
  have h1 : ∀ w, Calls Try.prog 38 #[.int .i64 86399] w fun e w' => e = .returned (.tuple #[.int .i64 0, .int .i64 86399, .bool true]) ∧ w = w' := fun w => split_yes 86399 w (by omega) (by omega)
  have h2 : ∀ w, Calls Try.prog 38 #[.int .i64 86400] w fun e w' => e = .returned (.tuple #[.int .i64 1, .int .i64 0, .bool true]) ∧ w = w' := fun w => split_yes 86400 w (by omega) (by omega)
  go_enter Try.func63, Try.ntmps63
  go_wp2_with (first | (go_at_call 45; refine (hs _).mono ?_; rintro e w1 ⟨rfl, hb⟩) | (go_at_call 38; ((with_reducible refine (h1 _).mono ?_); rintro e w' ⟨rfl, rfl⟩)) | (go_at_call 38; ((with_reducible refine (h2 _).mono ?_); rintro e w' ⟨rfl, rfl⟩)))
  go_ret3
  exact ⟨rfl, ((below_a1 w _).trans (hb.mono (by simp))).alloc (by have := hb.size; simp at this; omega) _⟩
theorem spans_live (w : World) (g : Nat) (hg : g = w.heap.size) : Spans (w.alloc (.cells #[.int .i64 5, .int .i64 9, .int .i64 7, .int .i64 20] 56)) (some ⟨g, 0, none⟩) [(5, 9), (7, 20)] := by
  subst hg
  intro j hj
  refine ⟨w.heap.size, 0, rfl, by simp, ?_⟩
  match j, hj with
  | 0, _ => exact ⟨cell_new w _ 56 0, cell_new w _ 56 1⟩
  | 1, _ => exact ⟨cell_new w _ 56 2, cell_new w _ 56 3⟩
theorem lives09_any (w : World) : Calls Try.prog 51 #[] w fun e w' => e = .returned (.bool true) ∧ Below w.heap.size w w' := by
  have hm : ∀ A c w, Spans w A [(5, 9), (7, 20)] → Calls Try.prog 52 #[.slice A 2 c] w fun e w' => e = .returned (.agg #[.int .i64 7, .int .i64 9]) ∧ Below w.heap.size w w' := fun A c w h => meet_any A 2 c _ w rfl (by simp) h
  go_enter Try.func51, Try.ntmps51
  go_wp2_with fail
  refine (days_live _).mono ?_
  rintro e w1 ⟨rfl, hb⟩
  go_wp2_with fail
  refine (hm _ _ _ (spans_live _ _ (by simp))).mono ?_
  rintro e w2 ⟨rfl, hb2⟩
  go_wp2
  go_ret
  exact ⟨rfl, below_step hb hb2⟩
theorem whole_b (w : World) : Calls Try.prog 50 #[] w fun e w' => e = .returned (.agg #[.int .i64 0, .int .i64 12622780799]) ∧ Below w.heap.size w w' :=
  (whole_any w).mono fun _ _ ⟨h, h'⟩ => ⟨h, by rw [← h']; exact below_a1 _ _⟩
set_option maxHeartbeats 1600000 in
theorem spanTells_walk (f u t : Int) (w : World) :
    Calls Try.prog 12 #[.agg #[.int .i64 f, .int .i64 u], .int .i64 t] w fun e w' => e = .returned (.bool true) ∧ Below w.heap.size w w' := by
  have hr := fun w => rheld_any f u w
  have hs := fun w => sheld_any f u w
  rcases held_cases f u with h | ⟨a, b, h, h0, hab, hb2⟩
  · have he := fun w => empty_yes f u w h
    have hl : ∀ w, Calls Try.prog 49 #[.agg #[.int .i64 f, .int .i64 u]] w fun e w' => e = .returned (.int .i64 0) ∧ Below w.heap.size w w' := fun w => len_any f u 0 (-1) w h (by omega) (by omega) (by omega)
    have hss : ∀ w, Calls Try.prog 45 #[.agg #[.int .i64 0, .int .i64 (-1)]] w fun e w' => e = .returned (.agg #[.int .i64 0, .int .i64 (-1)]) ∧ Below w.heap.size w w' := fun w => sheld_any 0 (-1) w
    rw [h] at hr hs
    clear h
    by_cases hin : 0 ≤ t ∧ t ≤ 12622780799 ∧ f ≤ t ∧ t ≤ u
    · have hi1 := fun w => sin_yes f u t w hin
      have hi2 := fun w => rin_yes f u t w hin
      clear hin
      go_enter Try.func12, Try.ntmps12
      go_wp2_with (go_at_call 44; refine (hr _).mono ?_; rintro e w1 ⟨rfl, hb⟩)
      have hz1 : w.heap.size < w1.heap.size := by have := hb.size; simp at this; omega
      have hc0 : w1.cell? ⟨w.heap.size, 0, none⟩ = some (.int .i64 f) := (hb.cell (p := ⟨w.heap.size, 0, none⟩) (by simp)).trans (cell_new w _ 56 0)
      have hc1 : w1.cell? ⟨w.heap.size, 1, none⟩ = some (.int .i64 u) := (hb.cell (p := ⟨w.heap.size, 1, none⟩) (by simp)).trans (cell_new w _ 56 1)
      obtain ⟨W0, hW0⟩ : ∃ W0, w1.alloc (.cells #[.int .i64 0, .int .i64 (-1)] 57) = W0 := ⟨_, rfl⟩
      have hx : w.heap.size < W0.heap.size := by rw [← hW0]; simp; omega
      have hy : w1.heap.size < W0.heap.size := by rw [← hW0]; simp
      have c1 : W0.cell? ⟨w.heap.size, 0, none⟩ = some (.int .i64 f) := by rw [← hW0, World.cell?_alloc_lt _ _ _ hz1]; exact hc0
      have c2 : W0.cell? ⟨w.heap.size, 1, none⟩ = some (.int .i64 u) := by rw [← hW0, World.cell?_alloc_lt _ _ _ hz1]; exact hc1
      have c3 : W0.cell? ⟨w1.heap.size, 0, none⟩ = some (.int .i64 0) := by rw [← hW0, cell_new]; rfl
      have c4 : W0.cell? ⟨w1.heap.size, 1, none⟩ = some (.int .i64 (-1)) := by rw [← hW0, cell_new]; rfl
      have hbW : Below w.heap.size w W0 := by rw [← hW0]; exact (below_step (Below.refl _ _) hb).alloc (by omega) _
      go_wp2
      rw [hW0]
      clear hc0 hc1 hb hz1 hW0
      have B0 := Below.refl W0.heap.size W0
      go_region_held3 (fun w' => Below W0.heap.size W0 w' ∧ w'.cell? ⟨w.heap.size, 0, none⟩ = some (.int .i64 f) ∧ w'.cell? ⟨w.heap.size, 1, none⟩ = some (.int .i64 u) ∧ w'.cell? ⟨w1.heap.size, 0, none⟩ = some (.int .i64 0) ∧ w'.cell? ⟨w1.heap.size, 1, none⟩ = some (.int .i64 (-1))) (first | exact ⟨B0.drew, c1, c2, c3, c4⟩ | exact keep4 hx hx hy hy (by assumption) (by assumption)) (first | (go_at_call 45; refine (hs _).mono ?_; rintro e w2 ⟨rfl, hb⟩) | (go_at_call 46; refine (he _).mono ?_; rintro e w2 ⟨rfl, hb⟩) | (go_at_call 47; refine (hi1 _).mono ?_; rintro e w2 ⟨rfl, hb⟩) | (go_at_call 48; refine (hi2 _).mono ?_; rintro e w2 ⟨rfl, hb⟩) | (go_at_call 49; refine (hl _).mono ?_; rintro e w2 ⟨rfl, hb⟩))
      have hH : Below W0.heap.size W0 w2 ∧ w2.cell? ⟨w.heap.size, 0, none⟩ = some (.int .i64 f) ∧ w2.cell? ⟨w.heap.size, 1, none⟩ = some (.int .i64 u) ∧ w2.cell? ⟨w1.heap.size, 0, none⟩ = some (.int .i64 0) ∧ w2.cell? ⟨w1.heap.size, 1, none⟩ = some (.int .i64 (-1)) := by assumption
      go_wp2
      clear c1 c2 c3 c4 B0
      go_region_held3 (fun w' => Below W0.heap.size W0 w' ∧ w'.cell? ⟨w.heap.size, 0, none⟩ = some (.int .i64 f) ∧ w'.cell? ⟨w.heap.size, 1, none⟩ = some (.int .i64 u) ∧ w'.cell? ⟨w1.heap.size, 0, none⟩ = some (.int .i64 0) ∧ w'.cell? ⟨w1.heap.size, 1, none⟩ = some (.int .i64 (-1))) (first | exact ⟨hH.1.drew, hH.2⟩ | exact keep4 hx hx hy hy (by assumption) (by assumption)) (first | (go_at_call 50; refine (whole_b _).mono ?_; rintro e w3 ⟨rfl, hb⟩) | (go_at_call 45; ((with_reducible refine (hs _).mono ?_); rintro e w3 ⟨rfl, hb⟩)) | (go_at_call 45; ((with_reducible refine (hss _).mono ?_); rintro e w3 ⟨rfl, hb⟩)) | (go_at_call 51; refine (lives09_any _).mono ?_; rintro e w3 ⟨rfl, hb⟩))
      have hH2 : Below W0.heap.size W0 w3 ∧ w3.cell? ⟨w.heap.size, 0, none⟩ = some (.int .i64 f) ∧ w3.cell? ⟨w.heap.size, 1, none⟩ = some (.int .i64 u) ∧ w3.cell? ⟨w1.heap.size, 0, none⟩ = some (.int .i64 0) ∧ w3.cell? ⟨w1.heap.size, 1, none⟩ = some (.int .i64 (-1)) := by assumption
      go_wp2
      go_ret
      exact ⟨rfl, below_cut hbW hH2.1⟩
    · have hi1 := fun w => sin_no f u t w hin
      have hi2 := fun w => rin_no f u t w hin
      clear hin
      go_enter Try.func12, Try.ntmps12
      go_wp2_with (go_at_call 44; refine (hr _).mono ?_; rintro e w1 ⟨rfl, hb⟩)
      have hz1 : w.heap.size < w1.heap.size := by have := hb.size; simp at this; omega
      have hc0 : w1.cell? ⟨w.heap.size, 0, none⟩ = some (.int .i64 f) := (hb.cell (p := ⟨w.heap.size, 0, none⟩) (by simp)).trans (cell_new w _ 56 0)
      have hc1 : w1.cell? ⟨w.heap.size, 1, none⟩ = some (.int .i64 u) := (hb.cell (p := ⟨w.heap.size, 1, none⟩) (by simp)).trans (cell_new w _ 56 1)
      obtain ⟨W0, hW0⟩ : ∃ W0, w1.alloc (.cells #[.int .i64 0, .int .i64 (-1)] 57) = W0 := ⟨_, rfl⟩
      have hx : w.heap.size < W0.heap.size := by rw [← hW0]; simp; omega
      have hy : w1.heap.size < W0.heap.size := by rw [← hW0]; simp
      have c1 : W0.cell? ⟨w.heap.size, 0, none⟩ = some (.int .i64 f) := by rw [← hW0, World.cell?_alloc_lt _ _ _ hz1]; exact hc0
      have c2 : W0.cell? ⟨w.heap.size, 1, none⟩ = some (.int .i64 u) := by rw [← hW0, World.cell?_alloc_lt _ _ _ hz1]; exact hc1
      have c3 : W0.cell? ⟨w1.heap.size, 0, none⟩ = some (.int .i64 0) := by rw [← hW0, cell_new]; rfl
      have c4 : W0.cell? ⟨w1.heap.size, 1, none⟩ = some (.int .i64 (-1)) := by rw [← hW0, cell_new]; rfl
      have hbW : Below w.heap.size w W0 := by rw [← hW0]; exact (below_step (Below.refl _ _) hb).alloc (by omega) _
      go_wp2
      rw [hW0]
      clear hc0 hc1 hb hz1 hW0
      have B0 := Below.refl W0.heap.size W0
      go_region_held3 (fun w' => Below W0.heap.size W0 w' ∧ w'.cell? ⟨w.heap.size, 0, none⟩ = some (.int .i64 f) ∧ w'.cell? ⟨w.heap.size, 1, none⟩ = some (.int .i64 u) ∧ w'.cell? ⟨w1.heap.size, 0, none⟩ = some (.int .i64 0) ∧ w'.cell? ⟨w1.heap.size, 1, none⟩ = some (.int .i64 (-1))) (first | exact ⟨B0.drew, c1, c2, c3, c4⟩ | exact keep4 hx hx hy hy (by assumption) (by assumption)) (first | (go_at_call 45; refine (hs _).mono ?_; rintro e w2 ⟨rfl, hb⟩) | (go_at_call 46; refine (he _).mono ?_; rintro e w2 ⟨rfl, hb⟩) | (go_at_call 47; refine (hi1 _).mono ?_; rintro e w2 ⟨rfl, hb⟩) | (go_at_call 48; refine (hi2 _).mono ?_; rintro e w2 ⟨rfl, hb⟩) | (go_at_call 49; refine (hl _).mono ?_; rintro e w2 ⟨rfl, hb⟩))
      have hH : Below W0.heap.size W0 w2 ∧ w2.cell? ⟨w.heap.size, 0, none⟩ = some (.int .i64 f) ∧ w2.cell? ⟨w.heap.size, 1, none⟩ = some (.int .i64 u) ∧ w2.cell? ⟨w1.heap.size, 0, none⟩ = some (.int .i64 0) ∧ w2.cell? ⟨w1.heap.size, 1, none⟩ = some (.int .i64 (-1)) := by assumption
      go_wp2
      clear c1 c2 c3 c4 B0
      go_region_held3 (fun w' => Below W0.heap.size W0 w' ∧ w'.cell? ⟨w.heap.size, 0, none⟩ = some (.int .i64 f) ∧ w'.cell? ⟨w.heap.size, 1, none⟩ = some (.int .i64 u) ∧ w'.cell? ⟨w1.heap.size, 0, none⟩ = some (.int .i64 0) ∧ w'.cell? ⟨w1.heap.size, 1, none⟩ = some (.int .i64 (-1))) (first | exact ⟨hH.1.drew, hH.2⟩ | exact keep4 hx hx hy hy (by assumption) (by assumption)) (first | (go_at_call 50; refine (whole_b _).mono ?_; rintro e w3 ⟨rfl, hb⟩) | (go_at_call 45; ((with_reducible refine (hs _).mono ?_); rintro e w3 ⟨rfl, hb⟩)) | (go_at_call 45; ((with_reducible refine (hss _).mono ?_); rintro e w3 ⟨rfl, hb⟩)) | (go_at_call 51; refine (lives09_any _).mono ?_; rintro e w3 ⟨rfl, hb⟩))
      have hH2 : Below W0.heap.size W0 w3 ∧ w3.cell? ⟨w.heap.size, 0, none⟩ = some (.int .i64 f) ∧ w3.cell? ⟨w.heap.size, 1, none⟩ = some (.int .i64 u) ∧ w3.cell? ⟨w1.heap.size, 0, none⟩ = some (.int .i64 0) ∧ w3.cell? ⟨w1.heap.size, 1, none⟩ = some (.int .i64 (-1)) := by assumption
      go_wp2
      go_ret
      exact ⟨rfl, below_cut hbW hH2.1⟩
  · have he := fun w => empty_no f u a b w h h0 hab
    have hl := fun w => len_any f u a b w h h0 (by omega) hb2
    have hss : ∀ w, Calls Try.prog 45 #[.agg #[.int .i64 a, .int .i64 b]] w fun e w' => e = .returned (.agg #[.int .i64 a, .int .i64 b]) ∧ Below w.heap.size w w' := by
      intro w
      have h1 := sheld_any a b w
      rwa [show heldV a b = .agg #[.int .i64 a, .int .i64 b] by unfold heldV hF hU; rw [if_neg (by omega), if_neg (by omega), if_neg (by omega)]] at h1
    rw [h] at hr hs
    have hd := dec_f (show ¬ b < a by omega)
    have hw1 : IntKind.i64.wrap (b - a) = b - a := IntWalk.i64_in _ (by omega)
    have hw2 : IntKind.i64.wrap (b - a + 1) = b - a + 1 := IntWalk.i64_in _ (by omega)
    clear h
    by_cases hin : 0 ≤ t ∧ t ≤ 12622780799 ∧ f ≤ t ∧ t ≤ u
    · have hi1 := fun w => sin_yes f u t w hin
      have hi2 := fun w => rin_yes f u t w hin
      clear hin
      go_enter Try.func12, Try.ntmps12
      go_wp2_with (go_at_call 44; refine (hr _).mono ?_; rintro e w1 ⟨rfl, hb⟩)
      have hz1 : w.heap.size < w1.heap.size := by have := hb.size; simp at this; omega
      have hc0 : w1.cell? ⟨w.heap.size, 0, none⟩ = some (.int .i64 f) := (hb.cell (p := ⟨w.heap.size, 0, none⟩) (by simp)).trans (cell_new w _ 56 0)
      have hc1 : w1.cell? ⟨w.heap.size, 1, none⟩ = some (.int .i64 u) := (hb.cell (p := ⟨w.heap.size, 1, none⟩) (by simp)).trans (cell_new w _ 56 1)
      obtain ⟨W0, hW0⟩ : ∃ W0, w1.alloc (.cells #[.int .i64 a, .int .i64 b] 57) = W0 := ⟨_, rfl⟩
      have hx : w.heap.size < W0.heap.size := by rw [← hW0]; simp; omega
      have hy : w1.heap.size < W0.heap.size := by rw [← hW0]; simp
      have c1 : W0.cell? ⟨w.heap.size, 0, none⟩ = some (.int .i64 f) := by rw [← hW0, World.cell?_alloc_lt _ _ _ hz1]; exact hc0
      have c2 : W0.cell? ⟨w.heap.size, 1, none⟩ = some (.int .i64 u) := by rw [← hW0, World.cell?_alloc_lt _ _ _ hz1]; exact hc1
      have c3 : W0.cell? ⟨w1.heap.size, 0, none⟩ = some (.int .i64 a) := by rw [← hW0, cell_new]; rfl
      have c4 : W0.cell? ⟨w1.heap.size, 1, none⟩ = some (.int .i64 b) := by rw [← hW0, cell_new]; rfl
      have hbW : Below w.heap.size w W0 := by rw [← hW0]; exact (below_step (Below.refl _ _) hb).alloc (by omega) _
      go_wp2
      rw [hW0]
      clear hc0 hc1 hb hz1 hW0
      have B0 := Below.refl W0.heap.size W0
      go_region_held3 (fun w' => Below W0.heap.size W0 w' ∧ w'.cell? ⟨w.heap.size, 0, none⟩ = some (.int .i64 f) ∧ w'.cell? ⟨w.heap.size, 1, none⟩ = some (.int .i64 u) ∧ w'.cell? ⟨w1.heap.size, 0, none⟩ = some (.int .i64 a) ∧ w'.cell? ⟨w1.heap.size, 1, none⟩ = some (.int .i64 b)) (first | exact ⟨B0.drew, c1, c2, c3, c4⟩ | exact keep4 hx hx hy hy (by assumption) (by assumption)) (first | (go_at_call 45; refine (hs _).mono ?_; rintro e w2 ⟨rfl, hb⟩) | (go_at_call 46; refine (he _).mono ?_; rintro e w2 ⟨rfl, hb⟩) | (go_at_call 47; refine (hi1 _).mono ?_; rintro e w2 ⟨rfl, hb⟩) | (go_at_call 48; refine (hi2 _).mono ?_; rintro e w2 ⟨rfl, hb⟩) | (go_at_call 49; refine (hl _).mono ?_; rintro e w2 ⟨rfl, hb⟩))
      have hH : Below W0.heap.size W0 w2 ∧ w2.cell? ⟨w.heap.size, 0, none⟩ = some (.int .i64 f) ∧ w2.cell? ⟨w.heap.size, 1, none⟩ = some (.int .i64 u) ∧ w2.cell? ⟨w1.heap.size, 0, none⟩ = some (.int .i64 a) ∧ w2.cell? ⟨w1.heap.size, 1, none⟩ = some (.int .i64 b) := by assumption
      go_wp2
      clear c1 c2 c3 c4 B0
      go_region_held3 (fun w' => Below W0.heap.size W0 w' ∧ w'.cell? ⟨w.heap.size, 0, none⟩ = some (.int .i64 f) ∧ w'.cell? ⟨w.heap.size, 1, none⟩ = some (.int .i64 u) ∧ w'.cell? ⟨w1.heap.size, 0, none⟩ = some (.int .i64 a) ∧ w'.cell? ⟨w1.heap.size, 1, none⟩ = some (.int .i64 b)) (first | exact ⟨hH.1.drew, hH.2⟩ | exact keep4 hx hx hy hy (by assumption) (by assumption)) (first | (go_at_call 50; refine (whole_b _).mono ?_; rintro e w3 ⟨rfl, hb⟩) | (go_at_call 45; ((with_reducible refine (hs _).mono ?_); rintro e w3 ⟨rfl, hb⟩)) | (go_at_call 45; ((with_reducible refine (hss _).mono ?_); rintro e w3 ⟨rfl, hb⟩)) | (go_at_call 51; refine (lives09_any _).mono ?_; rintro e w3 ⟨rfl, hb⟩))
      have hH2 : Below W0.heap.size W0 w3 ∧ w3.cell? ⟨w.heap.size, 0, none⟩ = some (.int .i64 f) ∧ w3.cell? ⟨w.heap.size, 1, none⟩ = some (.int .i64 u) ∧ w3.cell? ⟨w1.heap.size, 0, none⟩ = some (.int .i64 a) ∧ w3.cell? ⟨w1.heap.size, 1, none⟩ = some (.int .i64 b) := by assumption
      go_wp2
      go_ret
      exact ⟨rfl, below_cut hbW hH2.1⟩
    · have hi1 := fun w => sin_no f u t w hin
      have hi2 := fun w => rin_no f u t w hin
      clear hin
      go_enter Try.func12, Try.ntmps12
      go_wp2_with (go_at_call 44; refine (hr _).mono ?_; rintro e w1 ⟨rfl, hb⟩)
      have hz1 : w.heap.size < w1.heap.size := by have := hb.size; simp at this; omega
      have hc0 : w1.cell? ⟨w.heap.size, 0, none⟩ = some (.int .i64 f) := (hb.cell (p := ⟨w.heap.size, 0, none⟩) (by simp)).trans (cell_new w _ 56 0)
      have hc1 : w1.cell? ⟨w.heap.size, 1, none⟩ = some (.int .i64 u) := (hb.cell (p := ⟨w.heap.size, 1, none⟩) (by simp)).trans (cell_new w _ 56 1)
      obtain ⟨W0, hW0⟩ : ∃ W0, w1.alloc (.cells #[.int .i64 a, .int .i64 b] 57) = W0 := ⟨_, rfl⟩
      have hx : w.heap.size < W0.heap.size := by rw [← hW0]; simp; omega
      have hy : w1.heap.size < W0.heap.size := by rw [← hW0]; simp
      have c1 : W0.cell? ⟨w.heap.size, 0, none⟩ = some (.int .i64 f) := by rw [← hW0, World.cell?_alloc_lt _ _ _ hz1]; exact hc0
      have c2 : W0.cell? ⟨w.heap.size, 1, none⟩ = some (.int .i64 u) := by rw [← hW0, World.cell?_alloc_lt _ _ _ hz1]; exact hc1
      have c3 : W0.cell? ⟨w1.heap.size, 0, none⟩ = some (.int .i64 a) := by rw [← hW0, cell_new]; rfl
      have c4 : W0.cell? ⟨w1.heap.size, 1, none⟩ = some (.int .i64 b) := by rw [← hW0, cell_new]; rfl
      have hbW : Below w.heap.size w W0 := by rw [← hW0]; exact (below_step (Below.refl _ _) hb).alloc (by omega) _
      go_wp2
      rw [hW0]
      clear hc0 hc1 hb hz1 hW0
      have B0 := Below.refl W0.heap.size W0
      go_region_held3 (fun w' => Below W0.heap.size W0 w' ∧ w'.cell? ⟨w.heap.size, 0, none⟩ = some (.int .i64 f) ∧ w'.cell? ⟨w.heap.size, 1, none⟩ = some (.int .i64 u) ∧ w'.cell? ⟨w1.heap.size, 0, none⟩ = some (.int .i64 a) ∧ w'.cell? ⟨w1.heap.size, 1, none⟩ = some (.int .i64 b)) (first | exact ⟨B0.drew, c1, c2, c3, c4⟩ | exact keep4 hx hx hy hy (by assumption) (by assumption)) (first | (go_at_call 45; refine (hs _).mono ?_; rintro e w2 ⟨rfl, hb⟩) | (go_at_call 46; refine (he _).mono ?_; rintro e w2 ⟨rfl, hb⟩) | (go_at_call 47; refine (hi1 _).mono ?_; rintro e w2 ⟨rfl, hb⟩) | (go_at_call 48; refine (hi2 _).mono ?_; rintro e w2 ⟨rfl, hb⟩) | (go_at_call 49; refine (hl _).mono ?_; rintro e w2 ⟨rfl, hb⟩))
      have hH : Below W0.heap.size W0 w2 ∧ w2.cell? ⟨w.heap.size, 0, none⟩ = some (.int .i64 f) ∧ w2.cell? ⟨w.heap.size, 1, none⟩ = some (.int .i64 u) ∧ w2.cell? ⟨w1.heap.size, 0, none⟩ = some (.int .i64 a) ∧ w2.cell? ⟨w1.heap.size, 1, none⟩ = some (.int .i64 b) := by assumption
      go_wp2
      clear c1 c2 c3 c4 B0
      go_region_held3 (fun w' => Below W0.heap.size W0 w' ∧ w'.cell? ⟨w.heap.size, 0, none⟩ = some (.int .i64 f) ∧ w'.cell? ⟨w.heap.size, 1, none⟩ = some (.int .i64 u) ∧ w'.cell? ⟨w1.heap.size, 0, none⟩ = some (.int .i64 a) ∧ w'.cell? ⟨w1.heap.size, 1, none⟩ = some (.int .i64 b)) (first | exact ⟨hH.1.drew, hH.2⟩ | exact keep4 hx hx hy hy (by assumption) (by assumption)) (first | (go_at_call 50; refine (whole_b _).mono ?_; rintro e w3 ⟨rfl, hb⟩) | (go_at_call 45; ((with_reducible refine (hs _).mono ?_); rintro e w3 ⟨rfl, hb⟩)) | (go_at_call 45; ((with_reducible refine (hss _).mono ?_); rintro e w3 ⟨rfl, hb⟩)) | (go_at_call 51; refine (lives09_any _).mono ?_; rintro e w3 ⟨rfl, hb⟩))
      have hH2 : Below W0.heap.size W0 w3 ∧ w3.cell? ⟨w.heap.size, 0, none⟩ = some (.int .i64 f) ∧ w3.cell? ⟨w.heap.size, 1, none⟩ = some (.int .i64 u) ∧ w3.cell? ⟨w1.heap.size, 0, none⟩ = some (.int .i64 a) ∧ w3.cell? ⟨w1.heap.size, 1, none⟩ = some (.int .i64 b) := by assumption
      go_wp2
      go_ret
      exact ⟨rfl, below_cut hbW hH2.1⟩
end Go.Proofs.Ytpdlonlnkmjijaa
