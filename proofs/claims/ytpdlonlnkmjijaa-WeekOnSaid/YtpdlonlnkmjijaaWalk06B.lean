/- The walk of the statement WeekOn of layer 6. -/
import Derived.Test.YtpdlonlnkmjijaaWalk06
namespace Go.Proofs.Ytpdlonlnkmjijaa
open Go.RowKit Civ

theorem wf_u32 {a : Int} (h : (Lit.int .u32 a).wf = true) : 0 ≤ a ∧ a ≤ 4294967295 := by
  simp only [Lit.wf, Bool.and_eq_true, decide_eq_true_eq] at h
  exact h
theorem shapeV_of {n y m d b W im om iy oy : Int} (h1 : len y m - d + 1 = b) (h2 : wd n = W) (h3 : (d - 1) / 7 + 1 = im) (h4 : (len y m - d) / 7 + 1 = om) (h5 : (cum y m + d - 1) / 7 + 1 = iy) (h6 : (365 + lp y - (cum y m + d)) / 7 + 1 = oy) :
    shapeV n y m d = .agg #[.int .i64 n, .int .i64 y, .int .i64 m, .int .i64 d, .int .i64 b, .int .i64 W, .int .i64 im, .int .i64 om, .int .i64 iy, .int .i64 oy] := by
  subst h1 h2 h3 h4 h5 h6; rfl
theorem shape_var (n y m d : Int) (h : IsDate n y m d) : ∃ b im om iy oy : Int, shapeV n y m d = .agg #[.int .i64 n, .int .i64 y, .int .i64 m, .int .i64 d, .int .i64 b, .int .i64 (wd n), .int .i64 im, .int .i64 om, .int .i64 iy, .int .i64 oy]
    ∧ len y m - d + 1 = b ∧ (d - 1) / 7 + 1 = im ∧ (len y m - d) / 7 + 1 = om ∧ (cum y m + d - 1) / 7 + 1 = iy ∧ (365 + lp y - (cum y m + d)) / 7 + 1 = oy ∧ 1 ≤ im ∧ im ≤ 5 ∧ 1 ≤ om ∧ om ≤ 5 ∧ 5 ≤ im + om ∧ im + om ≤ 6 ∧ 1 ≤ iy ∧ iy ≤ 53 ∧ 1 ≤ oy ∧ oy ≤ 53 ∧ 53 ≤ iy + oy ∧ iy + oy ≤ 54 := by
  obtain ⟨h1, h2, h3, h4, h5⟩ := h
  obtain ⟨c1, c2⟩ := len_bd y m h1 h2
  obtain ⟨c3, c4⟩ := cum_bd y m h1 h2
  obtain ⟨c5, c6⟩ := lp_01 y
  exact ⟨_, _, _, _, _, shapeV_of rfl rfl rfl rfl rfl rfl, rfl, rfl, rfl, rfl, rfl, by omega, by omega, by omega, by omega, by omega, by omega, by omega, by omega, by omega, by omega, by omega, by omega⟩
theorem below_step {w w1 w2 : World} {o : Obj} (h : Below w.heap.size w w1) (h2 : Below (w1.alloc o).heap.size (w1.alloc o) w2) : Below w.heap.size w w2 :=
  (h.alloc h.size o).trans (h2.mono (by have := h.size; simp; omega))
set_option maxRecDepth 100000 in
set_option maxHeartbeats 1600000 in
theorem weekOn_walk (n0 : Int) (w : World) (wa : (Lit.int .u32 n0).wf = true) :
    Calls Try.prog 8 #[.int .u32 n0] w fun e w' => e = .returned (.bool true) ∧ Below w.heap.size w w' := by
  obtain ⟨hn1, hn2⟩ := wf_u32 wa
  clear wa
  obtain ⟨k, hk⟩ : ∃ k, n0 % 146080 = k := ⟨_, rfl⟩
  have hk1 : 0 ≤ k := by omega
  have hk2 : k < 146080 := by omega
  obtain ⟨y, m, d, h⟩ := exists_date k
  obtain ⟨y3, m3, d3, h3⟩ := exists_date (k + 1)
  obtain ⟨b, im, om, iy, oy, hsh, e0, e1, e2, e3, e4, q1, q2, q3, q4, q5, q6, q7, q8, q9, q10, q11, q12⟩ := shape_var k y m d h
  obtain ⟨b3, im3, om3, iy3, oy3, hsh3, -⟩ := shape_var (k + 1) y3 m3 d3 h3
  have hw1 : wd (k + 1) = wd k % 7 + 1 := by unfold wd; omega
  have hw7 : wd (k + 7) = wd k := by unfold wd; omega
  have hwn : wn (k + 7) = wn k + 1 := by unfold wn; split <;> split <;> omega
  have hwd1 : 1 ≤ wd k := by unfold wd; omega
  have hwd2 : wd k ≤ 7 := by unfold wd; omega
  have hwn1 : 0 ≤ wn k := by unfold wn; split <;> omega
  have hwn2 : wn k ≤ 30000 := by unfold wn; split <;> omega
  rw [hw1] at hsh3
  have hs1 := fun w => shape_ok k y m d w h (by omega) (by omega)
  have hs3 := fun w => shape_ok (k + 1) y3 m3 d3 w h3 (by omega) (by omega)
  rw [hsh] at hs1
  rw [hsh3] at hs3
  have i1 := i64_of k (by omega) (by omega)
  have i2 := i64_of (k + 7) (by omega) (by omega)
  obtain ⟨h1, h2, hd1, hd2, h5⟩ := id h
  obtain ⟨c1, c2⟩ := len_bd y m h1 h2
  obtain ⟨c3, c4⟩ := cum_bd y m h1 h2
  obtain ⟨c5, c6⟩ := lp_01 y
  by_cases k1 : d + 7 ≤ len y m
  · have hN : IsDate (k + 7) y m (d + 7) := ⟨h1, h2, by omega, k1, by omega⟩
    have hsh2 : shapeV (k + 7) y m (d + 7) = .agg #[.int .i64 (k + 7), .int .i64 y, .int .i64 m, .int .i64 (d + 7), .int .i64 (b - 7), .int .i64 (wd k), .int .i64 (im + 1), .int .i64 (om - 1), .int .i64 (iy + 1), .int .i64 (oy - 1)] := by
      exact shapeV_of (by omega) hw7 (by omega) (by omega) (by omega) (by omega)
    have hs2 := fun w => shape_ok (k + 7) y m (d + 7) w hN (by omega) (by omega)
    rw [hsh2] at hs2
    clear h h3 hN hsh hsh2 hsh3 e0 e1 e2 e3 e4 h5 hw1 hw7
    go_enter Try.func8, Try.ntmps8
    go_wp2_with fail
    refine (hs1 _).mono ?_
    rintro e w1 ⟨rfl, hb1⟩
    go_wp2_with fail
    refine (hs2 _).mono ?_
    rintro e w2 ⟨rfl, hb2⟩
    have hc1 : ∀ i, w2.cell? ⟨w1.heap.size, i, none⟩ = _ := fun i => (hb2.cell (p := ⟨w1.heap.size, i, none⟩) (by simp)).trans (cell_new w1 _ 45 i)
    have hz1 : w1.heap.size < w2.heap.size := by have := hb2.size; simp at this; omega
    go_wp2_with fail
    refine (hs3 _).mono ?_
    rintro e w3 ⟨rfl, hb3⟩
    have hd1 : ∀ i, w3.cell? ⟨w1.heap.size, i, none⟩ = _ := fun i => (hb3.cell (p := ⟨w1.heap.size, i, none⟩) (by simp; omega)).trans ((World.cell?_alloc_lt _ _ _ hz1).trans (hc1 i))
    have hd2 : ∀ i, w3.cell? ⟨w2.heap.size, i, none⟩ = _ := fun i => (hb3.cell (p := ⟨w2.heap.size, i, none⟩) (by simp)).trans (cell_new w2 _ 45 i)
    have hz2 : w2.heap.size < w3.heap.size := by have := hb3.size; simp at this; omega
    have hz3 : w1.heap.size < w3.heap.size := by omega
    have ga1 : w3.cell? ⟨w1.heap.size, 1, none⟩ = some (.int .i64 (y)) := hd1 1
    have ga2 : w3.cell? ⟨w1.heap.size, 2, none⟩ = some (.int .i64 (m)) := hd1 2
    have ga5 : w3.cell? ⟨w1.heap.size, 5, none⟩ = some (.int .i64 (wd k)) := hd1 5
    have ga6 : w3.cell? ⟨w1.heap.size, 6, none⟩ = some (.int .i64 (im)) := hd1 6
    have ga7 : w3.cell? ⟨w1.heap.size, 7, none⟩ = some (.int .i64 (om)) := hd1 7
    have ga8 : w3.cell? ⟨w1.heap.size, 8, none⟩ = some (.int .i64 (iy)) := hd1 8
    have ga9 : w3.cell? ⟨w1.heap.size, 9, none⟩ = some (.int .i64 (oy)) := hd1 9
    have gb1 : w3.cell? ⟨w2.heap.size, 1, none⟩ = some (.int .i64 (y)) := hd2 1
    have gb2 : w3.cell? ⟨w2.heap.size, 2, none⟩ = some (.int .i64 (m)) := hd2 2
    have gb5 : w3.cell? ⟨w2.heap.size, 5, none⟩ = some (.int .i64 (wd k)) := hd2 5
    have gb6 : w3.cell? ⟨w2.heap.size, 6, none⟩ = some (.int .i64 (im + 1)) := hd2 6
    have gb7 : w3.cell? ⟨w2.heap.size, 7, none⟩ = some (.int .i64 (om - 1)) := hd2 7
    have gb8 : w3.cell? ⟨w2.heap.size, 8, none⟩ = some (.int .i64 (iy + 1)) := hd2 8
    have gb9 : w3.cell? ⟨w2.heap.size, 9, none⟩ = some (.int .i64 (oy - 1)) := hd2 9
    clear hd1 hd2 hc1
    go_wp2_with (first | (go_at_call 33; refine (wnum_any _ _ (by assumption)).mono ?_; rintro e w' ⟨rfl, rfl⟩) | (go_at_call 35; refine (lives06_any _).mono ?_; rintro e w4 ⟨rfl, hb4⟩))
    go_ret
    exact ⟨rfl, below_step (below_step (below_step hb1 hb2) hb3) hb4⟩
  · have hs := cum_succ y m h1 h2
    by_cases k2 : m < 12
    · obtain ⟨e3', e4'⟩ := len_bd y (m + 1) (by omega) (by omega)
      have hN : IsDate (k + 7) y (m + 1) (d + 7 - len y m) := ⟨by omega, by omega, by omega, by omega, by omega⟩
      obtain ⟨b2, im2, om2, iy2, oy2, hsh2, f0, f1, f2, f3, f4, -⟩ := shape_var (k + 7) y (m + 1) (d + 7 - len y m) hN
      rw [hw7, show im2 = 1 by omega, show iy2 = iy + 1 by omega, show oy2 = oy - 1 by omega] at hsh2
      have ho1 : om = 1 := by omega
      have hmm : (m == m + 1) = false := by rw [beq_eq_false_iff_ne]; omega
      have hmn : (m != m + 1) = true := by rw [bne_iff_ne]; omega
      have hs2 := fun w => shape_ok (k + 7) y (m + 1) (d + 7 - len y m) w hN (by omega) (by omega)
      rw [hsh2] at hs2
      subst ho1
      clear h h3 hN hsh hsh2 hsh3 e0 e1 e2 e3 e4 h5 hw1 hw7 hs f0 f1 f2 f3 f4
      go_enter Try.func8, Try.ntmps8
      go_wp2_with fail
      refine (hs1 _).mono ?_
      rintro e w1 ⟨rfl, hb1⟩
      go_wp2_with fail
      refine (hs2 _).mono ?_
      rintro e w2 ⟨rfl, hb2⟩
      have hc1 : ∀ i, w2.cell? ⟨w1.heap.size, i, none⟩ = _ := fun i => (hb2.cell (p := ⟨w1.heap.size, i, none⟩) (by simp)).trans (cell_new w1 _ 45 i)
      have hz1 : w1.heap.size < w2.heap.size := by have := hb2.size; simp at this; omega
      go_wp2_with fail
      refine (hs3 _).mono ?_
      rintro e w3 ⟨rfl, hb3⟩
      have hd1 : ∀ i, w3.cell? ⟨w1.heap.size, i, none⟩ = _ := fun i => (hb3.cell (p := ⟨w1.heap.size, i, none⟩) (by simp; omega)).trans ((World.cell?_alloc_lt _ _ _ hz1).trans (hc1 i))
      have hd2 : ∀ i, w3.cell? ⟨w2.heap.size, i, none⟩ = _ := fun i => (hb3.cell (p := ⟨w2.heap.size, i, none⟩) (by simp)).trans (cell_new w2 _ 45 i)
      have hz2 : w2.heap.size < w3.heap.size := by have := hb3.size; simp at this; omega
      have hz3 : w1.heap.size < w3.heap.size := by omega
      have ga1 : w3.cell? ⟨w1.heap.size, 1, none⟩ = some (.int .i64 (y)) := hd1 1
      have ga2 : w3.cell? ⟨w1.heap.size, 2, none⟩ = some (.int .i64 (m)) := hd1 2
      have ga5 : w3.cell? ⟨w1.heap.size, 5, none⟩ = some (.int .i64 (wd k)) := hd1 5
      have ga6 : w3.cell? ⟨w1.heap.size, 6, none⟩ = some (.int .i64 (im)) := hd1 6
      have ga7 : w3.cell? ⟨w1.heap.size, 7, none⟩ = some (.int .i64 1) := hd1 7
      have ga8 : w3.cell? ⟨w1.heap.size, 8, none⟩ = some (.int .i64 (iy)) := hd1 8
      have ga9 : w3.cell? ⟨w1.heap.size, 9, none⟩ = some (.int .i64 (oy)) := hd1 9
      have gb1 : w3.cell? ⟨w2.heap.size, 1, none⟩ = some (.int .i64 (y)) := hd2 1
      have gb2 : w3.cell? ⟨w2.heap.size, 2, none⟩ = some (.int .i64 (m + 1)) := hd2 2
      have gb5 : w3.cell? ⟨w2.heap.size, 5, none⟩ = some (.int .i64 (wd k)) := hd2 5
      have gb6 : w3.cell? ⟨w2.heap.size, 6, none⟩ = some (.int .i64 (1)) := hd2 6
      have gb7 : w3.cell? ⟨w2.heap.size, 7, none⟩ = some (.int .i64 (om2)) := hd2 7
      have gb8 : w3.cell? ⟨w2.heap.size, 8, none⟩ = some (.int .i64 (iy + 1)) := hd2 8
      have gb9 : w3.cell? ⟨w2.heap.size, 9, none⟩ = some (.int .i64 (oy - 1)) := hd2 9
      clear hd1 hd2 hc1
      go_wp2_with (first | (go_at_call 33; refine (wnum_any _ _ (by assumption)).mono ?_; rintro e w' ⟨rfl, rfl⟩) | (go_at_call 35; refine (lives06_any _).mono ?_; rintro e w4 ⟨rfl, hb4⟩))
      go_ret
      exact ⟨rfl, below_step (below_step (below_step hb1 hb2) hb3) hb4⟩
    · have hm : m = 12 := by omega
      subst hm
      have hce := cum_end y
      rw [show (12 : Int) + 1 = 13 by decide] at hs
      have hss := startI_succ y
      have hl31 : len y 12 = 31 := by simp [len]
      obtain ⟨e3', e4'⟩ := len_bd (y + 1) 1 (by omega) (by omega)
      have hN : IsDate (k + 7) (y + 1) 1 (d + 7 - 31) := ⟨by omega, by omega, by omega, by omega, by rw [cum_one]; omega⟩
      obtain ⟨b2, im2, om2, iy2, oy2, hsh2, f0, f1, f2, f3, f4, -⟩ := shape_var (k + 7) (y + 1) 1 (d + 7 - 31) hN
      rw [cum_one] at f3
      rw [hw7, show im2 = 1 by omega, show iy2 = 1 by omega] at hsh2
      have ho1 : om = 1 := by omega
      have ho2 : oy = 1 := by omega
      have hyy : (y == y + 1) = false := by rw [beq_eq_false_iff_ne]; omega
      have hyn : (y != y + 1) = true := by rw [bne_iff_ne]; omega
      have hs2 := fun w => shape_ok (k + 7) (y + 1) 1 (d + 7 - 31) w hN (by omega) (by omega)
      rw [hsh2] at hs2
      subst ho1 ho2
      clear h h3 hN hsh hsh2 hsh3 e0 e1 e2 e3 e4 h5 hw1 hw7 hs f0 f1 f2 f3 f4 hce hss
      go_enter Try.func8, Try.ntmps8
      go_wp2_with fail
      refine (hs1 _).mono ?_
      rintro e w1 ⟨rfl, hb1⟩
      go_wp2_with fail
      refine (hs2 _).mono ?_
      rintro e w2 ⟨rfl, hb2⟩
      have hc1 : ∀ i, w2.cell? ⟨w1.heap.size, i, none⟩ = _ := fun i => (hb2.cell (p := ⟨w1.heap.size, i, none⟩) (by simp)).trans (cell_new w1 _ 45 i)
      have hz1 : w1.heap.size < w2.heap.size := by have := hb2.size; simp at this; omega
      go_wp2_with fail
      refine (hs3 _).mono ?_
      rintro e w3 ⟨rfl, hb3⟩
      have hd1 : ∀ i, w3.cell? ⟨w1.heap.size, i, none⟩ = _ := fun i => (hb3.cell (p := ⟨w1.heap.size, i, none⟩) (by simp; omega)).trans ((World.cell?_alloc_lt _ _ _ hz1).trans (hc1 i))
      have hd2 : ∀ i, w3.cell? ⟨w2.heap.size, i, none⟩ = _ := fun i => (hb3.cell (p := ⟨w2.heap.size, i, none⟩) (by simp)).trans (cell_new w2 _ 45 i)
      have hz2 : w2.heap.size < w3.heap.size := by have := hb3.size; simp at this; omega
      have hz3 : w1.heap.size < w3.heap.size := by omega
      have ga1 : w3.cell? ⟨w1.heap.size, 1, none⟩ = some (.int .i64 (y)) := hd1 1
      have ga2 : w3.cell? ⟨w1.heap.size, 2, none⟩ = some (.int .i64 12) := hd1 2
      have ga5 : w3.cell? ⟨w1.heap.size, 5, none⟩ = some (.int .i64 (wd k)) := hd1 5
      have ga6 : w3.cell? ⟨w1.heap.size, 6, none⟩ = some (.int .i64 (im)) := hd1 6
      have ga7 : w3.cell? ⟨w1.heap.size, 7, none⟩ = some (.int .i64 1) := hd1 7
      have ga8 : w3.cell? ⟨w1.heap.size, 8, none⟩ = some (.int .i64 (iy)) := hd1 8
      have ga9 : w3.cell? ⟨w1.heap.size, 9, none⟩ = some (.int .i64 1) := hd1 9
      have gb1 : w3.cell? ⟨w2.heap.size, 1, none⟩ = some (.int .i64 (y + 1)) := hd2 1
      have gb2 : w3.cell? ⟨w2.heap.size, 2, none⟩ = some (.int .i64 (1)) := hd2 2
      have gb5 : w3.cell? ⟨w2.heap.size, 5, none⟩ = some (.int .i64 (wd k)) := hd2 5
      have gb6 : w3.cell? ⟨w2.heap.size, 6, none⟩ = some (.int .i64 (1)) := hd2 6
      have gb7 : w3.cell? ⟨w2.heap.size, 7, none⟩ = some (.int .i64 (om2)) := hd2 7
      have gb8 : w3.cell? ⟨w2.heap.size, 8, none⟩ = some (.int .i64 (1)) := hd2 8
      have gb9 : w3.cell? ⟨w2.heap.size, 9, none⟩ = some (.int .i64 (oy2)) := hd2 9
      clear hd1 hd2 hc1
      go_wp2_with (first | (go_at_call 33; refine (wnum_any _ _ (by assumption)).mono ?_; rintro e w' ⟨rfl, rfl⟩) | (go_at_call 35; refine (lives06_any _).mono ?_; rintro e w4 ⟨rfl, hb4⟩))
      go_ret
      exact ⟨rfl, below_step (below_step (below_step hb1 hb2) hb3) hb4⟩
end Go.Proofs.Ytpdlonlnkmjijaa
