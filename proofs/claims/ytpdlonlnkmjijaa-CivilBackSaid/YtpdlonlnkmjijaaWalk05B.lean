/- The walks of the statements of layer 5: CivilBack, CivilEra. -/
import Derived.Test.YtpdlonlnkmjijaaWalk05
namespace Go.Proofs.Ytpdlonlnkmjijaa
open Go.RowKit Civ

theorem wf_i16 {a : Int} (h : (Lit.int .i16 a).wf = true) : -32768 ≤ a ∧ a ≤ 32767 := by
  simp only [Lit.wf, Bool.and_eq_true, decide_eq_true_eq] at h
  exact h
theorem year_near {n y m d : Int} (h : IsDate n y m d) (h1 : -330000000000 ≤ n) (h2 : n ≤ 330000000000) : -1000000000 ≤ y ∧ y ≤ 1000000000 := by
  obtain ⟨a, b⟩ := h.year
  have c := startI_mono (y + 1) (-1000000000)
  have e := startI_mono 1000000001 y
  have f : startI (-1000000000) ≤ -365000000000 := by unfold startI aheadI; omega
  have g : 365000000000 ≤ startI 1000000001 := by unfold startI aheadI; omega
  omega
theorem civilBack_walk (n : Int) (w : World) (wa : (Lit.int .i64 n).wf = true) :
    Calls Try.prog 5 #[.int .i64 n] w fun e w' => e = .returned (.bool true) ∧ Below w.heap.size w w' := by
  have hn := wf_i64 wa
  clear wa
  by_cases hb1 : 300000000000 < n
  · go_enter Try.func5, Try.ntmps5
    go_wp2_with (go_at_call 21; refine (lives05_any _).mono ?_; rintro e w' ⟨rfl, rfl⟩)
    go_ret
    exact ⟨rfl, Below.refl _ _⟩
  by_cases hb2 : n < -300000000000
  · go_enter Try.func5, Try.ntmps5
    go_wp2_with (go_at_call 21; refine (lives05_any _).mono ?_; rintro e w' ⟨rfl, rfl⟩)
    go_ret
    exact ⟨rfl, Below.refl _ _⟩
  have hlo : -300000000000 ≤ n := by omega
  have hhi : n ≤ 300000000000 := by omega
  obtain ⟨y, m, d, h⟩ := exists_date n
  obtain ⟨hy1, hy2⟩ := year_near h (by omega) (by omega)
  have hd1 := fun w => date_ok n y m d w h hy1 hy2
  obtain ⟨h1, h2, h3, h4, h5⟩ := id h
  have hc := fun w => number_ok y m d w hy1 hy2 h1 h2 h3 h4
  obtain ⟨c3, c4⟩ := len_bd y m h1 h2
  rw [h5] at hc
  by_cases k1 : d < len y m
  · have hN : IsDate (n + 1) y m (d + 1) := ⟨h1, h2, by omega, by omega, by omega⟩
    have hd2 := fun w => date_ok (n + 1) y m (d + 1) w hN hy1 hy2
    clear h hN h5 hb1 hb2 hn
    go_enter Try.func5, Try.ntmps5
    go_wp2_with fail
    refine (hd1 _).mono ?_
    rintro e w' ⟨rfl, rfl⟩
    go_wp2_with fail
    refine (hd2 _).mono ?_
    rintro e w' ⟨rfl, rfl⟩
    go_wp2_with (first | (go_at_call 14; refine (hc _).mono ?_; rintro e w' ⟨rfl, rfl⟩) | (go_at_call 18; refine (length_any _ _ _).mono ?_; rintro e w' ⟨rfl, rfl⟩) | (go_at_call 21; refine (lives05_any _).mono ?_; rintro e w' ⟨rfl, rfl⟩))
    go_ret
    exact ⟨rfl, Below.refl _ _⟩
  · have hs := cum_succ y m h1 h2
    by_cases k2 : m < 12
    · obtain ⟨e3, e4⟩ := len_bd y (m + 1) (by omega) (by omega)
      have hN : IsDate (n + 1) y (m + 1) 1 := ⟨by omega, by omega, by omega, by omega, by omega⟩
      have hd2 := fun w => date_ok (n + 1) y (m + 1) 1 w hN hy1 hy2
      clear h hN h5 hb1 hb2 hn hs
      go_enter Try.func5, Try.ntmps5
      go_wp2_with fail
      refine (hd1 _).mono ?_
      rintro e w' ⟨rfl, rfl⟩
      go_wp2_with fail
      refine (hd2 _).mono ?_
      rintro e w' ⟨rfl, rfl⟩
      go_wp2_with (first | (go_at_call 14; refine (hc _).mono ?_; rintro e w' ⟨rfl, rfl⟩) | (go_at_call 18; refine (length_any _ _ _).mono ?_; rintro e w' ⟨rfl, rfl⟩) | (go_at_call 21; refine (lives05_any _).mono ?_; rintro e w' ⟨rfl, rfl⟩))
      go_ret
      exact ⟨rfl, Below.refl _ _⟩
    · have hm : m = 12 := by omega
      subst hm
      have hce := cum_end y
      rw [show (12 : Int) + 1 = 13 by decide] at hs
      have hss := startI_succ y
      obtain ⟨e3, e4⟩ := len_bd (y + 1) 1 (by omega) (by omega)
      have hN : IsDate (n + 1) (y + 1) 1 1 := ⟨by omega, by omega, by omega, by omega, by rw [cum_one]; omega⟩
      obtain ⟨hz1, hz2⟩ := year_near hN (by omega) (by omega)
      have hd2 := fun w => date_ok (n + 1) (y + 1) 1 1 w hN hz1 hz2
      clear h hN h5 hb1 hb2 hn hs hce hss
      go_enter Try.func5, Try.ntmps5
      go_wp2_with fail
      refine (hd1 _).mono ?_
      rintro e w' ⟨rfl, rfl⟩
      go_wp2_with fail
      refine (hd2 _).mono ?_
      rintro e w' ⟨rfl, rfl⟩
      go_wp2_with (first | (go_at_call 14; refine (hc _).mono ?_; rintro e w' ⟨rfl, rfl⟩) | (go_at_call 18; refine (length_any _ _ _).mono ?_; rintro e w' ⟨rfl, rfl⟩) | (go_at_call 21; refine (lives05_any _).mono ?_; rintro e w' ⟨rfl, rfl⟩))
      go_ret
      exact ⟨rfl, Below.refl _ _⟩
theorem civilEra_walk (n k : Int) (w : World) (_wa : (Lit.int .i64 n).wf = true) (wb : (Lit.int .i16 k).wf = true) :
    Calls Try.prog 6 #[.int .i64 n, .int .i16 k] w fun e w' => e = .returned (.bool true) ∧ Below w.heap.size w w' := by
  obtain ⟨hk1, hk2⟩ := wf_i16 wb
  clear wb
  by_cases hb1 : 200000000 < n
  · go_enter Try.func6, Try.ntmps6
    go_wp2_with (go_at_call 21; refine (lives05_any _).mono ?_; rintro e w' ⟨rfl, rfl⟩)
    go_ret
    exact ⟨rfl, Below.refl _ _⟩
  by_cases hb2 : n < -200000000
  · go_enter Try.func6, Try.ntmps6
    go_wp2_with (go_at_call 21; refine (lives05_any _).mono ?_; rintro e w' ⟨rfl, rfl⟩)
    go_ret
    exact ⟨rfl, Below.refl _ _⟩
  have hlo : -200000000 ≤ n := by omega
  have hhi : n ≤ 200000000 := by omega
  obtain ⟨y, m, d, h⟩ := exists_date n
  obtain ⟨hy1, hy2⟩ := year_near h (by omega) (by omega)
  have hya : -1000000 ≤ y ∧ y ≤ 1000000 := by
    obtain ⟨a, b⟩ := h.year
    have c := startI_mono (y + 1) (-1000000)
    have e := startI_mono 1000001 y
    have f : startI (-1000000) ≤ -365000000 := by unfold startI aheadI; omega
    have g : 364000000 ≤ startI 1000001 := by unfold startI aheadI; omega
    omega
  obtain ⟨hya1, hya2⟩ := hya
  have hN : IsDate (n + 146097 * k) (y + 400 * k) m d := by
    obtain ⟨h1, h2, h3, h4, h5⟩ := h
    refine ⟨h1, h2, h3, ?_, ?_⟩
    · unfold len at h4 ⊢; rw [lp_era]; exact h4
    · rw [startI_era]; unfold cum at h5 ⊢; rw [lp_era]; omega
  have hd1 := fun w => date_ok n y m d w h hy1 hy2
  have hd2 := fun w => date_ok (n + 146097 * k) (y + 400 * k) m d w hN (by omega) (by omega)
  have hc1 := fun w => cycle_any n w (i64_of _ (by omega) (by omega))
  have hc2 := fun w => cycle_any (n + 146097 * k) w (i64_of _ (by omega) (by omega))
  rw [show (n + 146097 * k) / 146097 = n / 146097 + k by omega, show (n + 146097 * k) % 146097 = n % 146097 by omega] at hc2
  have hT1 : -2000 ≤ n / 146097 := by omega
  have hT2 : n / 146097 ≤ 2000 := by omega
  clear h hN hb1 hb2
  go_enter Try.func6, Try.ntmps6
  go_wp2_with fail
  refine (hd1 _).mono ?_
  rintro e w' ⟨rfl, rfl⟩
  go_wp2_with fail
  refine (hd2 _).mono ?_
  rintro e w' ⟨rfl, rfl⟩
  go_wp2_with fail
  refine (hc1 _).mono ?_
  rintro e w' ⟨rfl, rfl⟩
  go_wp2_with fail
  refine (hc2 _).mono ?_
  rintro e w' ⟨rfl, rfl⟩
  go_wp2_with (go_at_call 21; refine (lives05_any _).mono ?_; rintro e w' ⟨rfl, rfl⟩)
  go_ret
  exact ⟨rfl, Below.refl _ _⟩
end Go.Proofs.Ytpdlonlnkmjijaa
