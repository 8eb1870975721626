/- The walk of the statement UnitPhases of layer 10. -/
import Derived.Test.YtjfbbhkpdciciaaWalk10
namespace Go.Proofs.Ytjfbbhkpdciciaa
open Go.RowKit Civ

theorem below_draw1 (w : World) (o : Obj) (k : Nat) : Below w.heap.size w ((w.alloc o).drewN k) := (below_a1 w o).trans (below_draws _ _ k)
set_option maxRecDepth 100000 in
set_option maxHeartbeats 1600000 in
theorem unitPhases_walk (u s a d k : Int) (w : World) (ws : (Lit.int .i64 s).wf = true) (wk : (Lit.int .u16 k).wf = true) :
    Calls Try.prog 3 #[.agg #[.int .i64 u, .int .i64 s, .int .i64 a], .int .i64 d, .int .u16 k] w fun e w' => e = .returned (.bool true) ∧ Below w.heap.size w w' := by
  have hs := wf_i64 ws
  obtain ⟨kn, rfl, hk⟩ := wf_u16 wk
  clear ws wk
  obtain ⟨S, hS⟩ : ∃ S, sz u = S := ⟨_, rfl⟩
  have hsz := fun w => rusize_any u w
  rw [hS] at hsz
  by_cases hS0 : S = 0
  · subst hS0
    have hph : ∀ w, Calls Try.prog 5 #[.int .i64 u, .int .i64 s, .int .i64 a, .int .i64 d] w fun e w' => e = .returned (.int .i64 0) ∧ w = w' := fun w => uphase_none u s a d w hS
    clear hS
    go_enter Try.func3, Try.ntmps3
    go_wp2_with (first | (go_at_call 5; refine (hph _).mono ?_; rintro e w' ⟨rfl, rfl⟩) | (go_at_call 6; refine (hsz _).mono ?_; rintro e w' ⟨rfl, rfl⟩) | (go_at_call 8; refine (lives10_any _).mono ?_; rintro e w' ⟨rfl, hbel⟩))
    go_ret
    exact ⟨rfl, (below_a1 _ _).trans (hbel.mono (by simp))⟩
  have hS0b : (S == 0) = false := by simpa using hS0
  have hS1 : 0 < S := by
    rcases sz_cases u with ⟨_, h⟩ | ⟨_, h⟩ | ⟨_, h⟩ | ⟨_, _, _, h⟩ <;> omega
  have hS2 : S ≤ 3600 := by
    rcases sz_cases u with ⟨_, h⟩ | ⟨_, h⟩ | ⟨_, h⟩ | ⟨_, _, _, h⟩ <;> omega
  obtain ⟨M, hM⟩ : ∃ M, 86400 / S = M := ⟨_, rfl⟩
  have hMS : S * M = 86400 := by
    rcases sz_cases u with ⟨_, h⟩ | ⟨_, h⟩ | ⟨_, h⟩ | ⟨_, _, _, h⟩
    · rw [hS] at h; subst h; omega
    · rw [hS] at h; subst h; omega
    · rw [hS] at h; subst h; omega
    · omega
  have hM1 : 24 ≤ M := by
    rcases sz_cases u with ⟨_, h⟩ | ⟨_, h⟩ | ⟨_, h⟩ | ⟨_, _, _, h⟩
    · rw [hS] at h; subst h; omega
    · rw [hS] at h; subst h; omega
    · rw [hS] at h; subst h; omega
    · omega
  have hM2 : M ≤ 86400 := by
    rcases sz_cases u with ⟨_, h⟩ | ⟨_, h⟩ | ⟨_, h⟩ | ⟨_, _, _, h⟩
    · rw [hS] at h; subst h; omega
    · rw [hS] at h; subst h; omega
    · rw [hS] at h; subst h; omega
    · omega
  by_cases hr : 0 ≤ a ∧ a < 12622780800 ∧ 0 ≤ d ∧ d < 146097
  rotate_left
  · have hph := fun w => uphase_out u s a d w hr
    have hSn : ¬ S = 0 := hS0
    by_cases c1 : s < 1
    · clear hS hM hMS hr
      go_enter Try.func3, Try.ntmps3
      go_wp2_with (first | (go_at_call 5; refine (hph _).mono ?_; rintro e w' ⟨rfl, rfl⟩) | (go_at_call 6; refine (hsz _).mono ?_; rintro e w' ⟨rfl, rfl⟩) | (go_at_call 8; refine (lives10_any _).mono ?_; rintro e w' ⟨rfl, hbel⟩))
      go_ret
      exact ⟨rfl, (below_a1 _ _).trans (hbel.mono (by simp))⟩
    · have c1b := decide_eq_false c1
      by_cases c2 : 0 ≤ a ∧ a ≤ 12622780799
      · have hin := fun w => rIn_yes a w c2.1 c2.2
        by_cases c3 : d < 0
        · clear hS hM hMS hr
          go_enter Try.func3, Try.ntmps3
          go_wp2_with (first | (go_at_call 5; refine (hph _).mono ?_; rintro e w' ⟨rfl, rfl⟩) | (go_at_call 6; refine (hsz _).mono ?_; rintro e w' ⟨rfl, rfl⟩) | (go_at_call 7; refine (hin _).mono ?_; rintro e w' ⟨rfl, rfl⟩) | (go_at_call 8; refine (lives10_any _).mono ?_; rintro e w' ⟨rfl, hbel⟩))
          go_ret
          exact ⟨rfl, (below_a1 _ _).trans (hbel.mono (by simp))⟩
        · have c3b := decide_eq_false c3
          have c4 : 146096 < d := by omega
          clear hS hM hMS hr
          go_enter Try.func3, Try.ntmps3
          go_wp2_with (first | (go_at_call 5; refine (hph _).mono ?_; rintro e w' ⟨rfl, rfl⟩) | (go_at_call 6; refine (hsz _).mono ?_; rintro e w' ⟨rfl, rfl⟩) | (go_at_call 7; refine (hin _).mono ?_; rintro e w' ⟨rfl, rfl⟩) | (go_at_call 8; refine (lives10_any _).mono ?_; rintro e w' ⟨rfl, hbel⟩))
          go_ret
          exact ⟨rfl, (below_a1 _ _).trans (hbel.mono (by simp))⟩
      · have hin := fun w => rIn_no a w (by omega)
        clear hS hM hMS hr
        go_enter Try.func3, Try.ntmps3
        go_wp2_with (first | (go_at_call 5; refine (hph _).mono ?_; rintro e w' ⟨rfl, rfl⟩) | (go_at_call 6; refine (hsz _).mono ?_; rintro e w' ⟨rfl, rfl⟩) | (go_at_call 7; refine (hin _).mono ?_; rintro e w' ⟨rfl, rfl⟩) | (go_at_call 8; refine (lives10_any _).mono ?_; rintro e w' ⟨rfl, hbel⟩))
        go_ret
        exact ⟨rfl, (below_a1 _ _).trans (hbel.mono (by simp))⟩
  obtain ⟨ha1, ha2, hd1, hd2⟩ := hr
  obtain ⟨A, hA⟩ : ∃ A, a / S = A := ⟨_, rfl⟩
  have hD : d * 86400 / S = d * M := by
    rw [← hMS, show d * (S * M) = S * (d * M) by rw [← Int.mul_assoc, ← Int.mul_assoc, Int.mul_comm d S]]
    exact Int.mul_ediv_cancel_left _ (by omega)
  obtain ⟨p, hp⟩ : ∃ p, modI (A - d * M) s = p := ⟨_, rfl⟩
  have hph := fun w => uphase_ok u s a d A (d * M) w ha1 ha2 hd1 hd2 hs (by omega) (by rw [hS]; exact hA) (by rw [hS]; exact hD)
  rw [hp] at hph
  by_cases c1 : s < 1
  · have hp0 : p = 0 := by rw [← hp]; unfold modI; rw [if_pos c1]
    subst hp0
    clear hS hM hMS hD hA hp
    go_enter Try.func3, Try.ntmps3
    go_wp2_with (first | (go_at_call 5; refine (hph _).mono ?_; rintro e w' ⟨rfl, k0, rfl⟩) | (go_at_call 6; refine (hsz _).mono ?_; rintro e w' ⟨rfl, rfl⟩) | (go_at_call 8; refine (lives10_any _).mono ?_; rintro e w' ⟨rfl, hbel⟩))
    go_ret
    exact ⟨rfl, (below_draw1 _ _ _).trans (hbel.mono (by simp))⟩
  have c1b := decide_eq_false c1
  have c3b := decide_eq_false (show ¬ d < 0 by omega)
  have c4b := decide_eq_false (show ¬ 146096 < d by omega)
  have hin := fun w => rIn_yes a w ha1 (by omega)
  have hpe : (A - d * M) % s = p := by rw [← hp]; unfold modI; rw [if_neg c1]
  have hp1 : 0 ≤ p := by rw [← hpe]; exact Int.emod_nonneg _ (by omega)
  have hp2 : p < s := by rw [← hpe]; exact Int.emod_lt_of_pos _ (by omega)
  obtain ⟨n, hn⟩ : ∃ n, (kn : Int) % M = n := ⟨_, rfl⟩
  have hn1 : 0 ≤ n := by rw [← hn]; exact Int.emod_nonneg _ (by omega)
  have hn2 : n < M := by rw [← hn]; exact Int.emod_lt_of_pos _ (by omega)
  -- multiples of the unit within the day
  have hmul : ∀ x, 0 ≤ x → x < M → 0 ≤ x * S ∧ x * S + S ≤ 86400 := by
    intro x h1 h2
    have h3 : 0 ≤ x * S := Int.mul_nonneg h1 (by omega)
    have h4 : (x + 1) * S ≤ M * S := Int.mul_le_mul_of_nonneg_right (by omega) (by omega)
    rw [Int.add_mul, Int.one_mul, Int.mul_comm M S, hMS] at h4
    exact ⟨h3, h4⟩
  have hquo : ∀ x, (86400 * d + x * S) / S = d * M + x := by
    intro x
    rw [← hMS, show S * M * d + x * S = S * (d * M + x) by rw [Int.mul_add, Int.mul_comm x S, Int.mul_assoc, Int.mul_comm M d]]
    exact Int.mul_ediv_cancel_left _ (by omega)
  have hquo2 : (86400 * d + n * S + S - 1) / S = d * M + n := by
    rw [show 86400 * d + n * S + S - 1 = S - 1 + S * (d * M + n) by rw [← hMS, Int.mul_add, Int.mul_comm n S, Int.mul_assoc S M d, Int.mul_comm M d]; omega]
    rw [Int.add_mul_ediv_left _ _ (by omega), Int.ediv_eq_zero_of_lt (by omega) (by omega)]
    omega
  have hdvd : ∀ x, (d * M + x - A) % s = 0 ↔ (x - p) % s = 0 := by
    intro x
    have h1 := Int.mul_ediv_add_emod (A - d * M) s
    rw [hpe] at h1
    rw [← Int.dvd_iff_emod_eq_zero, ← Int.dvd_iff_emod_eq_zero]
    rw [show d * M + x - A = x - p - s * ((A - d * M) / s) by omega]
    constructor
    · intro h
      have h2 := Int.dvd_add h (Int.dvd_mul_right s ((A - d * M) / s))
      rwa [Int.sub_add_cancel] at h2
    · intro h
      exact Int.dvd_sub h (Int.dvd_mul_right _ _)
  obtain ⟨hx1, hx2⟩ := hmul n hn1 hn2
  have hsp : 1 ≤ s := by omega
  have ho1 := fun b w hb => ron_any u s a (86400 * d + n * S) S A (d * M + n) b w ha1 (by omega) (by omega) (by omega) hsp hS hS1 hA (hquo n) hb
  have ho2 := fun b w hb => ron_any u s a (86400 * d + n * S + S - 1) S A (d * M + n) b w ha1 (by omega) (by omega) (by omega) hsp hS hS1 hA hquo2 hb
  have q1 := decide_eq_false (show ¬ p < 0 by omega)
  have q2 := decide_eq_false (show ¬ s ≤ p by omega)
  have hSn : ¬ S = 0 := hS0
  have hMn : ¬ M = 0 := by omega
  have hsn : ¬ s = 0 := by omega
  have hxs : n * S ≤ 86400 := by omega
  by_cases hnp : p ≤ n
  · have hnp0 : 0 ≤ n - p := by omega
    by_cases hdv : (n - p) % s = 0
    · have hdb : ((n - p) % s == 0) = true := by rw [beq_iff_eq]; exact hdv
      have ho1 := fun w => ho1 true w (by rw [eq_comm, decide_eq_true_eq, hdvd]; exact hdv)
      have ho2 := fun w => ho2 true w (by rw [eq_comm, decide_eq_true_eq, hdvd]; exact hdv)
      clear hdv
      by_cases hpm : M ≤ p
      · exfalso; omega
      · have hpmb := decide_eq_false hpm
        obtain ⟨hy1, hy2⟩ := hmul p hp1 (by omega)
        have ho3 := fun w => ron_any u s a (86400 * d + p * S) S A (d * M + p) true w ha1 (by omega) (by omega) (by omega) hsp hS hS1 hA (hquo p) (by rw [eq_comm, decide_eq_true_eq, hdvd]; simp)
        clear hS hA hp hpe hmul hquo hquo2 hdvd hMS hD
        go_enter Try.func3, Try.ntmps3
        go_wp2_with (first | (go_at_call 5; refine (hph _).mono ?_; rintro e w' ⟨rfl, k0, rfl⟩) | (go_at_call 6; refine (hsz _).mono ?_; rintro e w' ⟨rfl, rfl⟩) | (go_at_call 7; refine (hin _).mono ?_; rintro e w' ⟨rfl, rfl⟩) | (go_at_call 9; ((with_reducible refine (ho1 _).mono ?_); rintro e w' ⟨rfl, rfl⟩)) | (go_at_call 9; ((with_reducible refine (ho2 _).mono ?_); rintro e w' ⟨rfl, rfl⟩)) | (go_at_call 9; ((with_reducible refine (ho3 _).mono ?_); rintro e w' ⟨rfl, rfl⟩)) | (go_at_call 8; refine (lives10_any _).mono ?_; rintro e w' ⟨rfl, hbel⟩))
        go_ret
        exact ⟨rfl, (below_draw1 _ _ _).trans (hbel.mono (by simp))⟩
    · have hdb : ((n - p) % s == 0) = false := by rw [beq_eq_false_iff_ne]; exact hdv
      have ho1 := fun w => ho1 false w (by rw [eq_comm, decide_eq_false_iff_not, hdvd]; exact hdv)
      have ho2 := fun w => ho2 false w (by rw [eq_comm, decide_eq_false_iff_not, hdvd]; exact hdv)
      clear hdv
      by_cases hpm : M ≤ p
      · exfalso; omega
      · have hpmb := decide_eq_false hpm
        obtain ⟨hy1, hy2⟩ := hmul p hp1 (by omega)
        have ho3 := fun w => ron_any u s a (86400 * d + p * S) S A (d * M + p) true w ha1 (by omega) (by omega) (by omega) hsp hS hS1 hA (hquo p) (by rw [eq_comm, decide_eq_true_eq, hdvd]; simp)
        clear hS hA hp hpe hmul hquo hquo2 hdvd hMS hD
        go_enter Try.func3, Try.ntmps3
        go_wp2_with (first | (go_at_call 5; refine (hph _).mono ?_; rintro e w' ⟨rfl, k0, rfl⟩) | (go_at_call 6; refine (hsz _).mono ?_; rintro e w' ⟨rfl, rfl⟩) | (go_at_call 7; refine (hin _).mono ?_; rintro e w' ⟨rfl, rfl⟩) | (go_at_call 9; ((with_reducible refine (ho1 _).mono ?_); rintro e w' ⟨rfl, rfl⟩)) | (go_at_call 9; ((with_reducible refine (ho2 _).mono ?_); rintro e w' ⟨rfl, rfl⟩)) | (go_at_call 9; ((with_reducible refine (ho3 _).mono ?_); rintro e w' ⟨rfl, rfl⟩)) | (go_at_call 8; refine (lives10_any _).mono ?_; rintro e w' ⟨rfl, hbel⟩))
        go_ret
        exact ⟨rfl, (below_draw1 _ _ _).trans (hbel.mono (by simp))⟩
  · have hnpb := decide_eq_false hnp
    have hdv : ¬ (n - p) % s = 0 := by
      intro h
      have h1 := Int.mul_ediv_add_emod (n - p) s
      rw [h] at h1
      have h2 : (n - p) / s < 0 := Int.ediv_neg_of_neg_of_pos (by omega) (by omega)
      have h3 : s * ((n - p) / s) ≤ s * (-1) := Int.mul_le_mul_of_nonneg_left (by omega) (by omega)
      omega
    have ho1 := fun w => ho1 false w (by rw [eq_comm, decide_eq_false_iff_not, hdvd]; exact hdv)
    have ho2 := fun w => ho2 false w (by rw [eq_comm, decide_eq_false_iff_not, hdvd]; exact hdv)
    clear hdv
    by_cases hpm : M ≤ p
    · clear hS hA hp hpe hmul hquo hquo2 hdvd hMS hD
      go_enter Try.func3, Try.ntmps3
      go_wp2_with (first | (go_at_call 5; refine (hph _).mono ?_; rintro e w' ⟨rfl, k0, rfl⟩) | (go_at_call 6; refine (hsz _).mono ?_; rintro e w' ⟨rfl, rfl⟩) | (go_at_call 7; refine (hin _).mono ?_; rintro e w' ⟨rfl, rfl⟩) | (go_at_call 9; ((with_reducible refine (ho1 _).mono ?_); rintro e w' ⟨rfl, rfl⟩)) | (go_at_call 9; ((with_reducible refine (ho2 _).mono ?_); rintro e w' ⟨rfl, rfl⟩)) | (go_at_call 8; refine (lives10_any _).mono ?_; rintro e w' ⟨rfl, hbel⟩))
      go_ret
      exact ⟨rfl, (below_draw1 _ _ _).trans (hbel.mono (by simp))⟩
    · have hpmb := decide_eq_false hpm
      obtain ⟨hy1, hy2⟩ := hmul p hp1 (by omega)
      have ho3 := fun w => ron_any u s a (86400 * d + p * S) S A (d * M + p) true w ha1 (by omega) (by omega) (by omega) hsp hS hS1 hA (hquo p) (by rw [eq_comm, decide_eq_true_eq, hdvd]; simp)
      clear hS hA hp hpe hmul hquo hquo2 hdvd hMS hD
      go_enter Try.func3, Try.ntmps3
      go_wp2_with (first | (go_at_call 5; refine (hph _).mono ?_; rintro e w' ⟨rfl, k0, rfl⟩) | (go_at_call 6; refine (hsz _).mono ?_; rintro e w' ⟨rfl, rfl⟩) | (go_at_call 7; refine (hin _).mono ?_; rintro e w' ⟨rfl, rfl⟩) | (go_at_call 9; ((with_reducible refine (ho1 _).mono ?_); rintro e w' ⟨rfl, rfl⟩)) | (go_at_call 9; ((with_reducible refine (ho2 _).mono ?_); rintro e w' ⟨rfl, rfl⟩)) | (go_at_call 9; ((with_reducible refine (ho3 _).mono ?_); rintro e w' ⟨rfl, rfl⟩)) | (go_at_call 8; refine (lives10_any _).mono ?_; rintro e w' ⟨rfl, hbel⟩))
      go_ret
      exact ⟨rfl, (below_draw1 _ _ _).trans (hbel.mono (by simp))⟩
end Go.Proofs.Ytjfbbhkpdciciaa
