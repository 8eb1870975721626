/- The walk of MomentSplits (layer 8). -/
import Derived.Test.YtpdlonlnkmjijaaMomentC
namespace Go.Proofs.Ytpdlonlnkmjijaa
open Go.RowKit Civ

theorem mJoin_yes' (d s : Int) (w : World) (h1 : 0 ≤ d) (h2 : d < 146097) (h3 : 0 ≤ s) (h4 : s < 86400) : Calls Try.prog 40 #[.int .i64 d, .int .i64 s] w fun e w' => e = .returned (.tuple #[.int .i64 (86400 * d + s), .bool true]) ∧ w = w' := by
  rw [show 86400 * d + s = d * 86400 + s by omega]
  exact mJoin_yes d s w h1 h2 h3 h4
set_option maxHeartbeats 1600000 in
theorem splits_in (t d s : Int) (w : World) (h1 : 0 ≤ t) (h2 : t < 12622780800) : Calls Try.prog 10 #[.int .i64 t, .int .i64 d, .int .i64 s] w fun e w' => e = .returned (.bool true) ∧ Below w.heap.size w w' := by
  have k1 := fun w => rIn_yes t w h1 (by omega)
  have k2 := fun w => min_yes t w h1 h2
  have k3 := fun w => split_yes t w h1 h2
  by_cases j1 : 0 ≤ d
  · by_cases j2 : d < 146097
    · by_cases j3 : 0 ≤ s
      · by_cases j4 : s < 86400
        · have k4 := fun w => mJoin_yes' d s w j1 j2 j3 j4
          go_enter Try.func10, Try.ntmps10
          go_wp2_with (first | (go_at_call 37; refine (k1 _).mono ?_; rintro e w' ⟨rfl, rfl⟩) | (go_at_call 39; refine (k2 _).mono ?_; rintro e w' ⟨rfl, rfl⟩) | (go_at_call 38; refine (k3 _).mono ?_; rintro e w' ⟨rfl, rfl⟩) | (go_at_call 40; refine (k4 _).mono ?_; rintro e w' ⟨rfl, rfl⟩) | (go_at_call 41; refine (lives08_any _).mono ?_; rintro e w' ⟨rfl, hb⟩))
          go_ret
          exact ⟨rfl, hb⟩
        · have k4 := fun w => mJoin_no d s w (by omega)
          have n4 := dec_f j4
          clear j4
          go_enter Try.func10, Try.ntmps10
          go_wp2_with (first | (go_at_call 37; refine (k1 _).mono ?_; rintro e w' ⟨rfl, rfl⟩) | (go_at_call 39; refine (k2 _).mono ?_; rintro e w' ⟨rfl, rfl⟩) | (go_at_call 38; refine (k3 _).mono ?_; rintro e w' ⟨rfl, rfl⟩) | (go_at_call 40; refine (k4 _).mono ?_; rintro e w' ⟨rfl, rfl⟩) | (go_at_call 41; refine (lives08_any _).mono ?_; rintro e w' ⟨rfl, hb⟩))
          go_ret
          exact ⟨rfl, hb⟩
      · have k4 := fun w => mJoin_no d s w (by omega)
        have n3 := dec_f j3
        clear j3
        go_enter Try.func10, Try.ntmps10
        go_wp2_with (first | (go_at_call 37; refine (k1 _).mono ?_; rintro e w' ⟨rfl, rfl⟩) | (go_at_call 39; refine (k2 _).mono ?_; rintro e w' ⟨rfl, rfl⟩) | (go_at_call 38; refine (k3 _).mono ?_; rintro e w' ⟨rfl, rfl⟩) | (go_at_call 40; refine (k4 _).mono ?_; rintro e w' ⟨rfl, rfl⟩) | (go_at_call 41; refine (lives08_any _).mono ?_; rintro e w' ⟨rfl, hb⟩))
        go_ret
        exact ⟨rfl, hb⟩
    · have k4 := fun w => mJoin_no d s w (by omega)
      have n2 := dec_f j2
      clear j2
      go_enter Try.func10, Try.ntmps10
      go_wp2_with (first | (go_at_call 37; refine (k1 _).mono ?_; rintro e w' ⟨rfl, rfl⟩) | (go_at_call 39; refine (k2 _).mono ?_; rintro e w' ⟨rfl, rfl⟩) | (go_at_call 38; refine (k3 _).mono ?_; rintro e w' ⟨rfl, rfl⟩) | (go_at_call 40; refine (k4 _).mono ?_; rintro e w' ⟨rfl, rfl⟩) | (go_at_call 41; refine (lives08_any _).mono ?_; rintro e w' ⟨rfl, hb⟩))
      go_ret
      exact ⟨rfl, hb⟩
  · have k4 := fun w => mJoin_no d s w (by omega)
    have n1 := dec_f j1
    clear j1
    go_enter Try.func10, Try.ntmps10
    go_wp2_with (first | (go_at_call 37; refine (k1 _).mono ?_; rintro e w' ⟨rfl, rfl⟩) | (go_at_call 39; refine (k2 _).mono ?_; rintro e w' ⟨rfl, rfl⟩) | (go_at_call 38; refine (k3 _).mono ?_; rintro e w' ⟨rfl, rfl⟩) | (go_at_call 40; refine (k4 _).mono ?_; rintro e w' ⟨rfl, rfl⟩) | (go_at_call 41; refine (lives08_any _).mono ?_; rintro e w' ⟨rfl, hb⟩))
    go_ret
    exact ⟨rfl, hb⟩
set_option maxHeartbeats 1600000 in
theorem splits_out (t d s : Int) (w : World) (h : t < 0 ∨ 12622780800 ≤ t) : Calls Try.prog 10 #[.int .i64 t, .int .i64 d, .int .i64 s] w fun e w' => e = .returned (.bool true) ∧ Below w.heap.size w w' := by
  have k1 := fun w => rIn_no t w h
  have k2 := fun w => min_no t w h
  have k3 := fun w => split_no t w h
  clear h
  by_cases j1 : 0 ≤ d
  · by_cases j2 : d < 146097
    · by_cases j3 : 0 ≤ s
      · by_cases j4 : s < 86400
        · have k4 := fun w => mJoin_yes' d s w j1 j2 j3 j4
          go_enter Try.func10, Try.ntmps10
          go_wp2_with (first | (go_at_call 37; refine (k1 _).mono ?_; rintro e w' ⟨rfl, rfl⟩) | (go_at_call 39; refine (k2 _).mono ?_; rintro e w' ⟨rfl, rfl⟩) | (go_at_call 38; refine (k3 _).mono ?_; rintro e w' ⟨rfl, rfl⟩) | (go_at_call 40; refine (k4 _).mono ?_; rintro e w' ⟨rfl, rfl⟩) | (go_at_call 41; refine (lives08_any _).mono ?_; rintro e w' ⟨rfl, hb⟩))
          go_ret
          exact ⟨rfl, hb⟩
        · have k4 := fun w => mJoin_no d s w (by omega)
          have n4 := dec_f j4
          clear j4
          go_enter Try.func10, Try.ntmps10
          go_wp2_with (first | (go_at_call 37; refine (k1 _).mono ?_; rintro e w' ⟨rfl, rfl⟩) | (go_at_call 39; refine (k2 _).mono ?_; rintro e w' ⟨rfl, rfl⟩) | (go_at_call 38; refine (k3 _).mono ?_; rintro e w' ⟨rfl, rfl⟩) | (go_at_call 40; refine (k4 _).mono ?_; rintro e w' ⟨rfl, rfl⟩) | (go_at_call 41; refine (lives08_any _).mono ?_; rintro e w' ⟨rfl, hb⟩))
          go_ret
          exact ⟨rfl, hb⟩
      · have k4 := fun w => mJoin_no d s w (by omega)
        have n3 := dec_f j3
        clear j3
        go_enter Try.func10, Try.ntmps10
        go_wp2_with (first | (go_at_call 37; refine (k1 _).mono ?_; rintro e w' ⟨rfl, rfl⟩) | (go_at_call 39; refine (k2 _).mono ?_; rintro e w' ⟨rfl, rfl⟩) | (go_at_call 38; refine (k3 _).mono ?_; rintro e w' ⟨rfl, rfl⟩) | (go_at_call 40; refine (k4 _).mono ?_; rintro e w' ⟨rfl, rfl⟩) | (go_at_call 41; refine (lives08_any _).mono ?_; rintro e w' ⟨rfl, hb⟩))
        go_ret
        exact ⟨rfl, hb⟩
    · have k4 := fun w => mJoin_no d s w (by omega)
      have n2 := dec_f j2
      clear j2
      go_enter Try.func10, Try.ntmps10
      go_wp2_with (first | (go_at_call 37; refine (k1 _).mono ?_; rintro e w' ⟨rfl, rfl⟩) | (go_at_call 39; refine (k2 _).mono ?_; rintro e w' ⟨rfl, rfl⟩) | (go_at_call 38; refine (k3 _).mono ?_; rintro e w' ⟨rfl, rfl⟩) | (go_at_call 40; refine (k4 _).mono ?_; rintro e w' ⟨rfl, rfl⟩) | (go_at_call 41; refine (lives08_any _).mono ?_; rintro e w' ⟨rfl, hb⟩))
      go_ret
      exact ⟨rfl, hb⟩
  · have k4 := fun w => mJoin_no d s w (by omega)
    have n1 := dec_f j1
    clear j1
    go_enter Try.func10, Try.ntmps10
    go_wp2_with (first | (go_at_call 37; refine (k1 _).mono ?_; rintro e w' ⟨rfl, rfl⟩) | (go_at_call 39; refine (k2 _).mono ?_; rintro e w' ⟨rfl, rfl⟩) | (go_at_call 38; refine (k3 _).mono ?_; rintro e w' ⟨rfl, rfl⟩) | (go_at_call 40; refine (k4 _).mono ?_; rintro e w' ⟨rfl, rfl⟩) | (go_at_call 41; refine (lives08_any _).mono ?_; rintro e w' ⟨rfl, hb⟩))
    go_ret
    exact ⟨rfl, hb⟩
theorem momentSplits_walk (t d s : Int) (w : World) : Calls Try.prog 10 #[.int .i64 t, .int .i64 d, .int .i64 s] w fun e w' => e = .returned (.bool true) ∧ Below w.heap.size w w' := by
  by_cases h : 0 ≤ t ∧ t < 12622780800
  · exact splits_in t d s w h.1 h.2
  · exact splits_out t d s w (by omega)
end Go.Proofs.Ytpdlonlnkmjijaa
