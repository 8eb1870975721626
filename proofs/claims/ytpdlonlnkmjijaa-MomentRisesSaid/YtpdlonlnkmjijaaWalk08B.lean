/- The walk of MomentRises (layer 8). -/
import Derived.Test.YtpdlonlnkmjijaaMomentD
namespace Go.Proofs.Ytpdlonlnkmjijaa
open Go.RowKit Civ

set_option maxHeartbeats 1600000 in
theorem momentRises_walk (t u : Int) (w : World) : Calls Try.prog 11 #[.int .i64 t, .int .i64 u] w fun e w' => e = .returned (.bool true) ∧ Below w.heap.size w w' := by
  by_cases h : 0 ≤ t ∧ t < 12622780800
  · by_cases g : 0 ≤ u ∧ u < 12622780800
    · obtain ⟨A, B, C, D, k3, k4, k5, k6, e1, e2⟩ := texts_rise t u h.1 h.2 g.1 g.2
      have k1 := fun w => rIn_yes t w h.1 (by omega)
      have k2 := fun w => rIn_yes u w g.1 (by omega)
      clear h g
      go_enter Try.func11, Try.ntmps11
      go_wp2_with fail
      refine (k1 _).mono ?_
      rintro e w1 ⟨rfl, rfl⟩
      go_wp2_with fail
      refine (k2 _).mono ?_
      rintro e w2 ⟨rfl, rfl⟩
      go_wp2_with fail
      refine (k3 _).mono ?_
      rintro e w3 ⟨rfl, hb3⟩
      go_wp2_with fail
      refine (k4 _).mono ?_
      rintro e w4 ⟨rfl, hb4⟩
      go_wp2_with fail
      refine (k5 _).mono ?_
      rintro e w5 ⟨rfl, hb5⟩
      go_wp2_with fail
      refine (k6 _).mono ?_
      rintro e w6 ⟨rfl, hb6⟩
      go_wp2_with fail
      refine (lives08_any _).mono ?_
      rintro e w7 ⟨rfl, hb7⟩
      go_wp2
      go_ret
      have z4 := hb3.trans (hb4.mono hb3.size)
      have z5 := z4.trans (hb5.mono z4.size)
      have z6 := z5.trans (hb6.mono z5.size)
      exact ⟨rfl, z6.trans (hb7.mono z6.size)⟩
    · have k1 := fun w => rIn_yes t w h.1 (by omega)
      have k2 := fun w => rIn_no u w (by omega)
      clear h g
      go_enter Try.func11, Try.ntmps11
      go_wp2_with fail
      refine (k1 _).mono ?_
      rintro e w1 ⟨rfl, rfl⟩
      go_wp2_with fail
      refine (k2 _).mono ?_
      rintro e w2 ⟨rfl, rfl⟩
      go_wp2_with (go_at_call 41; refine (lives08_any _).mono ?_; rintro e w' ⟨rfl, hb⟩)
      go_ret
      exact ⟨rfl, hb⟩
  · have k1 := fun w => rIn_no t w (by omega)
    clear h
    go_enter Try.func11, Try.ntmps11
    go_wp2_with fail
    refine (k1 _).mono ?_
    rintro e w1 ⟨rfl, rfl⟩
    go_wp2_with (go_at_call 41; refine (lives08_any _).mono ?_; rintro e w' ⟨rfl, hb⟩)
    go_ret
    exact ⟨rfl, hb⟩
end Go.Proofs.Ytpdlonlnkmjijaa
