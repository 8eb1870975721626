/- The walks of the statements of layer 1: NumBack, NumParts, NumAll. -/
import Derived.Test.YtpeoefncpjklbaaLives01
import Derived.Test.YtpeoefncpjklbaaRefNum
import Derived.Test.YtpeoefncpjklbaaOpen
namespace Go.Proofs.Ytpeoefncpjklbaa
open Go.RowKit

theorem numBack_walk (a b : Int) (w : World) (wa : (Lit.int .i64 a).wf = true) (wb : (Lit.int .i64 b).wf = true) :
    Calls Try.prog 4 #[.int .i64 a, .int .i64 b] w fun e w' => e = .returned (.bool true) ∧ Below w.heap.size w w' := by
  have ha := wf_i64 wa
  have hb := wf_i64 wb
  by_cases h : b < 1
  · have hF : floorI a b = 0 := by unfold floorI; rw [if_pos h]
    have hM : modI a b = 0 := by unfold modI; rw [if_pos h]
    clear wa wb
    go_enter Try.func4, Try.ntmps4
    go_wp2_with (first | (go_at_call 10; refine (floor_any _ _ _ ha hb).mono ?_; rintro e w' ⟨rfl, rfl⟩) | (go_at_call 12; refine (mod_any _ _ _ ha hb).mono ?_; rintro e w' ⟨rfl, rfl⟩) | (go_at_call 15; refine (lives01_any _).mono ?_; rintro e w' ⟨rfl, hbel⟩))
    go_ret
    exact ⟨rfl, hbel⟩
  · have h5 := Int.emod_lt_of_pos a (show 0 < b by omega)
    have h6 := Int.emod_nonneg a (show b ≠ 0 by omega)
    have h7 := Int.mul_ediv_add_emod a b
    have hF : floorI a b = a / b := by unfold floorI; rw [if_neg h]
    have hM : modI a b = a % b := by unfold modI; rw [if_neg h]
    have hm0 : ¬ modI a b < 0 := by rw [hM]; omega
    have hm1 : ¬ b ≤ modI a b := by rw [hM]; omega
    have hm2 : 0 ≤ modI a b := by omega
    have hm3 : modI a b < b := by omega
    have he : (wrap64 (wrap64 (floorI a b * b) + modI a b) == a) = true := by
      rw [hF, hM, Int.mul_comm, beq_iff_eq]
      unfold I64 at ha
      unfold wrap64; omega
    clear wa wb hF hM h5 h6 h7
    go_enter Try.func4, Try.ntmps4
    go_wp2_with (first | (go_at_call 10; refine (floor_any _ _ _ ha hb).mono ?_; rintro e w' ⟨rfl, rfl⟩) | (go_at_call 12; refine (mod_any _ _ _ ha hb).mono ?_; rintro e w' ⟨rfl, rfl⟩) | (go_at_call 15; refine (lives01_any _).mono ?_; rintro e w' ⟨rfl, hbel⟩))
    go_ret
    exact ⟨rfl, hbel⟩

end Go.Proofs.Ytpeoefncpjklbaa
