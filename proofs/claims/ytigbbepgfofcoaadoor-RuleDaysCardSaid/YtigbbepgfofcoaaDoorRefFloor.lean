/- Contracts of the document's answers for layer 1: each returns what is named here, at any int64 numbers. -/
import Derived.Test.YtigbbepgfofcoaaDoorFloor
namespace Go.Proofs.YtigbbepgfofcoaaDoor
open Go.RowKit

theorem rfloor_any (a b : Int) (w : World) (ha : I64 a) (hb : I64 b) : Calls Tryd.prog 95 #[.int .i64 a, .int .i64 b] w fun e w' => e = .returned (.int .i64 (floorI a b)) ∧ w = w' := by
  unfold floorI
  by_cases h : b < 1
  · rw [if_pos h]
    go_enter Tryd.func95, Tryd.ntmps95
    go_wp2
    go_ret
    exact ⟨rfl, rfl⟩
  · rw [if_neg h]
    have hd := ediv_bd a b (by omega) ha
    obtain ⟨ha1, ha2⟩ := ha
    obtain ⟨hb1, hb2⟩ := hb
    obtain ⟨hd1, hd2⟩ := hd
    have h0 : ¬ b = 0 := by omega
    by_cases hm : a.tmod b < 0
    · have hq := div_neg a b (by omega) hm
      have hw : wrap64 (a.tdiv b - 1) = a / b := by rw [hq]; exact IntWalk.wrap64_in _ ⟨hd1, hd2⟩
      have HW := Lib.hid hw
      clear hw hq hd1 hd2
      go_enter Tryd.func95, Tryd.ntmps95
      go_wp2
      go_ret
      exact ⟨ret_i64 HW.out, rfl⟩
    · have hm' : 0 ≤ a.tmod b := by omega
      have hq := (div_pos a b (by omega) hm').1
      have HW := Lib.hid hq
      clear hq hd1 hd2 hm
      go_enter Tryd.func95, Tryd.ntmps95
      go_wp2
      go_ret
      exact ⟨ret_i64 HW.out, rfl⟩

theorem rmod_any (a b : Int) (w : World) (ha : I64 a) (hb : I64 b) : Calls Tryd.prog 97 #[.int .i64 a, .int .i64 b] w fun e w' => e = .returned (.int .i64 (modI a b)) ∧ w = w' := by
  unfold modI
  by_cases h : b < 1
  · rw [if_pos h]
    go_enter Tryd.func97, Tryd.ntmps97
    go_wp2
    go_ret
    exact ⟨rfl, rfl⟩
  · rw [if_neg h]
    have ha' := ha
    have hb' := hb
    obtain ⟨hb1, hb2⟩ := hb
    have h0 : ¬ b = 0 := by omega
    have h5 := Int.emod_lt_of_pos a (show 0 < b by omega)
    have h6 := Int.emod_nonneg a h0
    have h7 := Int.mul_ediv_add_emod a b
    have HF : floorI a b = a / b := by unfold floorI; rw [if_neg h]
    have hw : wrap64 (a - wrap64 (b * floorI a b)) = a % b := by
      rw [HF]; unfold wrap64; rw [show a % b = a - b * (a / b) by omega]; omega
    have HW := Lib.hid hw
    clear hw h5 h6 h7 HF
    go_enter Tryd.func97, Tryd.ntmps97
    go_wp2_with (go_at_call 95; refine (rfloor_any _ _ _ ha' hb').mono ?_; rintro e w' ⟨rfl, rfl⟩)
    go_ret
    exact ⟨ret_i64 HW.out, rfl⟩
end Go.Proofs.YtigbbepgfofcoaaDoor
