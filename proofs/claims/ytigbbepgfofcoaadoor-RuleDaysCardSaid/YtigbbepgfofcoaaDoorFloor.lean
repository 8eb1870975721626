/- Contracts of Floor and Mod of package num (layer 1): each returns what is named here, at any int64 numbers, and writes nothing that was there. -/
import Derived.Test.YtigbbepgfofcoaaDoorKit
namespace Go.Proofs.YtigbbepgfofcoaaDoor
open Go.RowKit

theorem div_neg (a b : Int) (hb : 0 < b) (h : a.tmod b < 0) : a.tdiv b - 1 = a / b := by
  have h1 := Int.mul_tdiv_add_tmod a b
  have h2 := Int.lt_tmod_of_pos a hb
  have h3 : a / b = a.tdiv b - 1 ∧ a % b = a.tmod b + b := by
    rw [Int.ediv_emod_unique hb]
    refine ⟨?_, by omega, by omega⟩
    rw [Int.mul_sub]; omega
  exact h3.1.symm
theorem mod_neg (a b : Int) (hb : 0 < b) (h : a.tmod b < 0) : a.tmod b + b = a % b := by
  have h1 := Int.mul_tdiv_add_tmod a b
  have h2 := Int.lt_tmod_of_pos a hb
  have h3 : a / b = a.tdiv b - 1 ∧ a % b = a.tmod b + b := by
    rw [Int.ediv_emod_unique hb]
    refine ⟨?_, by omega, by omega⟩
    rw [Int.mul_sub]; omega
  exact h3.2.symm
theorem div_pos (a b : Int) (hb : 0 < b) (h : 0 ≤ a.tmod b) : a.tdiv b = a / b ∧ a.tmod b = a % b := by
  have h1 := Int.mul_tdiv_add_tmod a b
  have h2 := Int.tmod_lt_of_pos a hb
  have h3 : a / b = a.tdiv b ∧ a % b = a.tmod b := by
    rw [Int.ediv_emod_unique hb]
    exact ⟨by omega, by omega, by omega⟩
  exact ⟨h3.1.symm, h3.2.symm⟩
theorem ediv_bd (a b : Int) (hb : 0 < b) (ha : I64 a) : I64 (a / b) := by
  obtain ⟨h1, h2⟩ := ha
  refine ⟨?_, ?_⟩
  · have : -9223372036854775808 / b ≤ a / b := Int.ediv_le_ediv hb h1
    have h3 : -9223372036854775808 ≤ (-9223372036854775808 : Int) / b := by
      rw [Int.le_ediv_iff_mul_le hb]; omega
    omega
  · have : a / b ≤ 9223372036854775807 / b := Int.ediv_le_ediv hb h2
    have h3 : (9223372036854775807 : Int) / b ≤ 9223372036854775807 := Int.ediv_le_self _ (by omega)
    omega

/-- Floor, as the document has it. -/
def floorI (a b : Int) : Int := if b < 1 then 0 else a / b
def modI (a b : Int) : Int := if b < 1 then 0 else a % b

theorem floor_any (a b : Int) (w : World) (ha : I64 a) (hb : I64 b) : Calls Tryd.prog 106 #[.int .i64 a, .int .i64 b] w fun e w' => e = .returned (.int .i64 (floorI a b)) ∧ w = w' := by
  unfold floorI
  by_cases h : b < 1
  · rw [if_pos h]
    go_enter Tryd.func106, Tryd.ntmps106
    go_wp2
    go_ret
    exact ⟨rfl, rfl⟩
  · rw [if_neg h]
    have hd := ediv_bd a b (by omega) ha
    obtain ⟨ha1, ha2⟩ := ha
    obtain ⟨hb1, hb2⟩ := hb
    obtain ⟨hd1, hd2⟩ := hd
    have h0 : ¬ b = 0 := by omega
    by_cases hm : a.tmod b < 0
    · have hq := div_neg a b (by omega) hm
      have hw : wrap64 (a.tdiv b - 1) = a / b := by rw [hq]; exact IntWalk.wrap64_in _ ⟨hd1, hd2⟩
      have HW := Lib.hid hw
      clear hw hq hd1 hd2
      go_enter Tryd.func106, Tryd.ntmps106
      go_wp2
      go_ret
      exact ⟨ret_i64 HW.out, rfl⟩
    · have hm' : 0 ≤ a.tmod b := by omega
      have hq := (div_pos a b (by omega) hm').1
      have HW := Lib.hid hq
      clear hq hd1 hd2 hm
      go_enter Tryd.func106, Tryd.ntmps106
      go_wp2
      go_ret
      exact ⟨ret_i64 HW.out, rfl⟩


theorem mod_any (a b : Int) (w : World) (ha : I64 a) (hb : I64 b) : Calls Tryd.prog 94 #[.int .i64 a, .int .i64 b] w fun e w' => e = .returned (.int .i64 (modI a b)) ∧ w = w' := by
  unfold modI
  by_cases h : b < 1
  · rw [if_pos h]
    go_enter Tryd.func94, Tryd.ntmps94
    go_wp2
    go_ret
    exact ⟨rfl, rfl⟩
  · rw [if_neg h]
    obtain ⟨ha1, ha2⟩ := ha
    obtain ⟨hb1, hb2⟩ := hb
    have h0 : ¬ b = 0 := by omega
    by_cases hm : a.tmod b < 0
    · have hq := mod_neg a b (by omega) hm
      have h5 := Int.emod_lt_of_pos a (show 0 < b by omega)
      have h6 := Int.emod_nonneg a h0
      have hw : wrap64 (a.tmod b + b) = a % b := by rw [hq]; exact IntWalk.wrap64_in _ ⟨by omega, by omega⟩
      have HW := Lib.hid hw
      clear hw hq h5 h6
      go_enter Tryd.func94, Tryd.ntmps94
      go_wp2
      go_ret
      exact ⟨ret_i64 HW.out, rfl⟩
    · have hm' : 0 ≤ a.tmod b := by omega
      have hq := (div_pos a b (by omega) hm').2
      have HW := Lib.hid hq
      clear hq hm
      go_enter Tryd.func94, Tryd.ntmps94
      go_wp2
      go_ret
      exact ⟨ret_i64 HW.out, rfl⟩
end Go.Proofs.YtigbbepgfofcoaaDoor
