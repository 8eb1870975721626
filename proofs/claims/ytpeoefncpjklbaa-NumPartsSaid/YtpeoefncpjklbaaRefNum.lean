/- Contracts of the document's answers for layer 1: each returns what is named here, at any int64 numbers. -/
import Derived.Test.YtpeoefncpjklbaaNum
namespace Go.Proofs.Ytpeoefncpjklbaa
open Go.RowKit

theorem rfloor_any (a b : Int) (w : World) (ha : I64 a) (hb : I64 b) : Calls Try.prog 11 #[.int .i64 a, .int .i64 b] w fun e w' => e = .returned (.int .i64 (floorI a b)) ∧ w = w' := by
  unfold floorI
  by_cases h : b < 1
  · rw [if_pos h]
    go_enter Try.func11, Try.ntmps11
    go_wp2
    go_ret
    exact ⟨rfl, rfl⟩
  · rw [if_neg h]
    have hd := ediv_bd a b (by omega) ha
    obtain ⟨ha1, ha2⟩ := ha
    obtain ⟨hb1, hb2⟩ := hb
    obtain ⟨hd1, hd2⟩ := hd
    have h0 : ¬ b = 0 := by omega
    by_cases hm : a.tmod b < 0
    · have hq := div_neg a b (by omega) hm
      have hw : wrap64 (a.tdiv b - 1) = a / b := by rw [hq]; exact IntWalk.wrap64_in _ ⟨hd1, hd2⟩
      have HW := Lib.hid hw
      clear hw hq hd1 hd2
      go_enter Try.func11, Try.ntmps11
      go_wp2
      go_ret
      exact ⟨ret_i64 HW.out, rfl⟩
    · have hm' : 0 ≤ a.tmod b := by omega
      have hq := (div_pos a b (by omega) hm').1
      have HW := Lib.hid hq
      clear hq hd1 hd2 hm
      go_enter Try.func11, Try.ntmps11
      go_wp2
      go_ret
      exact ⟨ret_i64 HW.out, rfl⟩

theorem rmod_any (a b : Int) (w : World) (ha : I64 a) (hb : I64 b) : Calls Try.prog 13 #[.int .i64 a, .int .i64 b] w fun e w' => e = .returned (.int .i64 (modI a b)) ∧ w = w' := by
  unfold modI
  by_cases h : b < 1
  · rw [if_pos h]
    go_enter Try.func13, Try.ntmps13
    go_wp2
    go_ret
    exact ⟨rfl, rfl⟩
  · rw [if_neg h]
    have ha' := ha
    have hb' := hb
    obtain ⟨hb1, hb2⟩ := hb
    have h0 : ¬ b = 0 := by omega
    have h5 := Int.emod_lt_of_pos a (show 0 < b by omega)
    have h6 := Int.emod_nonneg a h0
    have h7 := Int.mul_ediv_add_emod a b
    have HF : floorI a b = a / b := by unfold floorI; rw [if_neg h]
    have hw : wrap64 (a - wrap64 (b * floorI a b)) = a % b := by
      rw [HF]; unfold wrap64; rw [show a % b = a - b * (a / b) by omega]; omega
    have HW := Lib.hid hw
    clear hw h5 h6 h7 HF
    go_enter Try.func13, Try.ntmps13
    go_wp2_with (go_at_call 11; refine (rfloor_any _ _ _ ha' hb').mono ?_; rintro e w' ⟨rfl, rfl⟩)
    go_ret
    exact ⟨ret_i64 HW.out, rfl⟩
theorem rsize_any (n : Int) (w : World) (hn : I64 n) : Calls Try.prog 21 #[.int .i64 n] w fun e w' => e = .returned (.int .u64 n.natAbs) ∧ w = w' := by
  obtain ⟨h1, h2⟩ := hn
  by_cases h : n < 0
  · have e1 : -(n + 1) + 1 = (n.natAbs : Int) := by omega
    have HE := Lib.hid e1
    clear e1
    go_enter Try.func21, Try.ntmps21
    go_wp2
    go_ret
    exact ⟨ret_u64 HE.out, rfl⟩
  · have h0 : 0 ≤ n := by omega
    have e1 : n = (n.natAbs : Int) := by omega
    have HE := Lib.hid e1
    clear e1
    go_enter Try.func21, Try.ntmps21
    go_wp2
    go_ret
    exact ⟨ret_u64 HE.out, rfl⟩
end Go.Proofs.Ytpeoefncpjklbaa
