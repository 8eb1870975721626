/- Contracts of the functions of package week (layer 6) that tell weekdays, weeks, places and shapes, and of the document's answers for them. -/
import Derived.Test.YtbfndcogieiejaaDoorRefCivil
namespace Go.Proofs.YtbfndcogieiejaaDoor
open Go.RowKit Civ

def wd (n : Int) : Int := (n + 3) % 7 + 1
def wn (n : Int) : Int := if 4 ≤ n % 7 then n / 7 + 1 else n / 7
theorem modI_pos (a b : Int) (h : 0 < b) : modI a b = a % b := by unfold modI; rw [if_neg (by omega)]
theorem wday_any (n : Int) (w : World) (hn : I64 n) : Calls Tryd.prog 66 #[.int .i64 n] w fun e w' => e = .returned (.int .i64 (wd n)) ∧ w = w' := by
  have f2 := modI_pos n 7 (by omega)
  have i1 := i64_of 7 (by omega) (by omega)
  have h1 : 0 ≤ n % 7 := by omega
  have h2 : n % 7 < 7 := by omega
  go_enter Tryd.func66, Tryd.ntmps66
  go_wp2_with (go_at_call 85; refine (mod_any _ _ _ (by assumption) (by assumption)).mono ?_; rintro e w' ⟨rfl, rfl⟩)
  go_ret
  exact ⟨rfl, rfl⟩
theorem rwday_any (n : Int) (w : World) (hn : I64 n) : Calls Tryd.prog 46 #[.int .i64 n] w fun e w' => e = .returned (.int .i64 (wd n)) ∧ w = w' := by
  have f2 := modI_pos n 7 (by omega)
  have i1 := i64_of 7 (by omega) (by omega)
  obtain ⟨m, hm⟩ : ∃ m, m = n % 7 := ⟨_, rfl⟩
  have h1 : 0 ≤ m := by omega
  have h2 : m < 7 := by omega
  have HW := Lib.hid (show (m + 3) % 7 + 1 = wd n by unfold wd; omega)
  rw [← hm] at f2
  clear hm
  go_enter Tryd.func46, Tryd.ntmps46
  go_wp2_with (go_at_call 73; refine (rmod_any _ _ _ (by assumption) (by assumption)).mono ?_; rintro e w' ⟨rfl, rfl⟩)
  go_loop [4, 5] (fun x i => ∃ k : Int, 0 ≤ k ∧ k ≤ m ∧ i = .int .i64 k ∧ x = .int .i64 ((k + 3) % 7 + 1)) (fun _ i => (m - intOf i).toNat)
  case atStart => exact ⟨0, by omega, h1, rfl, rfl⟩
  case round =>
    obtain ⟨k, hk1, hk2, rfl, rfl⟩ := hrel
    have b1 : 0 ≤ (k + 3) % 7 := by omega
    have b2 : (k + 3) % 7 < 7 := by omega
    by_cases hlt : k < m
    · have HS := Lib.hid (show (k + 3 + 1) % 7 + 1 = (k + 1 + 3) % 7 + 1 by omega)
      go_wp2
      go_round
      case rel => exact ⟨k + 1, by omega, by omega, rfl, by rw [HS.out]⟩
      case measure => simp [intOf]; omega
    · have hkm : k = m := by omega
      subst hkm
      go_wp2
      go_ret
      exact ⟨ret_i64 HW.out, rfl⟩
theorem wnum_any (n : Int) (w : World) (hn : I64 n) : Calls Tryd.prog 87 #[.int .i64 n] w fun e w' => e = .returned (.int .i64 (wn n)) ∧ w = w' := by
  have f1 := floorI_pos n 7 (by omega)
  have f2 := modI_pos n 7 (by omega)
  have i1 := i64_of 7 (by omega) (by omega)
  have hn' := hn
  unfold I64 at hn'
  have h1 : -1400000000000000000 ≤ n / 7 := by omega
  have h2 : n / 7 ≤ 1400000000000000000 := by omega
  by_cases h : 4 ≤ n % 7
  · have HE := Lib.hid (show n / 7 + 1 = wn n by unfold wn; rw [if_pos h])
    go_enter Tryd.func87, Tryd.ntmps87
    go_wp2_with (first | (go_at_call 88; refine (floor_any _ _ _ (by assumption) (by assumption)).mono ?_; rintro e w' ⟨rfl, rfl⟩) | (go_at_call 85; refine (mod_any _ _ _ (by assumption) (by assumption)).mono ?_; rintro e w' ⟨rfl, rfl⟩))
    go_ret
    exact ⟨ret_i64 HE.out, rfl⟩
  · have HE := Lib.hid (show n / 7 = wn n by unfold wn; rw [if_neg h])
    go_enter Tryd.func87, Tryd.ntmps87
    go_wp2_with (first | (go_at_call 88; refine (floor_any _ _ _ (by assumption) (by assumption)).mono ?_; rintro e w' ⟨rfl, rfl⟩) | (go_at_call 85; refine (mod_any _ _ _ (by assumption) (by assumption)).mono ?_; rintro e w' ⟨rfl, rfl⟩))
    go_ret
    exact ⟨ret_i64 HE.out, rfl⟩
theorem rwnum_any (n : Int) (w : World) (hn : I64 n) : Calls Tryd.prog 86 #[.int .i64 n] w fun e w' => e = .returned (.int .i64 (wn n)) ∧ w = w' := by
  have f1 := floorI_pos n 7 (by omega)
  have f2 := modI_pos n 7 (by omega)
  have i1 := i64_of 7 (by omega) (by omega)
  have hn' := hn
  unfold I64 at hn'
  have h1 : -1400000000000000000 ≤ n / 7 := by omega
  have h2 : n / 7 ≤ 1400000000000000000 := by omega
  by_cases h : 4 ≤ n % 7
  · have HE := Lib.hid (show n / 7 + 1 = wn n by unfold wn; rw [if_pos h])
    go_enter Tryd.func86, Tryd.ntmps86
    go_wp2_with (first | (go_at_call 71; refine (rfloor_any _ _ _ (by assumption) (by assumption)).mono ?_; rintro e w' ⟨rfl, rfl⟩) | (go_at_call 73; refine (rmod_any _ _ _ (by assumption) (by assumption)).mono ?_; rintro e w' ⟨rfl, rfl⟩))
    go_ret
    exact ⟨ret_i64 HE.out, rfl⟩
  · have HE := Lib.hid (show n / 7 = wn n by unfold wn; rw [if_neg h])
    go_enter Tryd.func86, Tryd.ntmps86
    go_wp2_with (first | (go_at_call 71; refine (rfloor_any _ _ _ (by assumption) (by assumption)).mono ?_; rintro e w' ⟨rfl, rfl⟩) | (go_at_call 73; refine (rmod_any _ _ _ (by assumption) (by assumption)).mono ?_; rintro e w' ⟨rfl, rfl⟩))
    go_ret
    exact ⟨ret_i64 HE.out, rfl⟩
theorem which_ok (a l : Int) (w : World) (ha : 1 ≤ a) (hl : a ≤ l) (hi : l ≤ 9223372036854775807) : Calls Tryd.prog 67 #[.int .i64 a, .int .i64 l] w fun e w' => e = .returned (.tuple #[.int .i64 ((a - 1) / 7 + 1), .int .i64 ((l - a) / 7 + 1)]) ∧ w = w' := by
  have b1 : 0 ≤ (a - 1) / 7 := by omega
  have b2 : (a - 1) / 7 ≤ 1400000000000000000 := by omega
  have b3 : 0 ≤ (l - a) / 7 := by omega
  have b4 : (l - a) / 7 ≤ 1400000000000000000 := by omega
  have n1 : ¬ a < 1 := by omega
  have n2 : ¬ l < a := by omega
  go_enter Tryd.func67, Tryd.ntmps67
  go_wp2
  go_ret2
  exact ⟨rfl, rfl⟩
theorem which_no (a l : Int) (w : World) (h : a < 1 ∨ l < a) : Calls Tryd.prog 67 #[.int .i64 a, .int .i64 l] w fun e w' => e = .returned (.tuple #[.int .i64 0, .int .i64 0]) ∧ w = w' := by
  by_cases h1 : a < 1
  · clear h
    go_enter Tryd.func67, Tryd.ntmps67
    go_wp2
    go_ret2
    exact ⟨rfl, rfl⟩
  · have h2 : l < a := by omega
    clear h
    go_enter Tryd.func67, Tryd.ntmps67
    go_wp2
    go_ret2
    exact ⟨rfl, rfl⟩
theorem rwhich_ok (a l : Int) (w : World) (ha : 1 ≤ a) (hl : a ≤ l) (hi : l ≤ 9223372036854775807) : Calls Tryd.prog 43 #[.int .i64 a, .int .i64 l] w fun e w' => e = .returned (.tuple #[.int .i64 ((a - 1) / 7 + 1), .int .i64 ((l - a) / 7 + 1)]) ∧ w = w' := by
  have b1 : 0 ≤ (a - 1) / 7 := by omega
  have b2 : (a - 1) / 7 ≤ 1400000000000000000 := by omega
  have b3 : 0 ≤ (l - a) / 7 := by omega
  have b4 : (l - a) / 7 ≤ 1400000000000000000 := by omega
  have n1 : ¬ a < 1 := by omega
  have n2 : ¬ l < a := by omega
  go_enter Tryd.func43, Tryd.ntmps43
  go_wp2
  go_ret2
  exact ⟨rfl, rfl⟩
theorem rwhich_no (a l : Int) (w : World) (h : a < 1 ∨ l < a) : Calls Tryd.prog 43 #[.int .i64 a, .int .i64 l] w fun e w' => e = .returned (.tuple #[.int .i64 0, .int .i64 0]) ∧ w = w' := by
  by_cases h1 : a < 1
  · clear h
    go_enter Tryd.func43, Tryd.ntmps43
    go_wp2
    go_ret2
    exact ⟨rfl, rfl⟩
  · have h2 : l < a := by omega
    clear h
    go_enter Tryd.func43, Tryd.ntmps43
    go_wp2
    go_ret2
    exact ⟨rfl, rfl⟩
theorem wyear_any (y : Int) (w : World) : Calls Tryd.prog 68 #[.int .i64 y] w fun e w' => e = .returned (.int .i64 (365 + lp y)) ∧ w = w' := by
  have h01 := lp_01 y
  by_cases hl : lp y = 1
  · have HE := Lib.hid (show (366 : Int) = 365 + lp y by omega)
    go_enter Tryd.func68, Tryd.ntmps68
    go_wp2_with (go_at_call 84; refine (leap_yes _ _ hl).mono ?_; rintro e w' ⟨rfl, rfl⟩)
    go_ret
    exact ⟨ret_i64 HE.out, rfl⟩
  · have hl : lp y = 0 := by omega
    have HE := Lib.hid (show (365 : Int) = 365 + lp y by omega)
    go_enter Tryd.func68, Tryd.ntmps68
    go_wp2_with (go_at_call 84; refine (leap_no _ _ hl).mono ?_; rintro e w' ⟨rfl, rfl⟩)
    go_ret
    exact ⟨ret_i64 HE.out, rfl⟩
/-- what a day of this date is -/
def shapeV (n y m d : Int) : Value := .agg #[.int .i64 n, .int .i64 y, .int .i64 m, .int .i64 d, .int .i64 (len y m - d + 1), .int .i64 (wd n), .int .i64 ((d - 1) / 7 + 1), .int .i64 ((len y m - d) / 7 + 1), .int .i64 ((cum y m + d - 1) / 7 + 1), .int .i64 ((365 + lp y - (cum y m + d)) / 7 + 1)]
theorem shape_ok (n y m d : Int) (w : World) (h : IsDate n y m d) (hn1 : 0 ≤ n) (hn2 : n < 146097) :
    Calls Tryd.prog 37 #[.int .i64 n] w fun e w' => e = .returned (.tuple #[shapeV n y m d, .bool true]) ∧ Below w.heap.size w w' := by
  have hy : 1970 ≤ y ∧ y ≤ 2370 := by
    obtain ⟨a, b⟩ := h.year
    have c := startI_mono (y + 1) 1970
    have e := startI_mono 2371 y
    have f : startI 1970 = 0 := by decide
    have g : startI 2371 = 146462 := by decide
    omega
  obtain ⟨hy1, hy2⟩ := hy
  have hd := fun w => date_ok n y m d w h (by omega) (by omega)
  obtain ⟨h1, h2, h3, h4, h5⟩ := h
  have ho := fun w => ordinal_ok y m d w (by omega) (by omega) h1 h2 h3 h4
  obtain ⟨c1, c2⟩ := len_bd y m h1 h2
  obtain ⟨c3, c4⟩ := cum_bd y m h1 h2
  obtain ⟨c5, c6⟩ := lp_01 y
  have hw1 := fun w => which_ok d (len y m) w h3 h4 (by omega)
  have hw2 := fun w => which_ok (cum y m + d) (365 + lp y) w (by omega) (by omega) (by omega)
  have hi := i64_of n (by omega) (by omega)
  clear h5
  go_enter Tryd.func37, Tryd.ntmps37
  go_wp2_with (first | (go_at_call 63; refine (hd _).mono ?_; rintro e w' ⟨rfl, rfl⟩) | (go_at_call 64; refine (ho _).mono ?_; rintro e w' ⟨rfl, rfl⟩) | (go_at_call 65; refine (length_any _ _ _).mono ?_; rintro e w' ⟨rfl, rfl⟩) | (go_at_call 66; refine (wday_any _ _ hi).mono ?_; rintro e w' ⟨rfl, rfl⟩) | (go_at_call 68; refine (wyear_any _ _).mono ?_; rintro e w' ⟨rfl, rfl⟩) | (go_at_call 67; ((with_reducible refine (hw1 _).mono ?_); rintro e w' ⟨rfl, rfl⟩)) | (go_at_call 67; ((with_reducible refine (hw2 _).mono ?_); rintro e w' ⟨rfl, rfl⟩)))
  refine bodyPost_ret (v := .tuple #[shapeV n y m d, .bool true]) (by simp [results, Tryd.results37, go_sem, shapeV]) rfl ⟨rfl, ?_⟩
  exact ((Below.refl _ _).alloc (Nat.le_refl _) _).alloc (by simp) _
end Go.Proofs.YtbfndcogieiejaaDoor
