/- Contracts of the functions of package civil (layer 5): years, months, days by number; each leaves the world as it was. -/
import Derived.Test.YtigbbepgfofcoaaDoorCivilMath
import Derived.Test.YtigbbepgfofcoaaDoorFloor
namespace Go.Proofs.YtigbbepgfofcoaaDoor
open Go.RowKit Civ

theorem tmod_zero (y k : Int) : y.tmod k = 0 ↔ y % k = 0 := by rw [← Int.dvd_iff_tmod_eq_zero, ← Int.dvd_iff_emod_eq_zero]
theorem tmod_t {y k : Int} (h : y % k = 0) : (y.tmod k == 0) = true := by rw [beq_iff_eq, tmod_zero]; exact h
theorem tmod_f {y k : Int} (h : ¬ y % k = 0) : (y.tmod k == 0) = false := by rw [beq_eq_false_iff_ne, ne_eq, tmod_zero]; exact h
theorem tmod_nt {y k : Int} (h : ¬ y % k = 0) : (y.tmod k != 0) = true := by rw [bne_iff_ne, ne_eq, tmod_zero]; exact h
theorem tmod_nf {y k : Int} (h : y % k = 0) : (y.tmod k != 0) = false := by rw [bne_eq_false_iff_eq, tmod_zero]; exact h

theorem leap_yes (y : Int) (w : World) (h : lp y = 1) : Calls Tryd.prog 109 #[.int .i64 y] w fun e w' => e = .returned (.bool true) ∧ w = w' := by
  have h' : y % 4 = 0 ∧ (y % 100 ≠ 0 ∨ y % 400 = 0) := by unfold lp at h; by_cases c : y % 4 = 0 ∧ (y % 100 ≠ 0 ∨ y % 400 = 0); exact c; rw [if_neg c] at h; omega
  clear h
  have h4 := tmod_t h'.1
  by_cases h100 : y % 100 = 0
  · have h1 := tmod_nf h100
    have h2 := tmod_t (show y % 400 = 0 by omega)
    clear h' h100
    go_enter Tryd.func109, Tryd.ntmps109
    go_wp2
    go_ret
    exact ⟨rfl, rfl⟩
  · have h1 := tmod_nt h100
    clear h' h100
    go_enter Tryd.func109, Tryd.ntmps109
    go_wp2
    go_ret
    exact ⟨rfl, rfl⟩
theorem leap_no (y : Int) (w : World) (h : lp y = 0) : Calls Tryd.prog 109 #[.int .i64 y] w fun e w' => e = .returned (.bool false) ∧ w = w' := by
  have h' : ¬ (y % 4 = 0 ∧ (y % 100 ≠ 0 ∨ y % 400 = 0)) := by unfold lp at h; by_cases c : y % 4 = 0 ∧ (y % 100 ≠ 0 ∨ y % 400 = 0); rw [if_pos c] at h; omega; exact c
  clear h
  by_cases h4 : y % 4 = 0
  · have h1 := tmod_nf (show y % 100 = 0 by omega)
    have h2 := tmod_f (show ¬ y % 400 = 0 by omega)
    have h5 := tmod_t h4
    clear h' h4
    go_enter Tryd.func109, Tryd.ntmps109
    go_wp2
    go_ret
    exact ⟨rfl, rfl⟩
  · have h5 := tmod_f h4
    clear h' h4
    go_enter Tryd.func109, Tryd.ntmps109
    go_wp2
    go_ret
    exact ⟨rfl, rfl⟩

theorem length_any (y m : Int) (w : World) : Calls Tryd.prog 108 #[.int .i64 y, .int .i64 m] w fun e w' => e = .returned (.int .i64 (len y m)) ∧ w = w' := by
  by_cases hm : 1 ≤ m ∧ m ≤ 12
  · obtain ⟨h1, h2⟩ := hm
    refine months (P := fun m => Calls Tryd.prog 108 #[.int .i64 y, .int .i64 m] w fun e w' => e = .returned (.int .i64 (len y m)) ∧ w = w') m h1 h2 ?_
    have h01 := lp_01 y
    have HL : Hid (∀ m, m ≠ 2 → len y m = len 0 m) := Lib.hid (by intro m h; unfold len; rw [if_neg h, if_neg h])
    refine ⟨?_, ?_, ?_, ?_, ?_, ?_, ?_, ?_, ?_, ?_, ?_, ?_⟩
    rotate_left
    · by_cases hl : lp y = 1
      · have HE := Lib.hid (show (29 : Int) = len y 2 by simp [len]; omega)
        go_enter Tryd.func108, Tryd.ntmps108
        go_wp2_with (go_at_call 109; refine (leap_yes _ _ hl).mono ?_; rintro e w' ⟨rfl, rfl⟩)
        go_ret
        exact ⟨ret_i64 HE.out, rfl⟩
      · have hl : lp y = 0 := by omega
        have HE := Lib.hid (show (28 : Int) = len y 2 by simp [len]; omega)
        go_enter Tryd.func108, Tryd.ntmps108
        go_wp2_with (go_at_call 109; refine (leap_no _ _ hl).mono ?_; rintro e w' ⟨rfl, rfl⟩)
        go_ret
        exact ⟨ret_i64 HE.out, rfl⟩
    all_goals
      clear h01
      go_enter Tryd.func108, Tryd.ntmps108
      go_wp2
      go_ret
      exact ⟨ret_i64 (by rw [HL.out _ (by decide)]; rfl), rfl⟩
  · have HE := Lib.hid (len_no y m hm).symm
    have n1 : (m == 1) = false := by rw [beq_eq_false_iff_ne]; omega
    have n2 : (m == 2) = false := by rw [beq_eq_false_iff_ne]; omega
    have n3 : (m == 3) = false := by rw [beq_eq_false_iff_ne]; omega
    have n4 : (m == 4) = false := by rw [beq_eq_false_iff_ne]; omega
    have n5 : (m == 5) = false := by rw [beq_eq_false_iff_ne]; omega
    have n6 : (m == 6) = false := by rw [beq_eq_false_iff_ne]; omega
    have n7 : (m == 7) = false := by rw [beq_eq_false_iff_ne]; omega
    have n8 : (m == 8) = false := by rw [beq_eq_false_iff_ne]; omega
    have n9 : (m == 9) = false := by rw [beq_eq_false_iff_ne]; omega
    have n10 : (m == 10) = false := by rw [beq_eq_false_iff_ne]; omega
    have n11 : (m == 11) = false := by rw [beq_eq_false_iff_ne]; omega
    have n12 : (m == 12) = false := by rw [beq_eq_false_iff_ne]; omega
    clear hm
    go_enter Tryd.func108, Tryd.ntmps108
    go_wp2
    go_ret
    exact ⟨ret_i64 HE.out, rfl⟩

theorem told_yes (y : Int) (w : World) (h1 : -1000000000 ≤ y) (h2 : y ≤ 1000000000) : Calls Tryd.prog 102 #[.int .i64 y] w fun e w' => e = .returned (.bool true) ∧ w = w' := by
  go_enter Tryd.func102, Tryd.ntmps102
  go_wp2
  go_ret
  exact ⟨rfl, rfl⟩
theorem told_no (y : Int) (w : World) (h : y < -1000000000 ∨ 1000000000 < y) : Calls Tryd.prog 102 #[.int .i64 y] w fun e w' => e = .returned (.bool false) ∧ w = w' := by
  by_cases h1 : y < -1000000000
  · have hd : decide (-1000000000 ≤ y) = false := by rw [decide_eq_false_iff_not]; omega
    clear h
    go_enter Tryd.func102, Tryd.ntmps102
    go_wp2
    go_ret
    exact ⟨rfl, rfl⟩
  · have h3 : -1000000000 ≤ y := by omega
    have hd : decide (y ≤ 1000000000) = false := by rw [decide_eq_false_iff_not]; omega
    clear h h1
    go_enter Tryd.func102, Tryd.ntmps102
    go_wp2
    go_ret
    exact ⟨rfl, rfl⟩

theorem floorI_pos (a b : Int) (h : 0 < b) : floorI a b = a / b := by unfold floorI; rw [if_neg (by omega)]
theorem i64_of (a : Int) (h1 : -9000000000000000000 ≤ a) (h2 : a ≤ 9000000000000000000) : I64 a := by unfold I64; omega
theorem ahead_any (y : Int) (w : World) (h1 : -1000000002 ≤ y) (h2 : y ≤ 1000000002) : Calls Tryd.prog 107 #[.int .i64 y] w fun e w' => e = .returned (.int .i64 (aheadI y)) ∧ w = w' := by
  have f4 := floorI_pos (y - 1) 4 (by omega)
  have f100 := floorI_pos (y - 1) 100 (by omega)
  have f400 := floorI_pos (y - 1) 400 (by omega)
  have i := i64_of (y - 1) (by omega) (by omega)
  have i4 := i64_of 4 (by omega) (by omega)
  have i100 := i64_of 100 (by omega) (by omega)
  have i400 := i64_of 400 (by omega) (by omega)
  have b4 : -250000001 ≤ (y - 1) / 4 ∧ (y - 1) / 4 ≤ 250000001 := by omega
  have b100 : -10000001 ≤ (y - 1) / 100 ∧ (y - 1) / 100 ≤ 10000001 := by omega
  have b400 : -2500001 ≤ (y - 1) / 400 ∧ (y - 1) / 400 ≤ 2500001 := by omega
  obtain ⟨b41, b42⟩ := b4
  obtain ⟨b101, b102⟩ := b100
  obtain ⟨b401, b402⟩ := b400
  go_enter Tryd.func107, Tryd.ntmps107
  go_wp2_with (go_at_call 106; refine (floor_any _ _ _ (by assumption) (by assumption)).mono ?_; rintro e w' ⟨rfl, rfl⟩)
  go_ret
  exact ⟨rfl, rfl⟩
theorem startI_any (y : Int) (w : World) (h1 : -1000000002 ≤ y) (h2 : y ≤ 1000000002) : Calls Tryd.prog 103 #[.int .i64 y] w fun e w' => e = .returned (.int .i64 (startI y)) ∧ w = w' := by
  have hb := startI_bd y (by omega) (by omega)
  have ha : aheadI 1970 = 719162 := by decide
  obtain ⟨hb1, hb2⟩ := hb
  have e1 : startI y = aheadI y - 719162 := rfl
  rw [e1] at hb1 hb2
  have HE := Lib.hid e1.symm
  have c1 : (-1000000002 : Int) ≤ 1970 := by omega
  have c2 : (1970 : Int) ≤ 1000000002 := by omega
  clear e1
  go_enter Tryd.func103, Tryd.ntmps103
  go_wp2_with (go_at_call 107; refine (ahead_any _ _ (by assumption) (by assumption)).mono ?_; rintro e w' ⟨rfl, rfl⟩)
  go_ret
  exact ⟨ret_i64 HE.out, rfl⟩
theorem ret_ib {a b : Int} {x : Bool} (h : a = b) : Ending.returned (.tuple #[.int .i64 a, .bool x]) = .returned (.tuple #[.int .i64 b, .bool x]) := by rw [h]
end Go.Proofs.YtigbbepgfofcoaaDoor
