/- Contracts of the functions of package week (layer 6) that tell weekdays, weeks, places and shapes, and of the document's answers for them. -/
import Derived.Test.YtigbbepgfofcoaaDoorRefCivil
namespace Go.Proofs.YtigbbepgfofcoaaDoor
open Go.RowKit Civ

def wd (n : Int) : Int := (n + 3) % 7 + 1
def wn (n : Int) : Int := if 4 ≤ n % 7 then n / 7 + 1 else n / 7
theorem modI_pos (a b : Int) (h : 0 < b) : modI a b = a % b := by unfold modI; rw [if_neg (by omega)]
theorem wday_any (n : Int) (w : World) (hn : I64 n) : Calls Tryd.prog 70 #[.int .i64 n] w fun e w' => e = .returned (.int .i64 (wd n)) ∧ w = w' := by
  have f2 := modI_pos n 7 (by omega)
  have i1 := i64_of 7 (by omega) (by omega)
  have h1 : 0 ≤ n % 7 := by omega
  have h2 : n % 7 < 7 := by omega
  go_enter Tryd.func70, Tryd.ntmps70
  go_wp2_with (go_at_call 94; refine (mod_any _ _ _ (by assumption) (by assumption)).mono ?_; rintro e w' ⟨rfl, rfl⟩)
  go_ret
  exact ⟨rfl, rfl⟩
theorem rwday_any (n : Int) (w : World) (hn : I64 n) : Calls Tryd.prog 77 #[.int .i64 n] w fun e w' => e = .returned (.int .i64 (wd n)) ∧ w = w' := by
  have f2 := modI_pos n 7 (by omega)
  have i1 := i64_of 7 (by omega) (by omega)
  obtain ⟨m, hm⟩ : ∃ m, m = n % 7 := ⟨_, rfl⟩
  have h1 : 0 ≤ m := by omega
  have h2 : m < 7 := by omega
  have HW := Lib.hid (show (m + 3) % 7 + 1 = wd n by unfold wd; omega)
  rw [← hm] at f2
  clear hm
  go_enter Tryd.func77, Tryd.ntmps77
  go_wp2_with (go_at_call 97; refine (rmod_any _ _ _ (by assumption) (by assumption)).mono ?_; rintro e w' ⟨rfl, rfl⟩)
  go_loop [4, 5] (fun x i => ∃ k : Int, 0 ≤ k ∧ k ≤ m ∧ i = .int .i64 k ∧ x = .int .i64 ((k + 3) % 7 + 1)) (fun _ i => (m - intOf i).toNat)
  case atStart => exact ⟨0, by omega, h1, rfl, rfl⟩
  case round =>
    obtain ⟨k, hk1, hk2, rfl, rfl⟩ := hrel
    have b1 : 0 ≤ (k + 3) % 7 := by omega
    have b2 : (k + 3) % 7 < 7 := by omega
    by_cases hlt : k < m
    · have HS := Lib.hid (show (k + 3 + 1) % 7 + 1 = (k + 1 + 3) % 7 + 1 by omega)
      go_wp2
      go_round
      case rel => exact ⟨k + 1, by omega, by omega, rfl, by rw [HS.out]⟩
      case measure => simp [intOf]; omega
    · have hkm : k = m := by omega
      subst hkm
      go_wp2
      go_ret
      exact ⟨ret_i64 HW.out, rfl⟩
theorem rwhich_ok (a l : Int) (w : World) (ha : 1 ≤ a) (hl : a ≤ l) (hi : l ≤ 9223372036854775807) : Calls Tryd.prog 74 #[.int .i64 a, .int .i64 l] w fun e w' => e = .returned (.tuple #[.int .i64 ((a - 1) / 7 + 1), .int .i64 ((l - a) / 7 + 1)]) ∧ w = w' := by
  have b1 : 0 ≤ (a - 1) / 7 := by omega
  have b2 : (a - 1) / 7 ≤ 1400000000000000000 := by omega
  have b3 : 0 ≤ (l - a) / 7 := by omega
  have b4 : (l - a) / 7 ≤ 1400000000000000000 := by omega
  have n1 : ¬ a < 1 := by omega
  have n2 : ¬ l < a := by omega
  go_enter Tryd.func74, Tryd.ntmps74
  go_wp2
  go_ret2
  exact ⟨rfl, rfl⟩
theorem rwhich_no (a l : Int) (w : World) (h : a < 1 ∨ l < a) : Calls Tryd.prog 74 #[.int .i64 a, .int .i64 l] w fun e w' => e = .returned (.tuple #[.int .i64 0, .int .i64 0]) ∧ w = w' := by
  by_cases h1 : a < 1
  · clear h
    go_enter Tryd.func74, Tryd.ntmps74
    go_wp2
    go_ret2
    exact ⟨rfl, rfl⟩
  · have h2 : l < a := by omega
    clear h
    go_enter Tryd.func74, Tryd.ntmps74
    go_wp2
    go_ret2
    exact ⟨rfl, rfl⟩
/-- what a day of this date is -/
def shapeV (n y m d : Int) : Value := .agg #[.int .i64 n, .int .i64 y, .int .i64 m, .int .i64 d, .int .i64 (len y m - d + 1), .int .i64 (wd n), .int .i64 ((d - 1) / 7 + 1), .int .i64 ((len y m - d) / 7 + 1), .int .i64 ((cum y m + d - 1) / 7 + 1), .int .i64 ((365 + lp y - (cum y m + d)) / 7 + 1)]
end Go.Proofs.YtigbbepgfofcoaaDoor
