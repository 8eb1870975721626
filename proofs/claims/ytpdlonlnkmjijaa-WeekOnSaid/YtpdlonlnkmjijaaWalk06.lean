/- The walks of the statements of layer 6: lives, WeekDays, WeekFar, WeekOn. -/
import Derived.Test.YtpdlonlnkmjijaaWeek
import Derived.Test.YtpdlonlnkmjijaaOpen
namespace Go.Proofs.Ytpdlonlnkmjijaa
open Go.RowKit Civ

theorem lives06_any (w : World) : Calls Try.prog 35 #[] w fun e w' => e = .returned (.bool true) ∧ Below w.heap.size w w' := by
  have hs := fun w => shape_ok 58 1970 2 28 w ⟨by decide, by decide, by decide, by decide, by decide⟩ (by omega) (by omega)
  have e1 : shapeV 58 1970 2 28 = .agg #[.int .i64 58, .int .i64 1970, .int .i64 2, .int .i64 28, .int .i64 1, .int .i64 6, .int .i64 4, .int .i64 1, .int .i64 9, .int .i64 44] := rfl
  have e2 : wd 0 = 4 := by decide
  rw [e1] at hs
  have hi := i64_of 0 (by omega) (by omega)
  clear e1
  go_enter Try.func35, Try.ntmps35
  go_wp2_with (first | (go_at_call 36; refine (hs _).mono ?_; rintro e w' ⟨rfl, hb⟩) | (go_at_call 31; refine (wday_any _ _ hi).mono ?_; rintro e w' ⟨rfl, rfl⟩))
  go_ret
  exact ⟨rfl, hb.alloc hb.size _⟩
theorem weekDays_walk (n a l : Int) (w : World) (wa : (Lit.int .i64 n).wf = true) (_wb : (Lit.int .i64 a).wf = true) (wc : (Lit.int .i64 l).wf = true) :
    Calls Try.prog 7 #[.int .i64 n, .int .i64 a, .int .i64 l] w fun e w' => e = .returned (.bool true) ∧ Below w.heap.size w w' := by
  have hn := wf_i64 wa
  have hl := (wf_i64 wc).2
  clear wa wc
  by_cases h : a < 1 ∨ l < a
  · go_enter Try.func7, Try.ntmps7
    go_wp2_with (first | (go_at_call 29; refine (which_no _ _ _ h).mono ?_; rintro e w' ⟨rfl, rfl⟩) | (go_at_call 30; refine (rwhich_no _ _ _ h).mono ?_; rintro e w' ⟨rfl, rfl⟩) | (go_at_call 31; refine (wday_any _ _ hn).mono ?_; rintro e w' ⟨rfl, rfl⟩) | (go_at_call 32; refine (rwday_any _ _ hn).mono ?_; rintro e w' ⟨rfl, rfl⟩) | (go_at_call 33; refine (wnum_any _ _ hn).mono ?_; rintro e w' ⟨rfl, rfl⟩) | (go_at_call 34; refine (rwnum_any _ _ hn).mono ?_; rintro e w' ⟨rfl, rfl⟩) | (go_at_call 35; refine (lives06_any _).mono ?_; rintro e w' ⟨rfl, hb⟩))
    go_ret
    exact ⟨rfl, hb⟩
  · have h1 : 1 ≤ a := by omega
    have h2 : a ≤ l := by omega
    clear h
    go_enter Try.func7, Try.ntmps7
    go_wp2_with (first | (go_at_call 29; refine (which_ok _ _ _ h1 h2 hl).mono ?_; rintro e w' ⟨rfl, rfl⟩) | (go_at_call 30; refine (rwhich_ok _ _ _ h1 h2 hl).mono ?_; rintro e w' ⟨rfl, rfl⟩) | (go_at_call 31; refine (wday_any _ _ hn).mono ?_; rintro e w' ⟨rfl, rfl⟩) | (go_at_call 32; refine (rwday_any _ _ hn).mono ?_; rintro e w' ⟨rfl, rfl⟩) | (go_at_call 33; refine (wnum_any _ _ hn).mono ?_; rintro e w' ⟨rfl, rfl⟩) | (go_at_call 34; refine (rwnum_any _ _ hn).mono ?_; rintro e w' ⟨rfl, rfl⟩) | (go_at_call 35; refine (lives06_any _).mono ?_; rintro e w' ⟨rfl, hb⟩))
    go_ret
    exact ⟨rfl, hb⟩
theorem weekFar_walk (n : Int) (w : World) (wa : (Lit.int .i64 n).wf = true) :
    Calls Try.prog 9 #[.int .i64 n] w fun e w' => e = .returned (.bool true) ∧ Below w.heap.size w w' := by
  have hn := wf_i64 wa
  clear wa
  have d1 : 1 ≤ wd n := by unfold wd; omega
  have d2 : wd n ≤ 7 := by unfold wd; omega
  by_cases h : n < -9223372036854775801
  · go_enter Try.func9, Try.ntmps9
    go_wp2_with (first | (go_at_call 31; refine (wday_any _ _ hn).mono ?_; rintro e w' ⟨rfl, rfl⟩) | (go_at_call 35; refine (lives06_any _).mono ?_; rintro e w' ⟨rfl, hb⟩))
    go_ret
    exact ⟨rfl, hb⟩
  · have hdn : decide (n < -9223372036854775801) = false := by rw [decide_eq_false_iff_not]; exact h
    have f2 := modI_pos n 7 (by omega)
    have f3 := modI_pos (n % 7 + 3) 7 (by omega)
    have i1 := i64_of 7 (by omega) (by omega)
    have i2 := i64_of (n % 7 + 3) (by omega) (by omega)
    have hn' := hn
    unfold I64 at hn'
    obtain ⟨m, hm⟩ : ∃ m, m = n % 7 := ⟨_, rfl⟩
    have h1 : 0 ≤ m := by omega
    have h2 : m < 7 := by omega
    have hi : I64 (n - m) := by unfold I64; omega
    have hq : wn (n - m) = n / 7 := by unfold wn; rw [if_neg (by omega)]; omega
    have hb1 : -1400000000000000000 ≤ n / 7 := by omega
    have hb2 : n / 7 ≤ 1400000000000000000 := by omega
    have hr1 : -9223372036854775808 ≤ n - m := by omega
    have hr2 : n - m ≤ 9223372036854775807 := by omega
    have hdd : (m + 3) % 7 + 1 = wd n := by unfold wd; omega
    rw [← hm] at f2 f3 i2
    have hk1 : 0 ≤ (m + 3) % 7 := by omega
    have hk2 : (m + 3) % 7 < 7 := by omega
    by_cases hc : 4 ≤ m
    · have hw : wn n = n / 7 + 1 := by unfold wn; rw [if_pos (by omega)]
      have ht : (n / 7 + 1 == n / 7) = false := by rw [beq_eq_false_iff_ne]; omega
      clear hm h hn'
      go_enter Try.func9, Try.ntmps9
      go_wp2_with (first | (go_at_call 31; refine (wday_any _ _ hn).mono ?_; rintro e w' ⟨rfl, rfl⟩) | (go_at_call 28; refine (rmod_any _ _ _ (by assumption) (by assumption)).mono ?_; rintro e w' ⟨rfl, rfl⟩) | (go_at_call 33; refine (wnum_any _ _ (by assumption)).mono ?_; rintro e w' ⟨rfl, rfl⟩) | (go_at_call 35; refine (lives06_any _).mono ?_; rintro e w' ⟨rfl, hb⟩))
      go_ret
      exact ⟨rfl, hb⟩
    · have hw : wn n = n / 7 := by unfold wn; rw [if_neg (by omega)]
      clear hm h hn'
      go_enter Try.func9, Try.ntmps9
      go_wp2_with (first | (go_at_call 31; refine (wday_any _ _ hn).mono ?_; rintro e w' ⟨rfl, rfl⟩) | (go_at_call 28; refine (rmod_any _ _ _ (by assumption) (by assumption)).mono ?_; rintro e w' ⟨rfl, rfl⟩) | (go_at_call 33; refine (wnum_any _ _ (by assumption)).mono ?_; rintro e w' ⟨rfl, rfl⟩) | (go_at_call 35; refine (lives06_any _).mono ?_; rintro e w' ⟨rfl, hb⟩))
      go_ret
      exact ⟨rfl, hb⟩
end Go.Proofs.Ytpdlonlnkmjijaa
