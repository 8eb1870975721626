/- The walks of the statements of layer 5: lives, CivilNumbers, CivilDates. -/
import Derived.Test.YtpdlonlnkmjijaaRefCivil
import Derived.Test.YtpdlonlnkmjijaaOpen
namespace Go.Proofs.Ytpdlonlnkmjijaa
open Go.RowKit Civ

theorem lives05_any (w : World) : Calls Try.prog 21 #[] w fun e w' => e = .returned (.bool true) ∧ w = w' := by
  have c1 := number_ok 1970 1 1 w (by decide) (by decide) (by decide) (by decide) (by decide) (by decide)
  have c2 := number_ok 2000 2 29 w (by decide) (by decide) (by decide) (by decide) (by decide) (by decide)
  have c3 := ordinal_ok 2000 2 29 w (by decide) (by decide) (by decide) (by decide) (by decide) (by decide)
  rw [show startI 1970 + cum 1970 1 + 1 - 1 = 0 by decide] at c1
  rw [show startI 2000 + cum 2000 2 + 29 - 1 = 11016 by decide] at c2
  rw [show cum 2000 2 + 29 = 60 by decide] at c3
  go_enter Try.func21, Try.ntmps21
  go_wp2_with fail
  refine c1.mono ?_
  rintro e w' ⟨rfl, rfl⟩
  go_wp2_with fail
  refine c2.mono ?_
  rintro e w' ⟨rfl, rfl⟩
  go_wp2_with fail
  refine c3.mono ?_
  rintro e w' ⟨rfl, rfl⟩
  go_wp2
  go_ret
  exact ⟨rfl, rfl⟩
theorem leapV (y : Int) : ∃ b : Bool, (∀ w, Calls Try.prog 16 #[.int .i64 y] w fun e w' => e = .returned (.bool b) ∧ w = w') ∧ (∀ w, Calls Try.prog 17 #[.int .i64 y] w fun e w' => e = .returned (.bool b) ∧ w = w') := by
  by_cases h : lp y = 1
  · exact ⟨true, fun w => leap_yes y w h, fun w => rleap_yes y w h⟩
  · have h : lp y = 0 := by have := lp_01 y; omega
    exact ⟨false, fun w => leap_no y w h, fun w => rleap_no y w h⟩
theorem civilNumbers_walk (y m d : Int) (w : World) (_wa : (Lit.int .i64 y).wf = true) (_wb : (Lit.int .i64 m).wf = true) (_wc : (Lit.int .i64 d).wf = true) :
    Calls Try.prog 3 #[.int .i64 y, .int .i64 m, .int .i64 d] w fun e w' => e = .returned (.bool true) ∧ Below w.heap.size w w' := by
  obtain ⟨b, hb1, hb2⟩ := leapV y
  by_cases h : Is y m d
  · have H := Lib.hid h
    obtain ⟨h1, h2, h3, h4, h5, h6⟩ := h
    obtain ⟨c3, c4⟩ := len_bd y m h3 h4
    have hd3 : d ≤ 31 := by omega
    cases b
    all_goals
      go_enter Try.func3, Try.ntmps3
      go_wp2_with (first | (go_at_call 14; refine (number_ok _ _ _ _ h1 h2 h3 h4 h5 h6).mono ?_; rintro e w' ⟨rfl, rfl⟩) | (go_at_call 15; refine (ordinal_ok _ _ _ _ h1 h2 h3 h4 h5 h6).mono ?_; rintro e w' ⟨rfl, rfl⟩) | (go_at_call 16; refine (hb1 _).mono ?_; rintro e w' ⟨rfl, rfl⟩) | (go_at_call 17; refine (hb2 _).mono ?_; rintro e w' ⟨rfl, rfl⟩) | (go_at_call 18; refine (length_any _ _ _).mono ?_; rintro e w' ⟨rfl, rfl⟩) | (go_at_call 19; refine (rlength_any _ _ _).mono ?_; rintro e w' ⟨rfl, rfl⟩) | (go_at_call 20; refine (rmay_yes _ _ _ _ H.out).mono ?_; rintro e w' ⟨rfl, rfl⟩) | (go_at_call 21; refine (lives05_any _).mono ?_; rintro e w' ⟨rfl, rfl⟩) | (go_at_call 22; refine (rnumber_any _ _ _ _ H.out).mono ?_; rintro e w' ⟨rfl, rfl⟩) | (go_at_call 23; refine (rordinal_any _ _ _ _ h3 h4 h5 hd3).mono ?_; rintro e w' ⟨rfl, rfl⟩))
      go_ret
      exact ⟨rfl, Below.refl _ _⟩
  · have H := Lib.hid h
    have h' := h
    unfold Is at h'
    have H' := Lib.hid h'
    clear h h'
    cases b
    all_goals
      go_enter Try.func3, Try.ntmps3
      go_wp2_with (first | (go_at_call 14; refine (number_no _ _ _ _ H'.out).mono ?_; rintro e w' ⟨rfl, rfl⟩) | (go_at_call 15; refine (ordinal_no _ _ _ _ H'.out).mono ?_; rintro e w' ⟨rfl, rfl⟩) | (go_at_call 16; refine (hb1 _).mono ?_; rintro e w' ⟨rfl, rfl⟩) | (go_at_call 17; refine (hb2 _).mono ?_; rintro e w' ⟨rfl, rfl⟩) | (go_at_call 18; refine (length_any _ _ _).mono ?_; rintro e w' ⟨rfl, rfl⟩) | (go_at_call 19; refine (rlength_any _ _ _).mono ?_; rintro e w' ⟨rfl, rfl⟩) | (go_at_call 20; refine (rmay_no _ _ _ _ H.out).mono ?_; rintro e w' ⟨rfl, rfl⟩) | (go_at_call 21; refine (lives05_any _).mono ?_; rintro e w' ⟨rfl, rfl⟩))
      go_ret
      exact ⟨rfl, Below.refl _ _⟩
theorem civilDates_walk (n : Int) (w : World) (wa : (Lit.int .i64 n).wf = true) :
    Calls Try.prog 4 #[.int .i64 n] w fun e w' => e = .returned (.bool true) ∧ Below w.heap.size w w' := by
  have hn := wf_i64 wa
  obtain ⟨y, m, d, h⟩ := exists_date n
  have i1 := i64_of 146097 (by omega) (by omega)
  have f1 := floorI_pos n 146097 (by omega)
  have f2 : modI n 146097 = n % 146097 := by unfold modI; rw [if_neg (by omega)]
  have hv := fun w => date_v n y m d w h hn
  have hr := fun w => rdate_v n y m d w h hn
  have hcy := fun w => cycle_any n w hn
  clear wa
  have key : (dateV y m d = .tuple #[.int .i64 y, .int .i64 m, .int .i64 d, .bool true]) ∨ (dateV y m d = .tuple #[.int .i64 0, .int .i64 0, .int .i64 0, .bool false]) := by
    unfold dateV; split
    · exact .inl rfl
    · exact .inr rfl
  rcases key with k | k
  all_goals
    rw [k] at hv hr
    clear k h
    go_enter Try.func4, Try.ntmps4
    go_wp2_with (first | (go_at_call 24; refine (hv _).mono ?_; rintro e w' ⟨rfl, rfl⟩) | (go_at_call 25; refine (hr _).mono ?_; rintro e w' ⟨rfl, rfl⟩) | (go_at_call 26; refine (hcy _).mono ?_; rintro e w' ⟨rfl, rfl⟩) | (go_at_call 27; refine (rfloor_any _ _ _ (by assumption) (by assumption)).mono ?_; rintro e w' ⟨rfl, rfl⟩) | (go_at_call 28; refine (rmod_any _ _ _ (by assumption) (by assumption)).mono ?_; rintro e w' ⟨rfl, rfl⟩) | (go_at_call 21; refine (lives05_any _).mono ?_; rintro e w' ⟨rfl, rfl⟩))
    go_ret
    exact ⟨rfl, Below.refl _ _⟩
end Go.Proofs.Ytpdlonlnkmjijaa
