/- Contracts of Size and Phase of package unit (layer 10), of moment's In, Split and Join (layer 8), and of the document's answers for units below a day. -/
import Derived.Test.YtediadckcpedkaaDoorWeek
namespace Go.Proofs.YtediadckcpedkaaDoor
open Go.RowKit Civ

theorem below_a1 (w : World) (o1 : Obj) : Below w.heap.size w (w.alloc o1) := (Below.refl _ _).alloc (Nat.le_refl _) o1
theorem mIn_yes (t : Int) (w : World) (h1 : 0 ≤ t) (h2 : t < 12622780800) : Calls Tryd.prog 43 #[.int .i64 t] w fun e w' => e = .returned (.bool true) ∧ w = w' := by
  go_enter Tryd.func43, Tryd.ntmps43
  go_wp2
  go_ret
  exact ⟨rfl, rfl⟩
theorem mIn_no (t : Int) (w : World) (h : t < 0 ∨ 12622780800 ≤ t) : Calls Tryd.prog 43 #[.int .i64 t] w fun e w' => e = .returned (.bool false) ∧ w = w' := by
  by_cases h1 : t < 0
  · have hd := dec_f (show ¬ 0 ≤ t by omega)
    clear h
    go_enter Tryd.func43, Tryd.ntmps43
    go_wp2
    go_ret
    exact ⟨rfl, rfl⟩
  · have hd := dec_f (show ¬ t < 12622780800 by omega)
    have h2 : 0 ≤ t := by omega
    clear h h1
    go_enter Tryd.func43, Tryd.ntmps43
    go_wp2
    go_ret
    exact ⟨rfl, rfl⟩
theorem rIn_yes (t : Int) (w : World) (h1 : 0 ≤ t) (h2 : t ≤ 12622780799) : Calls Tryd.prog 15 #[.int .i64 t] w fun e w' => e = .returned (.bool true) ∧ w = w' := by
  go_enter Tryd.func15, Tryd.ntmps15
  go_wp2
  go_ret
  exact ⟨rfl, rfl⟩
theorem rIn_no (t : Int) (w : World) (h : t < 0 ∨ 12622780800 ≤ t) : Calls Tryd.prog 15 #[.int .i64 t] w fun e w' => e = .returned (.bool false) ∧ w = w' := by
  by_cases h1 : t < 0
  · have hd := dec_f (show ¬ 0 ≤ t by omega)
    clear h
    go_enter Tryd.func15, Tryd.ntmps15
    go_wp2
    go_ret
    exact ⟨rfl, rfl⟩
  · have hd := dec_f (show ¬ t ≤ 12622780799 by omega)
    have h2 : 0 ≤ t := by omega
    clear h h1
    go_enter Tryd.func15, Tryd.ntmps15
    go_wp2
    go_ret
    exact ⟨rfl, rfl⟩
theorem mSplit_yes (t : Int) (w : World) (h1 : 0 ≤ t) (h2 : t < 12622780800) : Calls Tryd.prog 35 #[.int .i64 t] w fun e w' => e = .returned (.tuple #[.int .i64 (t / 86400), .int .i64 (t % 86400), .bool true]) ∧ w = w' := by
  go_enter Tryd.func35, Tryd.ntmps35
  go_wp2_with (go_at_call 43; refine (mIn_yes _ _ h1 h2).mono ?_; rintro e w' ⟨rfl, rfl⟩)
  go_ret3
  exact ⟨rfl, rfl⟩
theorem mSplit_no (t : Int) (w : World) (h : t < 0 ∨ 12622780800 ≤ t) : Calls Tryd.prog 35 #[.int .i64 t] w fun e w' => e = .returned (.tuple #[.int .i64 0, .int .i64 0, .bool false]) ∧ w = w' := by
  go_enter Tryd.func35, Tryd.ntmps35
  go_wp2_with (go_at_call 43; refine (mIn_no _ _ h).mono ?_; rintro e w' ⟨rfl, rfl⟩)
  go_ret3
  exact ⟨rfl, rfl⟩
theorem mJoin_yes (d s : Int) (w : World) (h1 : 0 ≤ d) (h2 : d < 146097) (h3 : 0 ≤ s) (h4 : s < 86400) : Calls Tryd.prog 76 #[.int .i64 d, .int .i64 s] w fun e w' => e = .returned (.tuple #[.int .i64 (d * 86400 + s), .bool true]) ∧ w = w' := by
  have n1 := dec_f (show ¬ d < 0 by omega)
  have n2 := dec_f (show ¬ 146097 ≤ d by omega)
  have n3 := dec_f (show ¬ s < 0 by omega)
  have n4 := dec_f (show ¬ 86400 ≤ s by omega)
  go_enter Tryd.func76, Tryd.ntmps76
  go_wp2
  go_ret2
  exact ⟨rfl, rfl⟩
theorem mJoin_no (d s : Int) (w : World) (h : d < 0 ∨ 146097 ≤ d ∨ s < 0 ∨ 86400 ≤ s) : Calls Tryd.prog 76 #[.int .i64 d, .int .i64 s] w fun e w' => e = .returned (.tuple #[.int .i64 0, .bool false]) ∧ w = w' := by
  by_cases h1 : d < 0
  · clear h
    go_enter Tryd.func76, Tryd.ntmps76
    go_wp2
    go_ret2
    exact ⟨rfl, rfl⟩
  · have n1 := dec_f h1
    by_cases h2 : 146097 ≤ d
    · clear h h1
      go_enter Tryd.func76, Tryd.ntmps76
      go_wp2
      go_ret2
      exact ⟨rfl, rfl⟩
    · have n2 := dec_f h2
      by_cases h3 : s < 0
      · clear h h1 h2
        go_enter Tryd.func76, Tryd.ntmps76
        go_wp2
        go_ret2
        exact ⟨rfl, rfl⟩
      · have n3 := dec_f h3
        have h4 : 86400 ≤ s := by omega
        clear h h1 h2 h3
        go_enter Tryd.func76, Tryd.ntmps76
        go_wp2
        go_ret2
        exact ⟨rfl, rfl⟩
/-- how great a unit below a day is -/
def sz (u : Int) : Int := if u = 0 then 1 else if u = 1 then 60 else if u = 2 then 3600 else 0
theorem sz_cases (u : Int) : (u = 0 ∧ sz u = 1) ∨ (u = 1 ∧ sz u = 60) ∨ (u = 2 ∧ sz u = 3600) ∨ ((u == 0) = false ∧ (u == 1) = false ∧ (u == 2) = false ∧ sz u = 0) := by
  unfold sz
  by_cases h0 : u = 0
  · subst h0; simp
  · by_cases h1 : u = 1
    · subst h1; simp
    · by_cases h2 : u = 2
      · subst h2; simp
      · simp [h0, h1, h2]
theorem usize_any (u : Int) (w : World) : Calls Tryd.prog 17 #[.int .i64 u] w fun e w' => e = .returned (.int .i64 (sz u)) ∧ w = w' := by
  rcases sz_cases u with ⟨rfl, h⟩ | ⟨rfl, h⟩ | ⟨rfl, h⟩ | ⟨h0, h1, h2, h⟩
  all_goals
    have HE := Lib.hid h
    clear h
    go_enter Tryd.func17, Tryd.ntmps17
    go_wp2
    go_ret
    exact ⟨ret_i64 HE.out.symm, rfl⟩
theorem rusize_any (u : Int) (w : World) : Calls Tryd.prog 18 #[.int .i64 u] w fun e w' => e = .returned (.int .i64 (sz u)) ∧ w = w' := by
  rcases sz_cases u with ⟨rfl, h⟩ | ⟨rfl, h⟩ | ⟨rfl, h⟩ | ⟨h0, h1, h2, h⟩
  all_goals
    have HE := Lib.hid h
    clear h
    go_enter Tryd.func18, Tryd.ntmps18
    go_wp2
    go_ret
    exact ⟨ret_i64 HE.out.symm, rfl⟩
theorem uphase_none (u s a d : Int) (w : World) (h : sz u = 0) : Calls Tryd.prog 40 #[.int .i64 u, .int .i64 s, .int .i64 a, .int .i64 d] w fun e w' => e = .returned (.int .i64 0) ∧ w = w' := by
  have hs : ∀ w, Calls Tryd.prog 17 #[.int .i64 u] w fun e w' => e = .returned (.int .i64 0) ∧ w = w' := fun w => by rw [← h]; exact usize_any u w
  clear h
  by_cases hd : 0 ≤ d ∧ d < 146097
  · go_enter Tryd.func40, Tryd.ntmps40
    go_wp2_with (first | (go_at_call 17; refine (hs _).mono ?_; rintro e w' ⟨rfl, rfl⟩) | (go_at_call 76; refine (mJoin_yes _ _ _ hd.1 hd.2 (by omega) (by omega)).mono ?_; rintro e w' ⟨rfl, rfl⟩))
    go_ret
    exact ⟨rfl, rfl⟩
  · go_enter Tryd.func40, Tryd.ntmps40
    go_wp2_with (first | (go_at_call 17; refine (hs _).mono ?_; rintro e w' ⟨rfl, rfl⟩) | (go_at_call 76; refine (mJoin_no _ _ _ (by omega)).mono ?_; rintro e w' ⟨rfl, rfl⟩))
    go_ret
    exact ⟨rfl, rfl⟩
theorem uphase_out (u s a d : Int) (w : World) (h : ¬ (0 ≤ a ∧ a < 12622780800 ∧ 0 ≤ d ∧ d < 146097)) : Calls Tryd.prog 40 #[.int .i64 u, .int .i64 s, .int .i64 a, .int .i64 d] w fun e w' => e = .returned (.int .i64 0) ∧ w = w' := by
  have hsz := fun w => usize_any u w
  rcases sz_cases u with ⟨rfl, hz⟩ | ⟨rfl, hz⟩ | ⟨rfl, hz⟩ | ⟨h0, h1, h2, hz⟩
  rotate_right
  · exact uphase_none u s a d w hz
  all_goals
    rw [hz] at hsz
    by_cases hd : 0 ≤ d ∧ d < 146097
    · have ha : a < 0 ∨ 12622780800 ≤ a := by omega
      clear h hz
      go_enter Tryd.func40, Tryd.ntmps40
      go_wp2_with (first | (go_at_call 17; refine (hsz _).mono ?_; rintro e w' ⟨rfl, rfl⟩) | (go_at_call 76; refine (mJoin_yes _ _ _ hd.1 hd.2 (by omega) (by omega)).mono ?_; rintro e w' ⟨rfl, rfl⟩) | (go_at_call 43; refine (mIn_no _ _ ha).mono ?_; rintro e w' ⟨rfl, rfl⟩))
      go_ret
      exact ⟨rfl, rfl⟩
    · have hdn : d < 0 ∨ 146097 ≤ d ∨ (0 : Int) < 0 ∨ (86400 : Int) ≤ 0 := by omega
      clear h hz
      go_enter Tryd.func40, Tryd.ntmps40
      go_wp2_with (first | (go_at_call 17; refine (hsz _).mono ?_; rintro e w' ⟨rfl, rfl⟩) | (go_at_call 76; refine (mJoin_no _ _ _ hdn).mono ?_; rintro e w' ⟨rfl, rfl⟩))
      go_ret
      exact ⟨rfl, rfl⟩
/-- the phase: how many units of the day lie ahead of the first one on the step -/
theorem uphase_ok (u s a d A D : Int) (w : World) (h1 : 0 ≤ a) (h2 : a < 12622780800) (h3 : 0 ≤ d) (h4 : d < 146097) (hs : I64 s) (hz : sz u ≠ 0) (hA : a / sz u = A) (hD : d * 86400 / sz u = D) :
    Calls Tryd.prog 40 #[.int .i64 u, .int .i64 s, .int .i64 a, .int .i64 d] w fun e w' => e = .returned (.int .i64 (modI (A - D) s)) ∧ ∃ k, w' = w.drewN k := by
  have hsz := fun w => usize_any u w
  have hj := fun w => mJoin_yes d 0 w h3 h4 (by omega) (by omega)
  obtain ⟨dd, hdd⟩ : ∃ dd, d * 86400 = dd := ⟨_, rfl⟩
  rw [show d * 86400 + 0 = d * 86400 by omega, hdd] at hj
  rw [hdd] at hD
  have hd1 : 0 ≤ dd := by omega
  have hd2 : dd ≤ 12622780800 := by omega
  have hmod := fun w (hi : I64 (A - D)) => mod_any (A - D) s w hi hs
  rcases sz_cases u with ⟨rfl, hq⟩ | ⟨rfl, hq⟩ | ⟨rfl, hq⟩ | ⟨_, _, _, hq⟩
  rotate_right
  · exact absurd hq hz
  all_goals
    rw [hq] at hsz hA hD
    have hb1 : 0 ≤ A := by omega
    have hb2 : A ≤ 12622780800 := by omega
    have hb3 : 0 ≤ D := by omega
    have hb4 : D ≤ 12622780800 := by omega
    have hi := i64_of (A - D) (by omega) (by omega)
    have hq3 : IntKind.i64.wrap (A - D) = A - D := IntWalk.i64_in _ (by omega)
    clear hz hq hdd
  · obtain rfl : a = A := by omega
    obtain rfl : dd = D := by omega
    have hq1 : IntKind.i64.wrap a = a := IntWalk.i64_in _ (by omega)
    have hq2 : IntKind.i64.wrap dd = dd := IntWalk.i64_in _ (by omega)
    clear hA hD
    go_enter Tryd.func40, Tryd.ntmps40
    go_wp2_with (first | (go_at_call 17; refine (hsz _).mono ?_; rintro e w' ⟨rfl, rfl⟩) | (go_at_call 76; refine (hj _).mono ?_; rintro e w' ⟨rfl, rfl⟩) | (go_at_call 43; refine (mIn_yes _ _ h1 h2).mono ?_; rintro e w' ⟨rfl, rfl⟩))
    go_quiet ((go_at_call 70; exact Calls.quiet_of_same ((hmod _ hi).mono fun _ _ ⟨h, h'⟩ => ⟨h, h'.symm⟩)))
    go_wp2
    go_ret
    exact ⟨rfl, _, rfl⟩
  · have hq1 : IntKind.i64.wrap (a.tdiv 60) = A := by rw [Int.tdiv_eq_ediv_of_nonneg h1, hA]; exact IntWalk.i64_in _ (by omega)
    have hq2 : IntKind.i64.wrap (dd.tdiv 60) = D := by rw [Int.tdiv_eq_ediv_of_nonneg hd1, hD]; exact IntWalk.i64_in _ (by omega)
    clear hA hD
    go_enter Tryd.func40, Tryd.ntmps40
    go_wp2_with (first | (go_at_call 17; refine (hsz _).mono ?_; rintro e w' ⟨rfl, rfl⟩) | (go_at_call 76; refine (hj _).mono ?_; rintro e w' ⟨rfl, rfl⟩) | (go_at_call 43; refine (mIn_yes _ _ h1 h2).mono ?_; rintro e w' ⟨rfl, rfl⟩))
    go_quiet ((go_at_call 70; exact Calls.quiet_of_same ((hmod _ hi).mono fun _ _ ⟨h, h'⟩ => ⟨h, h'.symm⟩)))
    go_wp2
    go_ret
    exact ⟨rfl, _, rfl⟩
  · have hq1 : IntKind.i64.wrap (a.tdiv 3600) = A := by rw [Int.tdiv_eq_ediv_of_nonneg h1, hA]; exact IntWalk.i64_in _ (by omega)
    have hq2 : IntKind.i64.wrap (dd.tdiv 3600) = D := by rw [Int.tdiv_eq_ediv_of_nonneg hd1, hD]; exact IntWalk.i64_in _ (by omega)
    clear hA hD
    go_enter Tryd.func40, Tryd.ntmps40
    go_wp2_with (first | (go_at_call 17; refine (hsz _).mono ?_; rintro e w' ⟨rfl, rfl⟩) | (go_at_call 76; refine (hj _).mono ?_; rintro e w' ⟨rfl, rfl⟩) | (go_at_call 43; refine (mIn_yes _ _ h1 h2).mono ?_; rintro e w' ⟨rfl, rfl⟩))
    go_quiet ((go_at_call 70; exact Calls.quiet_of_same ((hmod _ hi).mono fun _ _ ⟨h, h'⟩ => ⟨h, h'.symm⟩)))
    go_wp2
    go_ret
    exact ⟨rfl, _, rfl⟩
end Go.Proofs.YtediadckcpedkaaDoor
