/- Contracts of tod.Of, moment.Of and of the document's Of (layers 7, 8). -/
import Derived.Test.YtknomegdfaicnaaMomentC
namespace Go.Proofs.Ytknomegdfaicnaa
open Go.RowKit Civ

def IsTod (h m s : Int) : Prop := 0 ≤ h ∧ h < 24 ∧ 0 ≤ m ∧ m < 60 ∧ 0 ≤ s ∧ s < 60
theorem below_no (n k : Int) (w : World) (h : n < 0 ∨ k ≤ n) : Calls Try.prog 78 #[.int .i64 n, .int .i64 k] w fun e w' => e = .returned (.bool false) ∧ w = w' := by
  by_cases h1 : 0 ≤ n
  · have n1 := dec_f (show ¬ n < k by omega)
    clear h
    go_enter Try.func78, Try.ntmps78
    go_wp2
    go_ret
    exact ⟨rfl, rfl⟩
  · have n1 := dec_f h1
    clear h h1
    go_enter Try.func78, Try.ntmps78
    go_wp2
    go_ret
    exact ⟨rfl, rfl⟩
theorem tjoin_any (h m s : Int) (w : World) (i : IsTod h m s) : Calls Try.prog 79 #[.int .i64 h, .int .i64 m, .int .i64 s] w fun e w' => e = .returned (.int .i64 (3600 * h + 60 * m + s)) ∧ w = w' := by
  obtain ⟨h1, h2, h3, h4, h5, h6⟩ := i
  go_enter Try.func79, Try.ntmps79
  go_wp2
  go_ret
  exact ⟨rfl, rfl⟩
theorem tod_yes (h m s : Int) (w : World) (i : IsTod h m s) : Calls Try.prog 57 #[.int .i64 h, .int .i64 m, .int .i64 s] w fun e w' => e = .returned (.tuple #[.int .i64 (3600 * h + 60 * m + s), .bool true]) ∧ w = w' := by
  have k0 := fun w => tjoin_any h m s w i
  obtain ⟨h1, h2, h3, h4, h5, h6⟩ := i
  have k1 := fun w => below_yes h 24 w h1 h2
  have k2 := fun w => below_yes m 60 w h3 h4
  have k3 := fun w => below_yes s 60 w h5 h6
  go_enter Try.func57, Try.ntmps57
  go_wp2_with fail
  refine (k1 _).mono ?_
  rintro e w1 ⟨rfl, rfl⟩
  go_wp2_with fail
  refine (k2 _).mono ?_
  rintro e w1 ⟨rfl, rfl⟩
  go_wp2_with fail
  refine (k3 _).mono ?_
  rintro e w1 ⟨rfl, rfl⟩
  go_wp2_with fail
  refine (k0 _).mono ?_
  rintro e w1 ⟨rfl, rfl⟩
  go_wp2
  go_ret2
  exact ⟨rfl, rfl⟩
theorem tod_no (h m s : Int) (w : World) (i : ¬ IsTod h m s) : Calls Try.prog 57 #[.int .i64 h, .int .i64 m, .int .i64 s] w fun e w' => e = .returned (.tuple #[.int .i64 0, .bool false]) ∧ w = w' := by
  unfold IsTod at i
  by_cases c1 : 0 ≤ h ∧ h < 24
  · have k1 := fun w => below_yes h 24 w c1.1 c1.2
    by_cases c2 : 0 ≤ m ∧ m < 60
    · have k2 := fun w => below_yes m 60 w c2.1 c2.2
      have k3 := fun w => below_no s 60 w (by omega)
      clear i c1 c2
      go_enter Try.func57, Try.ntmps57
      go_wp2_with fail
      refine (k1 _).mono ?_
      rintro e w1 ⟨rfl, rfl⟩
      go_wp2_with fail
      refine (k2 _).mono ?_
      rintro e w1 ⟨rfl, rfl⟩
      go_wp2_with fail
      refine (k3 _).mono ?_
      rintro e w1 ⟨rfl, rfl⟩
      go_wp2
      go_ret2
      exact ⟨rfl, rfl⟩
    · have k2 := fun w => below_no m 60 w (by omega)
      clear i c1 c2
      go_enter Try.func57, Try.ntmps57
      go_wp2_with fail
      refine (k1 _).mono ?_
      rintro e w1 ⟨rfl, rfl⟩
      go_wp2_with fail
      refine (k2 _).mono ?_
      rintro e w1 ⟨rfl, rfl⟩
      go_wp2
      go_ret2
      exact ⟨rfl, rfl⟩
  · have k1 := fun w => below_no h 24 w (by omega)
    clear i c1
    go_enter Try.func57, Try.ntmps57
    go_wp2_with fail
    refine (k1 _).mono ?_
    rintro e w1 ⟨rfl, rfl⟩
    go_wp2
    go_ret2
    exact ⟨rfl, rfl⟩
/-- a stamp that there is, of the window -/
def IsStamp (y m d hh hm hs : Int) : Prop := 1970 ≤ y ∧ y ≤ 2369 ∧ Is y m d ∧ IsTod hh hm hs
def dayI (y m d : Int) : Int := startI y + cum y m + d - 1
def secI (h m s : Int) : Int := 3600 * h + 60 * m + s
theorem day_win {y m d : Int} (h1 : 1970 ≤ y) (h2 : y ≤ 2369) (i : Is y m d) : 0 ≤ dayI y m d ∧ dayI y m d < 146097 := by
  obtain ⟨_, _, a1, a2, a3, a4⟩ := i
  have h3 := startI_mono 1970 y h1
  have h4 := startI_mono (y + 1) 2370 (by omega)
  have e1 : startI 1970 = 0 := by decide
  have e2 : startI 2370 = 146097 := by decide
  have e3 := startI_succ y
  have b := cum_bd y m a1 a2
  unfold dayI
  omega
theorem day_out {y m d : Int} (h : y < 1970 ∨ 2369 < y) (i : Is y m d) : dayI y m d < 0 ∨ 146097 ≤ dayI y m d := by
  obtain ⟨_, _, a1, a2, a3, a4⟩ := i
  have e1 : startI 1970 = 0 := by decide
  have e2 : startI 2370 = 146097 := by decide
  have e3 := startI_succ y
  have b := cum_bd y m a1 a2
  unfold dayI
  rcases h with c | c
  · have h3 := startI_mono (y + 1) 1970 (by omega)
    omega
  · have h3 := startI_mono 2370 y (by omega)
    omega
theorem cnum_yes (y m d : Int) (w : World) (i : Is y m d) : Calls Try.prog 56 #[.int .i64 y, .int .i64 m, .int .i64 d] w fun e w' => e = .returned (.tuple #[.int .i64 (dayI y m d), .bool true]) ∧ w = w' := by
  obtain ⟨a1, a2, a3, a4, a5, a6⟩ := i
  exact number_ok y m d w a1 a2 a3 a4 a5 a6
theorem cnum_no (y m d : Int) (w : World) (i : ¬ Is y m d) : Calls Try.prog 56 #[.int .i64 y, .int .i64 m, .int .i64 d] w fun e w' => e = .returned (.tuple #[.int .i64 0, .bool false]) ∧ w = w' := number_no y m d w i
def stampS (y m d hh hm hs : Int) : Value := .agg #[.int .i64 y, .int .i64 m, .int .i64 d, .int .i64 hh, .int .i64 hm, .int .i64 hs]
theorem mof_yes (y m d hh hm hs : Int) (w : World) (i : IsStamp y m d hh hm hs) :
    Calls Try.prog 20 #[stampS y m d hh hm hs] w fun e w' => e = .returned (.tuple #[.int .i64 (dayI y m d * 86400 + secI hh hm hs), .bool true]) ∧ Below w.heap.size w w' := by
  obtain ⟨h1, h2, i1, i2⟩ := i
  have dw := day_win h1 h2 i1
  have k1 := fun w => cnum_yes y m d w i1
  have k2 := fun w => tod_yes hh hm hs w i2
  obtain ⟨s1, s2, s3, s4, s5, s6⟩ := i2
  have k3 := fun w => mJoin_yes (dayI y m d) (3600 * hh + 60 * hm + hs) w dw.1 dw.2 (by omega) (by omega)
  unfold stampS secI
  obtain ⟨n, hn⟩ : ∃ n, n = dayI y m d := ⟨_, rfl⟩
  rw [← hn] at k1 k3 dw ⊢
  clear hn i1 h1 h2
  go_enter Try.func20, Try.ntmps20
  go_wp2_with fail
  refine (k1 _).mono ?_
  rintro e w1 ⟨rfl, rfl⟩
  go_wp2_with fail
  refine (k2 _).mono ?_
  rintro e w1 ⟨rfl, rfl⟩
  go_wp2_with fail
  refine (k3 _).mono ?_
  rintro e w1 ⟨rfl, rfl⟩
  go_wp2
  go_ret2
  exact ⟨rfl, below_a1 _ _⟩
theorem mof_no (y m d hh hm hs : Int) (w : World) (i : ¬ IsStamp y m d hh hm hs) :
    Calls Try.prog 20 #[stampS y m d hh hm hs] w fun e w' => e = .returned (.tuple #[.int .i64 0, .bool false]) ∧ Below w.heap.size w w' := by
  unfold stampS
  by_cases c1 : Is y m d
  · have k1 := fun w => cnum_yes y m d w c1
    by_cases c2 : IsTod hh hm hs
    · have k2 := fun w => tod_yes hh hm hs w c2
      have c3 : y < 1970 ∨ 2369 < y := by
        by_cases a : 1970 ≤ y
        · by_cases b : y ≤ 2369
          · exact absurd ⟨a, b, c1, c2⟩ i
          · omega
        · omega
      have dw := day_out c3 c1
      have k3 := fun w => mJoin_no (dayI y m d) (3600 * hh + 60 * hm + hs) w (by omega)
      clear i c1 c2 c3 dw
      obtain ⟨n, hn⟩ : ∃ n, n = dayI y m d := ⟨_, rfl⟩
      rw [← hn] at k1 k3
      clear hn
      go_enter Try.func20, Try.ntmps20
      go_wp2_with fail
      refine (k1 _).mono ?_
      rintro e w1 ⟨rfl, rfl⟩
      go_wp2_with fail
      refine (k2 _).mono ?_
      rintro e w1 ⟨rfl, rfl⟩
      go_wp2_with fail
      refine (k3 _).mono ?_
      rintro e w1 ⟨rfl, rfl⟩
      go_wp2
      go_ret2
      exact ⟨rfl, below_a1 _ _⟩
    · have k2 := fun w => tod_no hh hm hs w c2
      clear i c1 c2
      go_enter Try.func20, Try.ntmps20
      go_wp2_with fail
      refine (k1 _).mono ?_
      rintro e w1 ⟨rfl, rfl⟩
      go_wp2_with fail
      refine (k2 _).mono ?_
      rintro e w1 ⟨rfl, rfl⟩
      go_wp2
      go_ret2
      exact ⟨rfl, below_a1 _ _⟩
  · have k1 := fun w => cnum_no y m d w c1
    clear i c1
    by_cases c2 : IsTod hh hm hs
    · have k2 := fun w => tod_yes hh hm hs w c2
      clear c2
      go_enter Try.func20, Try.ntmps20
      go_wp2_with fail
      refine (k1 _).mono ?_
      rintro e w1 ⟨rfl, rfl⟩
      go_wp2_with fail
      refine (k2 _).mono ?_
      rintro e w1 ⟨rfl, rfl⟩
      go_wp2
      go_ret2
      exact ⟨rfl, below_a1 _ _⟩
    · have k2 := fun w => tod_no hh hm hs w c2
      clear c2
      go_enter Try.func20, Try.ntmps20
      go_wp2_with fail
      refine (k1 _).mono ?_
      rintro e w1 ⟨rfl, rfl⟩
      go_wp2_with fail
      refine (k2 _).mono ?_
      rintro e w1 ⟨rfl, rfl⟩
      go_wp2
      go_ret2
      exact ⟨rfl, below_a1 _ _⟩
end Go.Proofs.Ytknomegdfaicnaa
