/- Contracts of the document's answers for stamps and texts of instants (layer 8). -/
import Derived.Test.YtknomegdfaicnaaStampOf
import Derived.Test.YtknomegdfaicnaaDigs
import Derived.BigQuiet
namespace Go.Proofs.Ytknomegdfaicnaa
open Go.RowKit Civ

theorem rof_yes (y m d hh hm hs : Int) (w : World) (i : IsStamp y m d hh hm hs) :
    Calls Try.prog 53 #[stampS y m d hh hm hs] w fun e w' => e = .returned (.int .i64 (86400 * dayI y m d + secI hh hm hs)) ∧ Below w.heap.size w w' := by
  obtain ⟨h1, h2, i1, i2⟩ := i
  have dw := day_win h1 h2 i1
  have k1 := fun w => rmay_yes y m d w i1
  have k2 := fun w => rnumber_any y m d w i1
  rw [show startI y + cum y m + d - 1 = dayI y m d from rfl] at k2
  obtain ⟨s1, s2, s3, s4, s5, s6⟩ := i2
  unfold stampS secI
  obtain ⟨n, hn⟩ : ∃ n, n = dayI y m d := ⟨_, rfl⟩
  rw [← hn] at k2 dw ⊢
  clear hn i1
  have n1 := dec_f (show ¬ y < 1970 by omega)
  have n2 := dec_f (show ¬ 2369 < y by omega)
  have n3 := dec_f (show ¬ hh < 0 by omega)
  have n4 := dec_f (show ¬ 23 < hh by omega)
  have n5 := dec_f (show ¬ hm < 0 by omega)
  have n6 := dec_f (show ¬ 59 < hm by omega)
  have n7 := dec_f (show ¬ hs < 0 by omega)
  have n8 := dec_f (show ¬ 59 < hs by omega)
  go_enter Try.func53, Try.ntmps53
  go_wp2_with fail
  refine (k1 _).mono ?_
  rintro e w1 ⟨rfl, rfl⟩
  go_wp2_with fail
  go_quiet ((go_at_call 77; exact Calls.quiet_of_same ((k2 _).mono fun _ _ ⟨h, h'⟩ => ⟨h, h'.symm⟩)))
  go_wp2
  go_ret
  exact ⟨rfl, (below_a1 w _).trans ⟨rfl, rfl, rfl, Nat.le_refl _, fun _ _ => rfl⟩⟩
theorem rof_no (y m d hh hm hs : Int) (w : World) (i : ¬ IsStamp y m d hh hm hs) :
    Calls Try.prog 53 #[stampS y m d hh hm hs] w fun e w' => e = .returned (.int .i64 (-1)) ∧ Below w.heap.size w w' := by
  unfold stampS
  by_cases c1 : y < 1970
  · clear i
    go_enter Try.func53, Try.ntmps53
    go_wp2
    go_ret
    exact ⟨rfl, below_a1 _ _⟩
  have n1 := dec_f c1
  by_cases c2 : 2369 < y
  · clear i c1
    go_enter Try.func53, Try.ntmps53
    go_wp2
    go_ret
    exact ⟨rfl, below_a1 _ _⟩
  have n2 := dec_f c2
  by_cases c3 : Is y m d
  case neg =>
    have k1 := fun w => rmay_no y m d w c3
    clear i c1 c2 c3
    go_enter Try.func53, Try.ntmps53
    go_wp2_with fail
    refine (k1 _).mono ?_
    rintro e w1 ⟨rfl, rfl⟩
    go_wp2
    go_ret
    exact ⟨rfl, below_a1 _ _⟩
  have k1 := fun w => rmay_yes y m d w c3
  by_cases c4 : hh < 0
  · clear i c1 c2 c3
    go_enter Try.func53, Try.ntmps53
    go_wp2_with fail
    refine (k1 _).mono ?_
    rintro e w1 ⟨rfl, rfl⟩
    go_wp2
    go_ret
    exact ⟨rfl, below_a1 _ _⟩
  have n3 := dec_f c4
  by_cases c5 : 23 < hh
  · clear i c1 c2 c3 c4
    go_enter Try.func53, Try.ntmps53
    go_wp2_with fail
    refine (k1 _).mono ?_
    rintro e w1 ⟨rfl, rfl⟩
    go_wp2
    go_ret
    exact ⟨rfl, below_a1 _ _⟩
  have n4 := dec_f c5
  by_cases c6 : hm < 0
  · clear i c1 c2 c3 c4 c5
    go_enter Try.func53, Try.ntmps53
    go_wp2_with fail
    refine (k1 _).mono ?_
    rintro e w1 ⟨rfl, rfl⟩
    go_wp2
    go_ret
    exact ⟨rfl, below_a1 _ _⟩
  have n5 := dec_f c6
  by_cases c7 : 59 < hm
  · clear i c1 c2 c3 c4 c5 c6
    go_enter Try.func53, Try.ntmps53
    go_wp2_with fail
    refine (k1 _).mono ?_
    rintro e w1 ⟨rfl, rfl⟩
    go_wp2
    go_ret
    exact ⟨rfl, below_a1 _ _⟩
  have n6 := dec_f c7
  by_cases c8 : hs < 0
  · clear i c1 c2 c3 c4 c5 c6 c7
    go_enter Try.func53, Try.ntmps53
    go_wp2_with fail
    refine (k1 _).mono ?_
    rintro e w1 ⟨rfl, rfl⟩
    go_wp2
    go_ret
    exact ⟨rfl, below_a1 _ _⟩
  have n7 := dec_f c8
  by_cases c9 : 59 < hs
  · clear i c1 c2 c3 c4 c5 c6 c7 c8
    go_enter Try.func53, Try.ntmps53
    go_wp2_with fail
    refine (k1 _).mono ?_
    rintro e w1 ⟨rfl, rfl⟩
    go_wp2
    go_ret
    exact ⟨rfl, below_a1 _ _⟩
  have n8 := dec_f c9
  exact absurd ⟨by omega, by omega, c3, by omega, by omega, by omega, by omega, by omega, by omega⟩ i
end Go.Proofs.Ytknomegdfaicnaa
