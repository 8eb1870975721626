/- The walks of the statements of layer 6: lives, WeekDays, WeekFar, WeekOn. -/
import Derived.Test.YtediadckcpedkaaWeek
import Derived.Test.YtediadckcpedkaaOpen
namespace Go.Proofs.Ytediadckcpedkaa
open Go.RowKit Civ

theorem lives06_any (w : World) : Calls Try.prog 8 #[] w fun e w' => e = .returned (.bool true) ∧ Below w.heap.size w w' := by
  have hs := fun w => shape_ok 58 1970 2 28 w ⟨by decide, by decide, by decide, by decide, by decide⟩ (by omega) (by omega)
  have e1 : shapeV 58 1970 2 28 = .agg #[.int .i64 58, .int .i64 1970, .int .i64 2, .int .i64 28, .int .i64 1, .int .i64 6, .int .i64 4, .int .i64 1, .int .i64 9, .int .i64 44] := rfl
  have e2 : wd 0 = 4 := by decide
  rw [e1] at hs
  have hi := i64_of 0 (by omega) (by omega)
  clear e1
  go_enter Try.func8, Try.ntmps8
  go_wp2_with (first | (go_at_call 4; refine (hs _).mono ?_; rintro e w' ⟨rfl, hb⟩) | (go_at_call 12; refine (wday_any _ _ hi).mono ?_; rintro e w' ⟨rfl, rfl⟩))
  go_ret
  exact ⟨rfl, hb.alloc hb.size _⟩
end Go.Proofs.Ytediadckcpedkaa
