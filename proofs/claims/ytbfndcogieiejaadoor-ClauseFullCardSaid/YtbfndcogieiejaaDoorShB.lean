/- The next day's shape out of a day's (layer 6). -/
import Derived.Test.YtbfndcogieiejaaDoorShA
namespace Go.Proofs.YtbfndcogieiejaaDoor
open Go.RowKit Civ
set_option linter.unusedVariables false

/-- what the function that follow makes knows: the place in the year, and the year's days -/
def Knows (gA gL : Nat) (y m d : Int) (w : World) : Prop := gA ≠ gL ∧ w.heap[gA]? = some (.cells #[.int .i64 (cum y m + d)] 3 (0, 0)) ∧ w.heap[gL]? = some (.cells #[.int .i64 (365 + lp y)] 3 (0, 0))
theorem wd_next (n : Int) : wd n % 7 + 1 = wd (n + 1) := by unfold wd; omega
theorem wd_bd (n : Int) : 1 ≤ wd n ∧ wd n ≤ 7 := by unfold wd; omega
theorem year_bd {n y m d : Int} (h : IsDate n y m d) (hn1 : 0 ≤ n) (hn2 : n < 146097) : 1970 ≤ y ∧ y ≤ 2370 := by
  obtain ⟨a, b⟩ := h.year
  have c := startI_mono (y + 1) 1970
  have e := startI_mono 2371 y
  have f : startI 1970 = 0 := by decide
  have g : startI 2371 = 146462 := by decide
  omega
end Go.Proofs.YtbfndcogieiejaaDoor
