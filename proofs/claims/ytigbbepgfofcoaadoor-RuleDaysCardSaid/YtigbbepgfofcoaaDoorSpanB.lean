/- Contracts of Empty, In and Len of package span (layer 9), and of the document's In. -/
import Derived.Test.YtigbbepgfofcoaaDoorSpan
namespace Go.Proofs.YtigbbepgfofcoaaDoor
open Go.RowKit

theorem held_cases (f u : Int) : (heldV f u = .agg #[.int .i64 0, .int .i64 (-1)]) ∨ (∃ a b : Int, heldV f u = .agg #[.int .i64 a, .int .i64 b] ∧ 0 ≤ a ∧ a ≤ b ∧ b ≤ 12622780799) := by
  unfold heldV
  split
  · exact .inl rfl
  · refine .inr ⟨_, _, rfl, ?_, ?_, ?_⟩
    · unfold hF; split <;> omega
    · omega
    · unfold hU; split <;> omega
def inB (f u t : Int) : Bool := decide (0 ≤ t ∧ t ≤ 12622780799 ∧ f ≤ t ∧ t ≤ u)
end Go.Proofs.YtigbbepgfofcoaaDoor
