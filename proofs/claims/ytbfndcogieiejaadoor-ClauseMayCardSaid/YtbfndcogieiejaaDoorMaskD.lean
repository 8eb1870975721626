/- Contracts of the document's List and Span (layer 2). -/
import Derived.Test.YtbfndcogieiejaaDoorMaskC
import Derived.Test.YtbfndcogieiejaaDoorOwn
namespace Go.Proofs.YtbfndcogieiejaaDoor
open Go.RowKit
set_option linter.unusedVariables false

def ListAt (m : Nat) (w : World) (v i : Value) (wr : World) : Prop := ∃ k : Nat, k ≤ 64 ∧ i = .int .i64 k ∧ OwnI wr w.heap.size v (numsP m.testBit k) ∧ Below w.heap.size w wr
end Go.Proofs.YtbfndcogieiejaaDoor
