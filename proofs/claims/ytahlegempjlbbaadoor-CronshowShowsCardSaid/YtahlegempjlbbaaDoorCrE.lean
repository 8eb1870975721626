/- Contracts of cron.Starred and cron.Either, and the law's own example (layer 24). -/
import Derived.Test.YtahlegempjlbbaaDoorCrD
namespace Go.Proofs.YtahlegempjlbbaaDoor
open Go.RowKit
set_option linter.unusedVariables false

def starQ (qs : List Q4) : Bool := decide (0 < qs.length) && ((nthQ qs 0).1 == 0)
theorem items_one {w : World} {g : Nat} {a b c d : Int} {t : TypeId} {z : Nat × Nat} (h : w.heap[g]? = some (.cells #[.int .i64 a, .int .i64 b, .int .i64 c, .int .i64 d] t z)) : ItemsAt w (some ⟨g, 0, none⟩) [(a, b, c, d)] := by
  intro k hk
  obtain rfl : k = 0 := by simpa using hk
  exact ⟨g, 0, rfl, lt_of_block h, blk_cell h 0, blk_cell h 1, blk_cell h 2, blk_cell h 3⟩
end Go.Proofs.YtahlegempjlbbaaDoor
