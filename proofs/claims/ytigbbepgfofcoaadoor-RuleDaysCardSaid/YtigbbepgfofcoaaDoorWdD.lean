/- wide.Either (layer 4). -/
import Derived.Test.YtigbbepgfofcoaaDoorWdC
namespace Go.Proofs.YtigbbepgfofcoaaDoor
open Go.RowKit
set_option linter.unusedVariables false

theorem or_nat (a b : Nat) (ha : a < 18446744073709551616) (hb : b < 18446744073709551616) : bits BinOp.or IntKind.u64 ((a : Nat) : Int) ((b : Nat) : Int) = ((a ||| b : Nat) : Int) := u64_or_nat a b ha hb
theorem orP_step (Ps : List (Nat → Bool)) (k : Nat) (h : k < Ps.length) (j : Nat) : bits BinOp.or IntKind.u64 ((wv (orP (Ps.take k)) j : Nat) : Int) ((wv (Ps[k]?.getD fun _ => false) j : Nat) : Int) = ((wv (orP (Ps.take (k + 1))) j : Nat) : Int) := by
  rw [or_nat _ _ (wv_lt _ _) (wv_lt _ _), wv_or, take_stepP Ps k h]
  congr 1
  exact wv_congr fun i _ => by unfold orP; rw [List.any_append]; simp
theorem sets_one (w : World) (Q : Nat → Bool) (t : TypeId) : Sets (w.alloc (.cells (c7 (wv Q)) t)) (some ⟨w.heap.size, 0, none⟩) [Q] := fun k hk => by
  obtain rfl : k = 0 := by simp at hk; omega
  refine ⟨w.heap.size, 0, rfl, by simp, fun j hj => ?_⟩
  rw [blk_cell (blk_new w _), show 0 + 0 * 7 + j = j by omega, c7_get _ j hj]
  rfl
theorem sets_two (w : World) (Q R : Nat → Bool) (t : TypeId) (cs : Array Value) (hcs : cs = c7 (wv Q) ++ c7 (wv R)) : Sets (w.alloc (.cells cs t)) (some ⟨w.heap.size, 0, none⟩) [Q, R] := fun k hk => by
  subst hcs
  simp at hk
  refine ⟨w.heap.size, 0, rfl, by simp, fun j hj => ?_⟩
  rw [blk_cell (blk_new w _)]
  by_cases h : k = 0
  · subst h
    rw [show 0 + 0 * 7 + j = j by omega, Array.getElem?_append_left (by rw [c7_size]; exact hj), c7_get _ j hj]
    rfl
  · obtain rfl : k = 1 := by omega
    rw [show 0 + 1 * 7 + j = 7 + j by omega, Array.getElem?_append_right (by rw [c7_size]; omega), c7_size, show 7 + j - 7 = j by omega, c7_get _ j hj]
    rfl
theorem sets_at {w : World} {g : Nat} {Q : Nat → Bool} (h : Sev w g (wv Q)) : Sets w (some ⟨g, 0, none⟩) [Q] := fun k hk => by
  obtain rfl : k = 0 := by simp at hk; omega
  refine ⟨g, 0, rfl, h.lt, fun j hj => ?_⟩
  rw [show 0 + 0 * 7 + j = j by omega]
  exact h.cell j hj
/-- what is in one of the sets, of numbers that count -/
def eitherP (Ps : List (Nat → Bool)) : Nat → Bool := clip (orP Ps)
end Go.Proofs.YtigbbepgfofcoaaDoor
