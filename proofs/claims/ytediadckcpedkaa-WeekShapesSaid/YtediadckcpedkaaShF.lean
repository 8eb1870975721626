/- week.Days, and its iterator where there is nothing to tell (layer 6). -/
import Derived.Test.YtediadckcpedkaaShE
import Derived.StillTailTactics
namespace Go.Proofs.Ytediadckcpedkaa
open Go.RowKit Civ
set_option linter.unusedVariables false

theorem days1_none (yl : Value) (PF PT : Nat) (a b : Int) (h : b < a) (w : World) (hf : w.heap[PF]? = some (.cells #[.int .i64 a] 2 (0, 0))) (ht : w.heap[PT]? = some (.cells #[.int .i64 b] 2 (0, 0))) :
    Calls Try.prog 21 #[yl, .pointer (some ⟨PF, 0, none⟩), .pointer (some ⟨PT, 0, none⟩)] w fun e w' => (∃ v, e = .returned v) ∧ w = w' := by
  have c1 : w.cell? ⟨PF, 0, none⟩ = some (.int .i64 a) := blk_cell hf 0
  have c2 : w.cell? ⟨PT, 0, none⟩ = some (.int .i64 b) := blk_cell ht 0
  have d1 : decide (b < a) = true := decide_eq_true h
  clear hf ht
  go_enter Try.func21, Try.ntmps21
  go_wp2
  refine bodyPost_ret (results_none rfl _ _ _) rfl ⟨⟨_, rfl⟩, rfl⟩
set_option maxHeartbeats 1600000 in
set_option maxRecDepth 20000 in
theorem days_any (a b lo hi : Int) (hlo : (if a < 0 then 0 else a) = lo) (hhi : (if 146096 < b then 146096 else b) = hi) (w : World) : Calls Try.prog 6 #[.int .i64 a, .int .i64 b] w fun e w' => ∃ PF PT, e = .returned (.func (.func 21) #[] #[.pointer (some ⟨PF, 0, none⟩), .pointer (some ⟨PT, 0, none⟩)]) ∧
      w'.heap[PF]? = some (.cells #[.int .i64 lo] 2 (0, 0)) ∧ w'.heap[PT]? = some (.cells #[.int .i64 hi] 2 (0, 0)) ∧ w.heap.size ≤ PF ∧ w.heap.size ≤ PT ∧ Below w.heap.size w w' := by
  go_enter Try.func6, Try.ntmps6
  go_wp2
  go_region
  go_wp2
  go_ret
  have q := blk_new (w.alloc (.cells #[.int .i64 lo] 2)) (.cells #[.int .i64 hi] 2)
  rw [size_alloc'] at q
  exact ⟨w.heap.size, w.heap.size + 1, rfl, blk_more (blk_new w _) _, q, Nat.le_refl _, by omega, (((Below.refl _ _).alloc (Nat.le_refl _) _).alloc (by simp) _).drew⟩
end Go.Proofs.Ytediadckcpedkaa
