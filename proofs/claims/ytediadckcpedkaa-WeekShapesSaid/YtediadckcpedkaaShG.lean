/- week.Shape of a day that is not of the window; the iterator is no nil function (layer 6). -/
import Derived.Test.YtediadckcpedkaaShF
namespace Go.Proofs.Ytediadckcpedkaa
open Go.RowKit Civ
set_option linter.unusedVariables false

def zeroS : Value := .agg #[.int .i64 0, .int .i64 0, .int .i64 0, .int .i64 0, .int .i64 0, .int .i64 0, .int .i64 0, .int .i64 0, .int .i64 0, .int .i64 0]
theorem shape_no (n : Int) (w : World) (h : n < 0 ∨ 146097 ≤ n) : Calls Try.prog 4 #[.int .i64 n] w fun e w' => e = .returned (.tuple #[zeroS, .bool false]) ∧ Below w.heap.size w w' := by
  by_cases h1 : n < 0
  · have d1 : decide (n < 0) = true := decide_eq_true h1
    clear h
    go_enter Try.func4, Try.ntmps4
    go_wp2
    refine bodyPost_ret (v := .tuple #[zeroS, .bool false]) (by simp [results, Try.results4, go_sem, zeroS]) rfl ⟨rfl, ?_⟩
    first
      | exact (Below.refl _ _).alloc (Nat.le_refl _) _
      | exact ((Below.refl _ _).alloc (Nat.le_refl _) _).alloc (by simp) _
  · have d1 : decide (n < 0) = false := decide_eq_false h1
    have d2 : decide (146097 ≤ n) = true := decide_eq_true (by omega)
    clear h
    go_enter Try.func4, Try.ntmps4
    go_wp2
    refine bodyPost_ret (v := .tuple #[zeroS, .bool false]) (by simp [results, Try.results4, go_sem, zeroS]) rfl ⟨rfl, ?_⟩
    first
      | exact (Below.refl _ _).alloc (Nat.le_refl _) _
      | exact ((Below.refl _ _).alloc (Nat.le_refl _) _).alloc (by simp) _
theorem eq_nilS (F : Fn) (x y : Array Value) (w : World) : Sem.run Try.prog (Op.equal 28 (.func F x y) .nilFunc) w = .ok false w := by
  unfold Op.equal Op.maxDepth
  unfold Op.equalIn
  rw [Sem.run_bind, run_underlying Try.underlying28]
  rfl
theorem nil_funcS (F : Fn) (x y : Array Value) (w : World) : Sem.run Try.prog (binOp BinOp.eql 28 (.func F x y) .nilFunc) w = .ok (.bool false) w := by
  have h : binOp BinOp.eql 28 (.func F x y) .nilFunc = (do pure (.bool (← Op.equal 28 (.func F x y) .nilFunc))) := by simp only [binOp]
  rw [h, Sem.run_bind, eq_nilS, Result.andThen_ok, Sem.run_pure]
end Go.Proofs.Ytediadckcpedkaa
