/- Contract of the document's Span (layer 2). -/
import Derived.Test.YtjdoknbmnokkdaaDoorMask5
import Derived.Deep.QuietTactic
import Derived.BigQuiet
namespace Go.Proofs.YtjdoknbmnokkdaaDoor
open Go.RowKit
set_option linter.unusedVariables false

theorem mk_nums (p : Nat → Bool) : mk (inL (numsP p 64)) = mk p := by
  apply mk_congr
  intro i hi
  unfold inL
  cases h : p i
  · apply decide_eq_false
    intro hm
    obtain ⟨j, _, h2, h3⟩ := mem_numsP.1 hm
    have : i = j := by omega
    subst this
    rw [h] at h2; cases h2
  · exact decide_eq_true (mem_numsP.2 ⟨i, hi, h, rfl⟩)
theorem OwnI.draws {w : World} {base : Nat} {v : Value} {zs : List Int} (h : OwnI w base v zs) (n : Nat) : OwnI (w.drewN n) base v zs := h
theorem tmod_neg (a b : Int) (hb : 0 < b) (h : a.tmod b < 0) : a.tmod b + b = a % b ∧ -b < a.tmod b := by
  have h1 := Int.mul_tdiv_add_tmod a b
  have h2 := Int.lt_tmod_of_pos a hb
  have h3 : a / b = a.tdiv b - 1 ∧ a % b = a.tmod b + b := by
    rw [Int.ediv_emod_unique hb]
    refine ⟨?_, by omega, by omega⟩
    rw [Int.mul_sub]; omega
  exact ⟨h3.2.symm, h2⟩
theorem tmod_pos (a b : Int) (hb : 0 < b) (h : 0 ≤ a.tmod b) : a.tmod b = a % b ∧ a.tmod b < b := by
  have h1 := Int.mul_tdiv_add_tmod a b
  have h2 := Int.tmod_lt_of_pos a hb
  have h3 : a / b = a.tdiv b ∧ a % b = a.tmod b := by
    rw [Int.ediv_emod_unique hb]
    exact ⟨by omega, by omega, by omega⟩
  exact ⟨h3.2.symm, h2⟩
theorem same_mod (k f s : Int) : (k % s = f % s) ↔ (k - f) % s = 0 := Int.emod_eq_emod_iff_emod_sub_eq_zero
theorem inS_in {f t s : Int} {k : Nat} (hs : 0 < s) (h1 : f ≤ k) (h2 : (k : Int) ≤ t) (h3 : (k : Int) % s = f % s) : inS f t s k = true := by
  unfold inS
  exact decide_eq_true ⟨by omega, h1, h2, (same_mod _ _ _).1 h3⟩
theorem inS_out {f t s : Int} {k : Nat} (h : ¬ f ≤ k ∨ ¬ (k : Int) ≤ t ∨ (k : Int) % s ≠ f % s) : inS f t s k = false := by
  unfold inS
  apply decide_eq_false
  rintro ⟨_, h1, h2, h3⟩
  rcases h with h | h | h
  · exact h h1
  · exact h h2
  · exact h ((same_mod _ _ _).2 h3)
def SpanAt (p : Nat → Bool) (w : World) (v i : Value) (wr : World) : Prop := ∃ k : Nat, k ≤ 64 ∧ i = .int .i64 k ∧ OwnI wr w.heap.size v (numsP p k) ∧ Below w.heap.size w wr
end Go.Proofs.YtjdoknbmnokkdaaDoor
