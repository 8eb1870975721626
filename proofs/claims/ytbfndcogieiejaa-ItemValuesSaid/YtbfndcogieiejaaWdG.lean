/- The document's Has and List of sets (layer 4). -/
import Derived.Test.YtbfndcogieiejaaWdF
namespace Go.Proofs.Ytbfndcogieiejaa
open Go.RowKit
set_option linter.unusedVariables false

theorem hasW_clip (P : Nat → Bool) (k : Nat) (h : k < 400) : hasW P k = clip P k := by
  rw [hasW_in P k h]; unfold clip; simp [h]
theorem OwnI.ints2 {w : World} {base : Nat} {v : Value} {zs : List Int} (h : OwnI w base v zs) : ∃ A c, v = .slice A zs.length c ∧ Ints .i64 w A zs ∧ zs.length ≤ c := by
  obtain ⟨A, c, hv, hi⟩ := h.ints
  refine ⟨A, c, hv, hi, ?_⟩
  rcases h.2 with ⟨h1, h2⟩ | ⟨g, cap, cur, h1, _, _, h3, _⟩
  · omega
  · rw [hv] at h1
    cases h1
    exact h3
def WListAt (P : Nat → Bool) (w : World) (v i : Value) (wr : World) : Prop := ∃ k : Nat, k ≤ 400 ∧ i = .int .i64 k ∧ OwnI wr (w.heap.size + 1) v (numsP (clip P) k) ∧ Sev wr w.heap.size (wv P) ∧ Below w.heap.size w wr ∧ w.heap.size + 1 ≤ wr.heap.size
end Go.Proofs.Ytbfndcogieiejaa
