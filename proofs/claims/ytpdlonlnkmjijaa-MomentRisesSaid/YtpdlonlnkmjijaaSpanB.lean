/- Contracts of Empty, In and Len of package span (layer 9), and of the document's In. -/
import Derived.Test.YtpdlonlnkmjijaaSpan
namespace Go.Proofs.Ytpdlonlnkmjijaa
open Go.RowKit

theorem held_cases (f u : Int) : (heldV f u = .agg #[.int .i64 0, .int .i64 (-1)]) ∨ (∃ a b : Int, heldV f u = .agg #[.int .i64 a, .int .i64 b] ∧ 0 ≤ a ∧ a ≤ b ∧ b ≤ 12622780799) := by
  unfold heldV
  split
  · exact .inl rfl
  · refine .inr ⟨_, _, rfl, ?_, ?_, ?_⟩
    · unfold hF; split <;> omega
    · omega
    · unfold hU; split <;> omega
theorem empty_yes (f u : Int) (w : World) (h : heldV f u = .agg #[.int .i64 0, .int .i64 (-1)]) : Calls Try.prog 46 #[.agg #[.int .i64 f, .int .i64 u]] w fun e w' => e = .returned (.bool true) ∧ Below w.heap.size w w' := by
  have hs := fun w => sheld_any f u w
  rw [h] at hs
  clear h
  go_enter Try.func46, Try.ntmps46
  go_wp2_with (first | (go_at_call 45; refine (hs _).mono ?_; rintro e w1 ⟨rfl, hb⟩) | (go_at_call 62; refine (none_any _).mono ?_; rintro e w' ⟨rfl, rfl⟩))
  go_ret
  exact ⟨rfl, ((below_a1 w _).trans (hb.mono (by simp))).alloc (by have := hb.size; simp at this; omega) _⟩
theorem empty_no (f u a b : Int) (w : World) (h : heldV f u = .agg #[.int .i64 a, .int .i64 b]) (ha : 0 ≤ a) (hab : a ≤ b) : Calls Try.prog 46 #[.agg #[.int .i64 f, .int .i64 u]] w fun e w' => e = .returned (.bool false) ∧ Below w.heap.size w w' := by
  have hs := fun w => sheld_any f u w
  rw [h] at hs
  have hb1 : (b == -1) = false := by rw [beq_eq_false_iff_ne]; omega
  clear h
  go_enter Try.func46, Try.ntmps46
  go_wp2_with (first | (go_at_call 45; refine (hs _).mono ?_; rintro e w1 ⟨rfl, hb⟩) | (go_at_call 62; refine (none_any _).mono ?_; rintro e w' ⟨rfl, rfl⟩))
  go_ret
  exact ⟨rfl, ((below_a1 w _).trans (hb.mono (by simp))).alloc (by have := hb.size; simp at this; omega) _⟩
theorem len_any (f u a b : Int) (w : World) (h : heldV f u = .agg #[.int .i64 a, .int .i64 b]) (ha : 0 ≤ a) (hab : a ≤ b + 1) (hb2 : b ≤ 12622780799) : Calls Try.prog 49 #[.agg #[.int .i64 f, .int .i64 u]] w fun e w' => e = .returned (.int .i64 (b - a + 1)) ∧ Below w.heap.size w w' := by
  have hs := fun w => sheld_any f u w
  rw [h] at hs
  clear h
  go_enter Try.func49, Try.ntmps49
  go_wp2_with (go_at_call 45; refine (hs _).mono ?_; rintro e w1 ⟨rfl, hb⟩)
  go_ret
  exact ⟨rfl, ((below_a1 w _).trans (hb.mono (by simp))).alloc (by have := hb.size; simp at this; omega) _⟩
def inB (f u t : Int) : Bool := decide (0 ≤ t ∧ t ≤ 12622780799 ∧ f ≤ t ∧ t ≤ u)
theorem sin_yes (f u t : Int) (w : World) (h : 0 ≤ t ∧ t ≤ 12622780799 ∧ f ≤ t ∧ t ≤ u) : Calls Try.prog 47 #[.agg #[.int .i64 f, .int .i64 u], .int .i64 t] w fun e w' => e = .returned (.bool true) ∧ Below w.heap.size w w' := by
  obtain ⟨h1, h2, h3, h4⟩ := h
  go_enter Try.func47, Try.ntmps47
  go_wp2_with (go_at_call 39; refine (min_yes _ _ h1 (by omega)).mono ?_; rintro e w1 ⟨rfl, rfl⟩)
  go_ret
  exact ⟨rfl, below_a1 _ _⟩
theorem sin_no (f u t : Int) (w : World) (h : ¬ (0 ≤ t ∧ t ≤ 12622780799 ∧ f ≤ t ∧ t ≤ u)) : Calls Try.prog 47 #[.agg #[.int .i64 f, .int .i64 u], .int .i64 t] w fun e w' => e = .returned (.bool false) ∧ Below w.heap.size w w' := by
  by_cases h1 : t < 0 ∨ 12622780800 ≤ t
  · clear h
    go_enter Try.func47, Try.ntmps47
    go_wp2_with (go_at_call 39; refine (min_no _ _ h1).mono ?_; rintro e w1 ⟨rfl, rfl⟩)
    go_ret
    exact ⟨rfl, below_a1 _ _⟩
  · have h2 : 0 ≤ t := by omega
    have h3 : t < 12622780800 := by omega
    by_cases h4 : f ≤ t
    · have hd := dec_f (show ¬ t ≤ u by omega)
      clear h h1
      go_enter Try.func47, Try.ntmps47
      go_wp2_with (go_at_call 39; refine (min_yes _ _ h2 h3).mono ?_; rintro e w1 ⟨rfl, rfl⟩)
      go_ret
      exact ⟨rfl, below_a1 _ _⟩
    · have hd := dec_f h4
      clear h h1 h4
      go_enter Try.func47, Try.ntmps47
      go_wp2_with (go_at_call 39; refine (min_yes _ _ h2 h3).mono ?_; rintro e w1 ⟨rfl, rfl⟩)
      go_ret
      exact ⟨rfl, below_a1 _ _⟩
theorem rin_yes (f u t : Int) (w : World) (h : 0 ≤ t ∧ t ≤ 12622780799 ∧ f ≤ t ∧ t ≤ u) : Calls Try.prog 48 #[.agg #[.int .i64 f, .int .i64 u], .int .i64 t] w fun e w' => e = .returned (.bool true) ∧ Below w.heap.size w w' := by
  obtain ⟨h1, h2, h3, h4⟩ := h
  go_enter Try.func48, Try.ntmps48
  go_wp2
  go_ret
  exact ⟨rfl, below_a1 _ _⟩
theorem rin_no (f u t : Int) (w : World) (h : ¬ (0 ≤ t ∧ t ≤ 12622780799 ∧ f ≤ t ∧ t ≤ u)) : Calls Try.prog 48 #[.agg #[.int .i64 f, .int .i64 u], .int .i64 t] w fun e w' => e = .returned (.bool false) ∧ Below w.heap.size w w' := by
  by_cases h1 : 0 ≤ t
  · by_cases h2 : t ≤ 12622780799
    · by_cases h4 : f ≤ t
      · have hd := dec_f (show ¬ t ≤ u by omega)
        clear h
        go_enter Try.func48, Try.ntmps48
        go_wp2
        go_ret
        exact ⟨rfl, below_a1 _ _⟩
      · have hd := dec_f h4
        clear h
        go_enter Try.func48, Try.ntmps48
        go_wp2
        go_ret
        exact ⟨rfl, below_a1 _ _⟩
    · have hd := dec_f h2
      clear h
      go_enter Try.func48, Try.ntmps48
      go_wp2
      go_ret
      exact ⟨rfl, below_a1 _ _⟩
  · have hd := dec_f h1
    clear h
    go_enter Try.func48, Try.ntmps48
    go_wp2
    go_ret
    exact ⟨rfl, below_a1 _ _⟩
end Go.Proofs.Ytpdlonlnkmjijaa
