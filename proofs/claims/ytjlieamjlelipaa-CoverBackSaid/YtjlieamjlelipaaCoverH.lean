/- Pieces of rising numbers: back to the numbers; no two follow as one (layer 3). -/
import Derived.Test.YtjlieamjlelipaaCoverE
namespace Go.Proofs.Ytjlieamjlelipaa
open Go.RowKit
set_option linter.unusedVariables false

theorem list_ext'' {xs ys : List Int} (hl : xs.length = ys.length) (h : ∀ j, j < xs.length → xs[j]?.getD 0 = ys[j]?.getD 0) : xs = ys := by
  apply List.ext_getElem hl
  intro n h1 h2
  have := h n h1
  rw [List.getElem?_eq_getElem h1, List.getElem?_eq_getElem h2] at this
  exact this
theorem runN_cases (zs : List Int) (h : 0 < zs.length) : (runN zs = 1 ∧ (zs.length = 1 ∨ 1 < stepOf zs)) ∨ (2 ≤ runN zs ∧ 2 ≤ zs.length ∧ runN zs = extN zs (stepOf zs) 2 (zs.length - 2)) := by
  by_cases h1 : zs.length = 1
  · exact .inl ⟨runN_one zs h1, .inl h1⟩
  · by_cases h2 : extN zs (stepOf zs) 2 (zs.length - 2) = 2 ∧ 1 < stepOf zs
    · exact .inl ⟨runN_alone zs (by omega) h2.1 h2.2, .inr h2.2⟩
    · have e := runN_more zs (by omega) h2
      have := (extN_bd zs (stepOf zs) (zs.length - 2) 2).1
      exact .inr ⟨by omega, by omega, e⟩
theorem run_next (zs : List Int) (h : runN zs < zs.length) : zs[runN zs]?.getD 0 - (pieceOf (zs.take (runN zs))).2.1 ≠ (pieceOf (zs.take (runN zs))).2.2 := by
  rcases runN_cases zs (by omega) with ⟨e, h1 | h1⟩ | ⟨h2, h3, e⟩
  · omega
  · rw [e]
    unfold pieceOf
    rw [if_pos (by rw [List.length_take]; omega)]
    show zs[1]?.getD 0 - (zs.take 1)[0]?.getD 0 ≠ 1
    rw [take_get zs 1 0 (by omega)]
    unfold stepOf at h1
    omega
  · have hn := extN_next zs (stepOf zs) (zs.length - 2) 2 (by omega)
    rw [← e] at hn
    generalize hN : runN zs = N at h h2 e hn ⊢
    have hl : (zs.take N).length = N := by rw [List.length_take]; omega
    unfold pieceOf
    rw [if_neg (by omega)]
    show zs[N]?.getD 0 - (zs.take N)[(zs.take N).length - 1]?.getD 0 ≠ stepOf (zs.take N)
    rw [hl, take_get zs N (N - 1) (by omega)]
    unfold stepOf at hn ⊢
    rw [take_get zs N 1 (by omega), take_get zs N 0 (by omega)]
    exact hn
theorem run_at (zs : List Int) (h : 0 < zs.length) : ∀ k, k < runN zs → zs[k]?.getD 0 = zs[0]?.getD 0 + (k : Int) * stepOf zs := by
  have hb := runN_bd zs h
  rcases runN_cases zs h with ⟨e, _⟩ | ⟨h2, h3, e⟩
  · intro k hk
    obtain rfl : k = 0 := by omega
    simp
  · intro k
    induction k with
    | zero => intro _; simp
    | succ k ih =>
      intro hk
      have ih' := ih (by omega)
      by_cases h0 : k = 0
      · subst h0
        unfold stepOf
        simp
        omega
      · have := extN_all zs (stepOf zs) (zs.length - 2) 2 (k + 1) (by omega) (by rw [← e]; exact hk)
        rw [show k + 1 - 1 = k by omega] at this
        have hm : ((k + 1 : Nat) : Int) * stepOf zs = (k : Int) * stepOf zs + stepOf zs := by
          rw [Int.natCast_add, Int.add_mul]; simp
        rw [hm]
        omega
theorem vals_piece (zs : List Int) (h : 0 < zs.length) (hr : Rise zs) : valsOf (pieceOf (zs.take (runN zs))) = zs.take (runN zs) := by
  have hb := runN_bd zs h
  have hl : (zs.take (runN zs)).length = runN zs := by rw [List.length_take]; omega
  have b0 := hr.bd 0 h
  by_cases h1 : runN zs = 1
  · have hp : pieceOf (zs.take (runN zs)) = (zs[0]?.getD 0, zs[0]?.getD 0, 1) := by
      unfold pieceOf
      rw [if_pos (by omega), take_get zs _ 0 (by omega)]
    have hn : lenN (zs[0]?.getD 0, zs[0]?.getD 0, 1) = 1 := by
      rw [lenN_yes (by unfold noPiece; simp only []; omega)]; simp
    rw [hp]
    unfold valsOf
    rw [hn]
    apply list_ext'' (by rw [valsN_len, hl, h1])
    intro j hj
    rw [valsN_len] at hj
    obtain rfl : j = 0 := by omega
    rw [take_get zs _ 0 (by omega)]
    simp [valsN]
  · have h2 : 2 ≤ runN zs := by omega
    have hst : stepOf zs ≥ 1 := by
      have := (hr 1 (by omega)).2.2 (by omega)
      unfold stepOf
      simp at this
      omega
    have hlast := run_at zs h (runN zs - 1) (by omega)
    have blast := hr.bd (runN zs - 1) (by omega)
    have hp : pieceOf (zs.take (runN zs)) = (zs[0]?.getD 0, zs[runN zs - 1]?.getD 0, stepOf zs) := by
      unfold pieceOf
      rw [if_neg (by omega), hl, take_get zs _ 0 (by omega), take_get zs _ (runN zs - 1) (by omega)]
      unfold stepOf
      rw [take_get zs _ 0 (by omega), take_get zs _ 1 (by omega)]
    have hd : zs[runN zs - 1]?.getD 0 - zs[0]?.getD 0 = ((runN zs - 1 : Nat) : Int) * stepOf zs := by omega
    have hmul : 0 ≤ ((runN zs - 1 : Nat) : Int) * stepOf zs := Int.mul_nonneg (by omega) (by omega)
    have hn : lenN (zs[0]?.getD 0, zs[runN zs - 1]?.getD 0, stepOf zs) = runN zs := by
      rw [lenN_yes (by unfold noPiece; simp only [hd, Int.mul_emod_left]; omega)]
      simp only [hd]
      rw [Int.mul_ediv_cancel _ (by omega)]
      omega
    rw [hp]
    unfold valsOf
    rw [hn]
    apply list_ext'' (by rw [valsN_len, hl])
    intro j hj
    rw [valsN_len] at hj
    rw [take_get zs _ j hj, run_at zs h j hj]
    simp [valsN, hj]
theorem vals_pieces : ∀ (n : Nat) (zs : List Int), zs.length ≤ n → Rise zs → vals (pieces zs) = zs
  | 0, zs, h, _ => by
    have : zs = [] := List.length_eq_zero_iff.1 (by omega)
    subst this
    rw [pieces_nil]; rfl
  | n + 1, zs, h, hr => by
    by_cases h0 : 0 < zs.length
    · have hb := runN_bd zs h0
      have ih := vals_pieces n (zs.drop (runN zs)) (by rw [List.length_drop]; omega) (hr.drop _)
      rw [pieces_step zs h0]
      show valsOf _ ++ vals _ = zs
      rw [vals_piece zs h0 hr, ih, List.take_append_drop]
    · have : zs = [] := List.length_eq_zero_iff.1 (by omega)
      subst this
      rw [pieces_nil]; rfl
/-- no piece goes on where the one ahead ends -/
def Apart (ps : List P3) : Prop := ∀ i, i + 1 < ps.length → (nthP ps (i + 1)).1 - (nthP ps i).2.1 ≠ (nthP ps i).2.2
theorem first_piece (zs : List Int) (h : 0 < zs.length) : (nthP (pieces zs) 0).1 = zs[0]?.getD 0 := by
  have hb := runN_bd zs h
  rw [pieces_step zs h]
  show (pieceOf _).1 = _
  unfold pieceOf
  split <;> exact take_get zs _ 0 (by omega)
theorem pieces_apart : ∀ (n : Nat) (zs : List Int), zs.length ≤ n → Apart (pieces zs)
  | 0, zs, h => by
    have : zs = [] := List.length_eq_zero_iff.1 (by omega)
    subst this
    rw [pieces_nil]; intro i hi; simp at hi
  | n + 1, zs, h => by
    by_cases h0 : 0 < zs.length
    · have hb := runN_bd zs h0
      have ih := pieces_apart n (zs.drop (runN zs)) (by rw [List.length_drop]; omega)
      rw [pieces_step zs h0]
      intro i hi
      cases i with
      | succ i => exact ih i (by simpa using hi)
      | zero =>
        have hd : 0 < (zs.drop (runN zs)).length := by
          rcases Nat.eq_zero_or_pos (zs.drop (runN zs)).length with e | e
          · have : zs.drop (runN zs) = [] := List.length_eq_zero_iff.1 e
            rw [this, pieces_nil] at hi
            simp at hi
          · exact e
        show (nthP (pieces (zs.drop (runN zs))) 0).1 - (pieceOf _).2.1 ≠ (pieceOf _).2.2
        rw [first_piece _ hd, drop_get, Nat.add_zero]
        exact run_next zs (by rw [List.length_drop] at hd; omega)
    · have : zs = [] := List.length_eq_zero_iff.1 (by omega)
      subst this
      rw [pieces_nil]; intro i hi; simp at hi
def Small (p : P3) : Prop := 0 ≤ p.1 ∧ p.1 ≤ 9999 ∧ 0 ≤ p.2.1 ∧ p.2.1 ≤ 9999 ∧ -9999 ≤ p.2.2 ∧ p.2.2 ≤ 9999
theorem Small.p64 {p : P3} (h : Small p) : P64 p := by
  obtain ⟨h1, h2, h3, h4, h5, h6⟩ := h
  exact ⟨⟨by omega, by omega⟩, ⟨by omega, by omega⟩, ⟨by omega, by omega⟩⟩
theorem pieces_small : ∀ (n : Nat) (zs : List Int), zs.length ≤ n → Rise zs → ∀ k, k < (pieces zs).length → Small (nthP (pieces zs) k)
  | 0, zs, h, _ => by
    have : zs = [] := List.length_eq_zero_iff.1 (by omega)
    subst this
    rw [pieces_nil]; intro i hi; simp at hi
  | n + 1, zs, h, hr => by
    by_cases h0 : 0 < zs.length
    · have hb := runN_bd zs h0
      have ih := pieces_small n (zs.drop (runN zs)) (by rw [List.length_drop]; omega) (hr.drop _)
      rw [pieces_step zs h0]
      intro i hi
      cases i with
      | succ i => exact ih i (by simpa using hi)
      | zero =>
        show Small (pieceOf _)
        have hl : (zs.take (runN zs)).length = runN zs := by rw [List.length_take]; omega
        have b0 := hr.bd 0 h0
        unfold pieceOf
        split
        · rw [take_get zs _ 0 (by omega)]
          exact ⟨b0.1, b0.2, b0.1, b0.2, by simp, by simp⟩
        · have b1 := hr.bd 1 (by omega)
          have bl := hr.bd (runN zs - 1) (by omega)
          rw [hl, take_get zs _ 0 (by omega), take_get zs _ (runN zs - 1) (by omega)]
          unfold stepOf
          rw [take_get zs _ 0 (by omega), take_get zs _ 1 (by omega)]
          exact ⟨b0.1, b0.2, bl.1, bl.2, show (-9999 : Int) ≤ zs[1]?.getD 0 - zs[0]?.getD 0 from by omega, show zs[1]?.getD 0 - zs[0]?.getD 0 ≤ (9999 : Int) from by omega⟩
    · have : zs = [] := List.length_eq_zero_iff.1 (by omega)
      subst this
      rw [pieces_nil]; intro i hi; simp at hi
end Go.Proofs.Ytjlieamjlelipaa
