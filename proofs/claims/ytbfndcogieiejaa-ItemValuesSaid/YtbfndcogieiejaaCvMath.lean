/- Pieces of numbers: plain words, nothing of the program is spoken of (layer 3). -/
import Derived.Test.YtbfndcogieiejaaOwn
import Derived.Test.YtbfndcogieiejaaMaskH
namespace Go.Proofs.Ytbfndcogieiejaa
open Go.RowKit
set_option linter.unusedVariables false

/-- the number at a place is one of pieces, and above the one ahead -/
def goodAt (zs : List Int) (k : Nat) : Prop := 0 ≤ zs[k]?.getD 0 ∧ zs[k]?.getD 0 ≤ 9999 ∧ (0 < k → zs[k - 1]?.getD 0 < zs[k]?.getD 0)
def Rise (zs : List Int) : Prop := ∀ k, k < zs.length → goodAt zs k
theorem drop_get (zs : List Int) (p k : Nat) : (zs.drop p)[k]?.getD 0 = zs[p + k]?.getD 0 := by rw [List.getElem?_drop]
theorem take_get (zs : List Int) (n k : Nat) (h : k < n) : (zs.take n)[k]?.getD 0 = zs[k]?.getD 0 := by rw [List.getElem?_take_of_lt h]
theorem Rise.drop {zs : List Int} (h : Rise zs) (p : Nat) : Rise (zs.drop p) := by
  intro k hk
  rw [List.length_drop] at hk
  obtain ⟨h1, h2, h3⟩ := h (p + k) (by omega)
  unfold goodAt
  rw [drop_get, drop_get]
  refine ⟨h1, h2, fun hk0 => ?_⟩
  have := h3 (by omega)
  rwa [show p + k - 1 = p + (k - 1) by omega] at this
/-- how far numbers go on a step apart, from the n-th on -/
def extN (zs : List Int) (st : Int) : Nat → Nat → Nat
  | n, 0 => n
  | n, f + 1 => if zs[n]?.getD 0 - zs[n - 1]?.getD 0 = st then extN zs st (n + 1) f else n
theorem extN_go (zs : List Int) (st : Int) (n f : Nat) (h : zs[n]?.getD 0 - zs[n - 1]?.getD 0 = st) : extN zs st n (f + 1) = extN zs st (n + 1) f := by
  conv => lhs; unfold extN
  rw [if_pos h]
theorem extN_stop (zs : List Int) (st : Int) (n f : Nat) (h : zs[n]?.getD 0 - zs[n - 1]?.getD 0 ≠ st) : extN zs st n (f + 1) = n := by
  unfold extN; rw [if_neg h]
theorem extN_bd (zs : List Int) (st : Int) : ∀ f n, n ≤ extN zs st n f ∧ extN zs st n f ≤ n + f
  | 0, n => ⟨Nat.le_refl _, Nat.le_refl _⟩
  | f + 1, n => by
    unfold extN
    have := extN_bd zs st f (n + 1)
    split
    · omega
    · omega
theorem extN_all (zs : List Int) (st : Int) : ∀ f n k, n ≤ k → k < extN zs st n f → zs[k]?.getD 0 - zs[k - 1]?.getD 0 = st
  | 0, n, k, h1, h2 => by unfold extN at h2; omega
  | f + 1, n, k, h1, h2 => by
    by_cases h : zs[n]?.getD 0 - zs[n - 1]?.getD 0 = st
    · rw [extN_go zs st n f h] at h2
      by_cases e : k = n
      · subst e; exact h
      · exact extN_all zs st f (n + 1) k (by omega) h2
    · rw [extN_stop zs st n f h] at h2; omega
theorem extN_next (zs : List Int) (st : Int) : ∀ f n, extN zs st n f < n + f → zs[extN zs st n f]?.getD 0 - zs[extN zs st n f - 1]?.getD 0 ≠ st
  | 0, n, h => by unfold extN at h; omega
  | f + 1, n, h => by
    by_cases hs : zs[n]?.getD 0 - zs[n - 1]?.getD 0 = st
    · rw [extN_go zs st n f hs] at h ⊢
      exact extN_next zs st f (n + 1) (by omega)
    · rw [extN_stop zs st n f hs] at h ⊢
      exact hs
def stepOf (zs : List Int) : Int := zs[1]?.getD 0 - zs[0]?.getD 0
/-- how many of the first numbers are one piece -/
def runN (zs : List Int) : Nat :=
  if zs.length = 1 then 1
  else if extN zs (stepOf zs) 2 (zs.length - 2) = 2 ∧ 1 < stepOf zs then 1 else extN zs (stepOf zs) 2 (zs.length - 2)
theorem runN_one (zs : List Int) (h : zs.length = 1) : runN zs = 1 := by unfold runN; rw [if_pos h]
theorem runN_alone (zs : List Int) (h : 2 ≤ zs.length) (e : extN zs (stepOf zs) 2 (zs.length - 2) = 2) (hs : 1 < stepOf zs) : runN zs = 1 := by
  unfold runN; rw [if_neg (by omega), if_pos ⟨e, hs⟩]
theorem runN_more (zs : List Int) (h : 2 ≤ zs.length) (hn : ¬ (extN zs (stepOf zs) 2 (zs.length - 2) = 2 ∧ 1 < stepOf zs)) : runN zs = extN zs (stepOf zs) 2 (zs.length - 2) := by
  unfold runN; rw [if_neg (by omega), if_neg hn]
theorem runN_bd (zs : List Int) (h : 0 < zs.length) : 1 ≤ runN zs ∧ runN zs ≤ zs.length := by
  have hb := extN_bd zs (stepOf zs) (zs.length - 2) 2
  unfold runN
  split
  · omega
  · split
    · omega
    · omega
/-- a piece: its first and its last number, and how far apart they are -/
abbrev P3 := Int × Int × Int
def pieceOf (zs : List Int) : P3 := if zs.length = 1 then (zs[0]?.getD 0, zs[0]?.getD 0, 1) else (zs[0]?.getD 0, zs[zs.length - 1]?.getD 0, stepOf zs)
/-- the pieces of numbers -/
def pcs : Nat → List Int → List P3
  | 0, _ => []
  | f + 1, zs => if zs.length = 0 then [] else pieceOf (zs.take (runN zs)) :: pcs f (zs.drop (runN zs))
theorem pcs_nil (f : Nat) : pcs f [] = [] := by
  cases f
  · rfl
  · unfold pcs; exact if_pos rfl
theorem pcs_step (f : Nat) (zs : List Int) (h : 0 < zs.length) : pcs (f + 1) zs = pieceOf (zs.take (runN zs)) :: pcs f (zs.drop (runN zs)) := by
  conv => lhs; unfold pcs
  rw [if_neg (by omega)]
theorem pcs_fuel : ∀ (f g : Nat) (zs : List Int), zs.length ≤ f → zs.length ≤ g → pcs f zs = pcs g zs
  | 0, g, zs, h1, h2 => by
    have : zs = [] := List.length_eq_zero_iff.1 (by omega)
    subst this
    rw [pcs_nil, pcs_nil]
  | f + 1, g, zs, h1, h2 => by
    by_cases h : 0 < zs.length
    · obtain ⟨g', rfl⟩ : ∃ g', g = g' + 1 := ⟨g - 1, by omega⟩
      have hb := runN_bd zs h
      rw [pcs_step f zs h, pcs_step g' zs h, pcs_fuel f g' (zs.drop (runN zs)) (by rw [List.length_drop]; omega) (by rw [List.length_drop]; omega)]
    · have : zs = [] := List.length_eq_zero_iff.1 (by omega)
      subst this
      rw [pcs_nil, pcs_nil]
/-- the pieces of any numbers -/
def pieces (zs : List Int) : List P3 := pcs zs.length zs
theorem pieces_step (zs : List Int) (h : 0 < zs.length) : pieces zs = pieceOf (zs.take (runN zs)) :: pieces (zs.drop (runN zs)) := by
  unfold pieces
  have hb := runN_bd zs h
  rw [show zs.length = zs.length - 1 + 1 by omega, pcs_step _ zs h, pcs_fuel (zs.length - 1) (zs.drop (runN zs)).length _ (by rw [List.length_drop]; omega) (Nat.le_refl _)]
theorem pieces_nil : pieces [] = [] := pcs_nil 0
theorem pieces_le : ∀ (n : Nat) (zs : List Int), zs.length ≤ n → (pieces zs).length ≤ zs.length
  | 0, zs, h => by
    have : zs = [] := List.length_eq_zero_iff.1 (by omega)
    subst this
    rw [pieces_nil]; exact Nat.le_refl _
  | n + 1, zs, h => by
    by_cases h0 : 0 < zs.length
    · have hb := runN_bd zs h0
      have := pieces_le n (zs.drop (runN zs)) (by rw [List.length_drop]; omega)
      rw [pieces_step zs h0, List.length_cons]
      rw [List.length_drop] at this
      omega
    · have : zs = [] := List.length_eq_zero_iff.1 (by omega)
      subst this
      rw [pieces_nil]; exact Nat.le_refl _
end Go.Proofs.Ytbfndcogieiejaa
