/- What one piece of the document is, in the three ways that its loop ends (layer 3): plain words, for the walk of the document's Of. -/
import Derived.Test.YtjlieamjlelipaaDoorCvR
namespace Go.Proofs.YtjlieamjlelipaaDoor
open Go.RowKit
set_option linter.unusedVariables false

theorem piece_one (zs : List Int) (p : Nat) (hp : p < zs.length) (h : runN (zs.drop p) = 1) : pieceOf ((zs.drop p).take (runN (zs.drop p))) = (zs[p]?.getD 0, zs[p]?.getD 0, 1) := by
  rw [h]
  unfold pieceOf
  rw [if_pos (by rw [List.length_take, List.length_drop]; omega), take_get _ 1 0 (by omega), drop_get, Nat.add_zero]
theorem piece_last (zs : List Int) (p : Nat) (hp : p + 1 = zs.length) : runN (zs.drop p) = 1 := runN_one _ (by rw [List.length_drop]; omega)
theorem piece_alone (zs : List Int) (p : Nat) (hp : p + 1 < zs.length) (e : extN (zs.drop p) (stepOf (zs.drop p)) 2 (zs.length - p - 2) = 2) (hs : 1 < stepOf (zs.drop p)) : runN (zs.drop p) = 1 :=
  runN_alone _ (by rw [List.length_drop]; omega) (by rw [List.length_drop]; exact e) hs
theorem piece_run (zs : List Int) (p e : Nat) (hp : p + 1 < zs.length) (he : extN (zs.drop p) (stepOf (zs.drop p)) 2 (zs.length - p - 2) = e) (hn : ¬ (e = 2 ∧ 1 < stepOf (zs.drop p))) :
    runN (zs.drop p) = e ∧ 2 ≤ e ∧ p + e ≤ zs.length ∧ pieceOf ((zs.drop p).take (runN (zs.drop p))) = (zs[p]?.getD 0, zs[p + e - 1]?.getD 0, stepOf (zs.drop p)) := by
  have hl : (zs.drop p).length = zs.length - p := List.length_drop
  have hb := extN_bd (zs.drop p) (stepOf (zs.drop p)) (zs.length - p - 2) 2
  rw [he] at hb
  have hr : runN (zs.drop p) = e := by
    rw [runN_more _ (by omega) (by rw [hl, he]; exact hn), hl, he]
  refine ⟨hr, hb.1, by omega, ?_⟩
  rw [hr]
  have ht : ((zs.drop p).take e).length = e := by rw [List.length_take]; omega
  unfold pieceOf
  rw [if_neg (by omega), ht, take_get _ e 0 (by omega), take_get _ e (e - 1) (by omega), drop_get, drop_get, Nat.add_zero, show p + (e - 1) = p + e - 1 by omega]
  unfold stepOf
  rw [take_get _ e 0 (by omega), take_get _ e 1 (by omega)]
theorem step_at (zs : List Int) (p : Nat) : stepOf (zs.drop p) = zs[p + 1]?.getD 0 - zs[p]?.getD 0 := by
  unfold stepOf
  rw [drop_get, drop_get]
  rfl
end Go.Proofs.YtjlieamjlelipaaDoor
