/- The example that lives asks for (layer 3). -/
import Derived.Test.YtjlieamjlelipaaDoorCvC
namespace Go.Proofs.YtjlieamjlelipaaDoor
open Go.RowKit
set_option linter.unusedVariables false

instance (zs : List Int) (k : Nat) : Decidable (goodAt zs k) := by unfold goodAt; infer_instance
instance (zs : List Int) : Decidable (Rise zs) := by unfold Rise; infer_instance
def exN : List Int := [1, 2, 3, 7, 9, 20]
theorem exN_rise : Rise exN := by decide
theorem exN_pieces : pieces exN = [(1, 3, 1), (7, 7, 1), (9, 9, 1), (20, 20, 1)] := by decide
set_option maxHeartbeats 1600000 in
theorem lives03_any (w : World) : Calls Tryd.prog 29 #[] w fun e w' => e = .returned (.bool true) ∧ Below w.heap.size w w' := by
  have K := of_yes (some ⟨w.heap.size, 0, none⟩) 6 exN (w.alloc (.cells #[.int .i64 1, .int .i64 2, .int .i64 3, .int .i64 7, .int .i64 9, .int .i64 20] 3)) (by decide) (ints_new .i64 w exN _ 3 rfl) (by decide) exN_rise
  rw [exN_pieces, show exN.length = 6 from rfl] at K
  go_enter Tryd.func29, Tryd.ntmps29
  go_wp2_with fail
  refine K.mono ?_
  rintro e w2 ⟨A, c, rfl, hat, hb, _⟩
  obtain ⟨b, off, rfl, hbl, a0, a1, a2⟩ := hat 0 (by decide)
  obtain ⟨b', off', hA, _, d0, d1, d2⟩ := hat 3 (by decide)
  cases hA
  have HB := Lib.hid (((Below.refl w.heap.size w).alloc (Nat.le_refl _) (.cells #[.int .i64 1, .int .i64 2, .int .i64 3, .int .i64 7, .int .i64 9, .int .i64 20] 3)).trans (hb.mono (by simp)))
  have a0' : w2.cell? ⟨b, off, none⟩ = some (.int .i64 1) := a0
  have a1' : w2.cell? ⟨b, off + 1, none⟩ = some (.int .i64 3) := a1
  have a2' : w2.cell? ⟨b, off + 2, none⟩ = some (.int .i64 1) := a2
  have d0' : w2.cell? ⟨b, off + 9, none⟩ = some (.int .i64 20) := d0
  have d1' : w2.cell? ⟨b, off + 9 + 1, none⟩ = some (.int .i64 20) := d1
  have d2' : w2.cell? ⟨b, off + 9 + 2, none⟩ = some (.int .i64 1) := d2
  have d3' : w2.cell? ⟨b, off + 10, none⟩ = some (.int .i64 20) := d1
  have d4' : w2.cell? ⟨b, off + 11, none⟩ = some (.int .i64 1) := d2
  clear hat hb a0 a1 a2 d0 d1 d2 K
  rw [show ([((1 : Int), (3 : Int), (1 : Int)), (7, 7, 1), (9, 9, 1), (20, 20, 1)] : List P3).length = 4 from rfl]
  go_wp2
  go_ret
  exact ⟨rfl, HB.out⟩
end Go.Proofs.YtjlieamjlelipaaDoor
