/- wide.All (layer 4). -/
import Derived.Test.YtjpdfbljhbgbcaaDoorWdK
import Derived.Test.YtjpdfbljhbgbcaaDoorIter
namespace Go.Proofs.YtjpdfbljhbgbcaaDoor
open Go.RowKit
set_option linter.unusedVariables false

set_option maxHeartbeats 1600000 in
set_option maxRecDepth 20000 in
theorem wall_any (P : Nat → Bool) (w : World) : Calls Tryd.prog 25 #[S7 P] w fun e w' => e = .returned (.func (.func 44) #[] #[.pointer (some ⟨w.heap.size, 0, none⟩)]) ∧ Sev w' w.heap.size (wv (clip P)) ∧ Below w.heap.size w w' := by
  have HR0 := Lib.hid (Sev.new w (wv P))
  obtain ⟨x0, x1, x2, x3, x4, x5, x6⟩ := HR0.out.cells
  have HB0 := Lib.hid (show Below w.heap.size w (w.alloc (.cells (c7 (wv P)) 34)) from (Below.refl _ _).alloc (Nat.le_refl _) _)
  have KB := fun W => both_one P W
  unfold S7 c7 at KB
  unfold S7
  obtain ⟨W0, hW0⟩ : ∃ W0, w.alloc (.cells (c7 (wv P)) 34) = W0 := ⟨_, rfl⟩
  rw [hW0] at HR0 HB0 x0 x1 x2 x3 x4 x5 x6
  have hB0 := HB0.out.size
  have HKB := Lib.hid KB
  clear KB
  go_enter Tryd.func25, Tryd.ntmps25
  go_wp2_with fail
  try rw [hW0]
  clear hW0
  refine (HKB.out _).mono ?_
  rintro e w1 ⟨rfl, hb1⟩
  have HS1 := Lib.hid ((hb1.block _ HR0.out.lt).trans HR0.out)
  have HB1 := Lib.hid (HB0.out.trans (hb1.mono hB0))
  obtain ⟨y0, y1, y2, y3, y4, y5, y6⟩ := Sev.cells HS1.out
  obtain ⟨z0, z1, z2, z3, z4, z5, z6⟩ := Sev.frees HS1.out
  clear hb1 x0 x1 x2 x3 x4 x5 x6
  go_wp2
  obtain ⟨q1, q2⟩ := Sev.put7 HS1.out (wv (clip P))
  go_ret
  exact ⟨rfl, q1, Below.but HB1.out q2 (fun i hi hx => by omega)⟩
end Go.Proofs.YtjpdfbljhbgbcaaDoor
