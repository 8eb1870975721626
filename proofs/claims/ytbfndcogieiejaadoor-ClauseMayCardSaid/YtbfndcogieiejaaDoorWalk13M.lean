/- The walk of ClauseMay (layer 13). -/
import Derived.Test.YtbfndcogieiejaaDoorCmJ
import Derived.Test.YtbfndcogieiejaaDoorCmF
namespace Go.Proofs.YtbfndcogieiejaaDoor
open Go.RowKit Civ
set_option linter.unusedVariables false

set_option maxHeartbeats 1600000 in
set_option maxRecDepth 20000 in
theorem clauseMay_any (c : Cl) (w : World) (hc : ClIn c) (hT : TabUn w) : Calls Tryd.prog 3 #[clV c] w fun e w' => e = .returned (.bool true) ∧ Below w.heap.size w w' := by
  have HB0 := Lib.hid (show Below w.heap.size w (w.alloc (.cells (clC c) 28)) from (Below.refl _ _).alloc (Nat.le_refl _) _)
  have HC0 := Lib.hid (blk_new w (.cells (clC c) 28))
  have KM := Lib.hid (fun W h => cmay_any c hc W h)
  have KR := Lib.hid (fun W => rmay_any c hc W)
  have KL := Lib.hid (fun W h => lives13_any W h)
  generalize mayB c = bb at KM KR
  obtain ⟨W0, hW0⟩ : ∃ W0, w.alloc (.cells (clC c) 28) = W0 := ⟨_, rfl⟩
  rw [hW0] at HB0 HC0
  have HS0 := Lib.hid (show CB W0 w.heap.size c W0 from ⟨Below.refl _ _, HC0.out⟩)
  have HT := Lib.hid (hT.bel HB0.out)
  clear hT HC0 hc
  unfold clV at KM KR
  unfold clV clC
  unfold clC at hW0
  go_enter Tryd.func3, Tryd.ntmps3
  go_wp2_with fail
  try rw [hW0]
  clear hW0
  refine wp_region_held_drew (S := CB W0 w.heap.size c) (by kernel_rfl) HS0.out.drew (fun hHeld => ?_)
  refine heldVal 0 rfl rfl (by kernel_rfl) (by kernel_rfl) (by kernel_rfl) (fun _ _ _ h => h) (by rfl) (fun w hSw => exec_loadRow hSw.2 rfl rfl Tryd.underlying28 rfl (by unfold clC; kernel_rfl)) (by assumption) ?_
  try simp only [Act.put, List.setIfInBounds_toArray, List.set_cons_zero, List.set_cons_succ]
  refine heldVal 2 rfl rfl (by kernel_rfl) (by kernel_rfl) (by kernel_rfl) (fun _ _ _ h => h) (by rfl) (fun w hSw => exec_loadRow hSw.2 rfl rfl Tryd.underlying28 rfl (by unfold clC; kernel_rfl)) (by assumption) ?_
  try simp only [Act.put, List.setIfInBounds_toArray, List.set_cons_zero, List.set_cons_succ]
  refine heldCall 1 rfl rfl (by kernel_rfl) (by rfl) (fun K hK => ?_)
  go_simp
  refine (KM.out _ (HT.out.bel HS0.out.drew.1)).mono ?_
  rintro e wa ⟨rfl, hb⟩
  have hSa : CB W0 w.heap.size c wa := hHeld.to hb
  clear hb
  go_wp2_with fail
  refine hK.out _ _ ?hS (fun hHeld => ?_)
  case hS => (exact hSa)
  clear hK K
  try simp only [Act.put, List.setIfInBounds_toArray, List.set_cons_zero, List.set_cons_succ]
  refine heldCall 3 rfl rfl (by kernel_rfl) (by rfl) (fun K hK => ?_)
  go_simp
  refine (KR.out _).mono ?_
  rintro e wb ⟨rfl, hb⟩
  have hSb : CB W0 w.heap.size c wb := hSa.to hb
  clear hb hSa
  go_wp2_with fail
  refine hK.out _ _ ?hS (fun hHeld => ?_)
  case hS => (exact hSb)
  clear hK K
  try simp only [Act.put, List.setIfInBounds_toArray, List.set_cons_zero, List.set_cons_succ]
  refine heldVal (v := ?v1) 4 rfl rfl (by kernel_rfl) (by kernel_rfl) (by kernel_rfl) (fun _ _ _ h => h) (by rfl) (fun w hSw => ?hy1) (by assumption) ?_
  case hy1 => ((try dsimp only at hSw); go_simp; (try with_reducible rfl))
  try simp only [Act.put, List.setIfInBounds_toArray, List.set_cons_zero, List.set_cons_succ]
  refine heldVal (v := ?v2) 5 rfl rfl (by kernel_rfl) (by kernel_rfl) (by kernel_rfl) (fun _ _ _ h => h) (by rfl) (fun w hSw => ?hy2) (by assumption) ?_
  case hy2 => ((try dsimp only at hSw); go_simp; (try with_reducible rfl))
  try simp only [Act.put, List.setIfInBounds_toArray, List.set_cons_zero, List.set_cons_succ]
  refine heldCall 6 rfl rfl (by kernel_rfl) (by rfl) (fun K hK => ?_)
  go_simp
  refine (KL.out _ (HT.out.bel hSb.1)).mono ?_
  rintro e wc ⟨rfl, hb⟩
  have hSc : CB W0 w.heap.size c wc := hSb.to hb
  clear hb hSb
  go_wp2_with fail
  refine hK.out _ _ ?hS (fun hHeld => ?_)
  case hS => (exact hSc)
  clear hK K
  try simp only [Act.put, List.setIfInBounds_toArray, List.set_cons_zero, List.set_cons_succ]
  refine heldVal (v := ?v3) 7 rfl rfl (by kernel_rfl) (by kernel_rfl) (by kernel_rfl) (fun _ _ _ h => h) (by rfl) (fun w hSw => ?hy3) (by assumption) ?_
  case hy3 => ((try dsimp only at hSw); go_simp; (try with_reducible rfl))
  try simp only [Act.put, List.setIfInBounds_toArray, List.set_cons_zero, List.set_cons_succ]
  refine heldVal (v := ?v4) 8 rfl rfl (by kernel_rfl) (by kernel_rfl) (by kernel_rfl) (fun _ _ _ h => h) (by rfl) (fun w hSw => ?hy4) (by assumption) ?_
  case hy4 => ((try dsimp only at hSw); go_simp; (try with_reducible rfl))
  try simp only [Act.put, List.setIfInBounds_toArray, List.set_cons_zero, List.set_cons_succ]
  refine wpAnyH_done (by kernel_rfl) ?_ _
  have HB4 := Lib.hid (HB0.out.trans (hSc.1.mono HB0.out.size))
  go_wp2
  go_ret
  exact ⟨rfl, HB4.out⟩
end Go.Proofs.YtbfndcogieiejaaDoor
