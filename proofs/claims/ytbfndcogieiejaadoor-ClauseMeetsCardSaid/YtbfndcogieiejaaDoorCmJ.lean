/- The chapter's example (layer 13). -/
import Derived.Test.YtbfndcogieiejaaDoorWh
import Derived.Test.YtbfndcogieiejaaDoorCm3
import Derived.Test.YtbfndcogieiejaaDoorShA
namespace Go.Proofs.YtbfndcogieiejaaDoor
open Go.RowKit Civ
set_option linter.unusedVariables false

/-- steps of units below a day: each day may have instants on them -/
theorem makes_lo (c : Cl) (s : Sp) (hu1 : 0 ≤ c.u) (hu2 : c.u < 3) (hst : 1 ≤ c.st) {A : Int} (hW : Both c.u c.an A) : MakesStep c s true := fun W => by
  refine (udays_lo c.u c.st c.an A hu1 hu2 hst hW W).mono ?_
  rintro e W' ⟨g, rfl, hg, _, hb⟩
  refine ⟨74, #[.pointer (some ⟨g, 0, none⟩)], rfl, entersD Tryd.func74 (by kernel_rfl) rfl, fun Z hZ => ?_, hb⟩
  exact udays1_any s g true Z ((hZ.block _ (lt_of_block hg)).trans hg)
/-- Full, but Week of Monday -/
def monC : Cl := { fullC with wk := 2 }
theorem setWk (c : Cl) (k : Nat) : (clC c).setIfInBounds 6 (.int .u64 (k : Nat)) = clC { c with wk := k } := by simp [clC]
theorem full_in : ClIn fullC := by refine ⟨?_, ?_, ?_, ?_, ?_, ?_, ?_, fun i => ?_⟩ <;> simp [fullC, fullP]
theorem mon_in : ClIn monC := by refine ⟨?_, ?_, ?_, ?_, ?_, ?_, ?_, fun i => ?_⟩ <;> simp [monC, fullC, fullP]
theorem full_clip : same7 fullW (clip fullW) = true := (same7_iff _ _).2 fun i _ => by unfold clip fullW; simp
theorem mon_may : mayB monC = true := by
  have h1 : masksB monC = true := by decide +kernel
  have h2 : ordB monC.n monC.b monC.D = true := by decide +kernel
  unfold mayB
  rw [h1, h2, show same7 monC.P (clip monC.P) = true from full_clip]
  decide
theorem mon_four : dateB monC (spOf 4 1970 1 5) = true := by decide +kernel
theorem mon_zero : dateB monC (spOf 0 1970 1 1) = false := by decide +kernel
theorem date_four : IsDate 4 1970 1 5 := by unfold IsDate; decide +kernel
theorem date_zero : IsDate 0 1970 1 1 := by unfold IsDate; decide +kernel
def CB (W0 : World) (g : Nat) (c : Cl) (X : World) : Prop := Below W0.heap.size W0 X ∧ X.heap[g]? = some (.cells (clC c) 28 (0, 0))
theorem CB.to {W0 X : World} {g : Nat} {c : Cl} (H : CB W0 g c X) {Y : World} (hb : Below X.heap.size X Y) : CB W0 g c Y := ⟨H.1.trans (hb.mono H.1.size), (hb.block _ (lt_of_block H.2)).trans H.2⟩
theorem CB.drew {W0 X : World} {g : Nat} {c : Cl} (H : CB W0 g c X) : CB W0 g c X.drew := H.to (Below.refl _ _).drew

set_option maxHeartbeats 1600000 in
set_option maxRecDepth 20000 in
theorem lives13_any (w : World) (hT : TabUn w) : Calls Tryd.prog 9 #[] w fun e w' => e = .returned (.bool true) ∧ Below w.heap.size w w' := by
  have hbo : Both 0 0 (0 / 1) := both_low 0 0 1 (by decide) (by decide) (by decide) (by decide)
  have K4 := Lib.hid (fun W h => cday_any monC mon_in (spOf 4 1970 1 5) (by decide) (by decide) true mon_may (makes_lo monC _ (by decide) (by decide) (by decide) hbo) W h)
  have K0 := Lib.hid (fun W h => cday_any monC mon_in (spOf 0 1970 1 1) (by decide) (by decide) true mon_may (makes_lo monC _ (by decide) (by decide) (by decide) hbo) W h)
  rw [mon_four, spOf_v] at K4
  rw [mon_zero, spOf_v] at K0
  have KF := Lib.hid (fun W => cfull_any W)
  have KR := Lib.hid (fun W => rfull_any W)
  have KS4 := Lib.hid (fun W => rshape_ok 4 1970 1 5 W date_four (by decide) (by decide))
  have KS0 := Lib.hid (fun W => rshape_ok 0 1970 1 1 W date_zero (by decide) (by decide))
  have he := fun W => eq_cl fullC fullC W
  rw [eqCl_self] at he
  have hgd := guard_cl
  have HT := Lib.hid hT
  have HM := Lib.hid (show (clC fullC).setIfInBounds 6 (.int .u64 2) = clC monC from setWk fullC 2)
  clear hT hbo
  unfold clV at KF KR K4 K0
  generalize shapeV 4 1970 1 5 = v4 at K4 KS4
  generalize shapeV 0 1970 1 1 = v0 at K0 KS0
  generalize hC : monC = cm at K4 K0 HM
  generalize hF : fullC = cf at KF KR he HM
  have K := KF.out w
  go_enter Tryd.func9, Tryd.ntmps9
  go_wp2_with fail
  refine K.mono ?_
  clear K
  rintro e w1 ⟨rfl, hb1⟩
  have HB1 := Lib.hid hb1
  have HN := Lib.hid (blk_new w1 (.cells clZ 28))
  clear hb1
  have HG2 := Lib.hid (row_set (cs := clC cf) HN.out)
  have hz6 : ((w1.alloc (.cells clZ 28)).setRow w1.heap.size (clC cf)).frozen? ⟨w1.heap.size, 6, none⟩ = false := blk_free HG2.out 6
  have hx6 : ((w1.alloc (.cells clZ 28)).setRow w1.heap.size (clC cf)).cell? ⟨w1.heap.size, 6, none⟩ = some (.int .u64 (cf.wk : Nat)) := blk_cell HG2.out 6
  have HB2 := Lib.hid (Below.but (HB1.out.alloc HB1.out.size (.cells clZ 28)) (row_but _ w1.heap.size (clC cf)) (fun i hi hx => by have := HB1.out.size; omega))
  obtain ⟨W2, hW2⟩ : ∃ W2, (w1.alloc (.cells clZ 28)).setRow w1.heap.size (clC cf) = W2 := ⟨_, rfl⟩
  rw [hW2] at HG2 hz6 hx6 HB2
  have HG3 := Lib.hid (blk_put HG2.out 6 (.int .u64 2))
  rw [HM.out] at HG3
  have HB3 := Lib.hid (HB2.out.setCell (p := ⟨w1.heap.size, 6, none⟩) (HB1.out.size) (.int .u64 2))
  obtain ⟨W3, hW3⟩ : ∃ W3, W2.setCell ⟨w1.heap.size, 6, none⟩ (.int .u64 2) = W3 := ⟨_, rfl⟩
  rw [hW3] at HG3 HB3
  have HS3 := Lib.hid (show CB W3 w1.heap.size cm W3 from ⟨Below.refl _ _, HG3.out⟩)
  have HT3 := Lib.hid (HT.out.bel HB3.out)
  clear HG2 HM HT HB2 HG3 HB1 hC hF
  unfold clZ at hW2
  go_wp2_with (first | (refine wpList_storeRow HN.out (clC cf) rfl _ _ _ rfl rfl rfl (by unfold clC; kernel_rfl) (by unfold clC; kernel_rfl) (by unfold clC; kernel_rfl) ?_) | fail)
  generalize w1.heap.size = g at *
  clear hW3 hW2 hz6 hx6 HN
  refine wp_region_held_drew (S := CB W3 g cm) (by kernel_rfl) HS3.out.drew (fun hHeld => ?_)

  refine heldVal 0 rfl rfl (by kernel_rfl) (by kernel_rfl) (by kernel_rfl) (fun _ _ _ h => h) (by rfl) (fun w hSw => exec_loadRow hSw.2 rfl rfl Tryd.underlying28 rfl (by unfold clC; kernel_rfl)) (by assumption) ?_
  try simp only [Act.put, List.setIfInBounds_toArray, List.set_cons_zero, List.set_cons_succ]
  refine heldCall 1 rfl rfl (by kernel_rfl) (by rfl) (fun K hK => ?_)
  go_simp
  refine (KS4.out _).mono ?_
  rintro e wa ⟨rfl, hb⟩
  have hSa : CB W3 g cm wa := hHeld.to hb
  clear hb
  go_wp2_with fail
  refine hK.out _ _ ?hS (fun hHeld => ?_)
  case hS => (exact hSa)
  clear hK K
  try simp only [Act.put, List.setIfInBounds_toArray, List.set_cons_zero, List.set_cons_succ]
  refine heldCall 2 rfl rfl (by kernel_rfl) (by rfl) (fun K hK => ?_)
  go_simp
  refine (K4.out _ (HT3.out.bel hSa.1)).mono ?_
  rintro e wb ⟨rfl, hb⟩
  have hSb : CB W3 g cm wb := hSa.to hb
  clear hb hSa
  go_wp2_with fail
  refine hK.out _ _ ?hS (fun hHeld => ?_)
  case hS => (exact hSb)
  clear hK K
  try simp only [Act.put, List.setIfInBounds_toArray, List.set_cons_zero, List.set_cons_succ]
  refine heldVal (v := ?v) 3 rfl rfl (by kernel_rfl) (by kernel_rfl) (by kernel_rfl) (fun _ _ _ h => h) (by rfl) (fun w hSw => ?hy) (by assumption) ?_
  case hy => ((try dsimp only at hSw); go_simp; (try with_reducible rfl))
  try simp only [Act.put, List.setIfInBounds_toArray, List.set_cons_zero, List.set_cons_succ]
  refine heldVal 4 rfl rfl (by kernel_rfl) (by kernel_rfl) (by kernel_rfl) (fun _ _ _ h => h) (by rfl) (fun w hSw => exec_loadRow hSw.2 rfl rfl Tryd.underlying28 rfl (by unfold clC; kernel_rfl)) (by assumption) ?_
  try simp only [Act.put, List.setIfInBounds_toArray, List.set_cons_zero, List.set_cons_succ]
  refine heldCall 5 rfl rfl (by kernel_rfl) (by rfl) (fun K hK => ?_)
  go_simp
  refine (KS0.out _).mono ?_
  rintro e wc ⟨rfl, hb⟩
  have hSc : CB W3 g cm wc := hSb.to hb
  clear hb hSb
  go_wp2_with fail
  refine hK.out _ _ ?hS (fun hHeld => ?_)
  case hS => (exact hSc)
  clear hK K
  try simp only [Act.put, List.setIfInBounds_toArray, List.set_cons_zero, List.set_cons_succ]
  refine heldCall 6 rfl rfl (by kernel_rfl) (by rfl) (fun K hK => ?_)
  go_simp
  refine (K0.out _ (HT3.out.bel hSc.1)).mono ?_
  rintro e wd ⟨rfl, hb⟩
  have hSd : CB W3 g cm wd := hSc.to hb
  clear hb hSc
  go_wp2_with fail
  refine hK.out _ _ ?hS (fun hHeld => ?_)
  case hS => (exact hSd)
  clear hK K
  try simp only [Act.put, List.setIfInBounds_toArray, List.set_cons_zero, List.set_cons_succ]
  refine heldVal (v := ?v) 7 rfl rfl (by kernel_rfl) (by kernel_rfl) (by kernel_rfl) (fun _ _ _ h => h) (by rfl) (fun w hSw => ?hy) (by assumption) ?_
  case hy => ((try dsimp only at hSw); go_simp; (try with_reducible rfl))
  try simp only [Act.put, List.setIfInBounds_toArray, List.set_cons_zero, List.set_cons_succ]
  refine heldVal (v := ?v) 8 rfl rfl (by kernel_rfl) (by kernel_rfl) (by kernel_rfl) (fun _ _ _ h => h) (by rfl) (fun w hSw => ?hy) (by assumption) ?_
  case hy => ((try dsimp only at hSw); go_simp; (try with_reducible rfl))
  try simp only [Act.put, List.setIfInBounds_toArray, List.set_cons_zero, List.set_cons_succ]
  refine heldVal (v := ?v) 9 rfl rfl (by kernel_rfl) (by kernel_rfl) (by kernel_rfl) (fun _ _ _ h => h) (by rfl) (fun w hSw => ?hy) (by assumption) ?_
  case hy => ((try dsimp only at hSw); go_simp; (try with_reducible rfl))
  try simp only [Act.put, List.setIfInBounds_toArray, List.set_cons_zero, List.set_cons_succ]
  refine heldCall 10 rfl rfl (by kernel_rfl) (by rfl) (fun K hK => ?_)
  go_simp
  refine (KF.out _).mono ?_
  rintro e we ⟨rfl, hb⟩
  have hSe : CB W3 g cm we := hSd.to hb
  clear hb hSd
  go_wp2_with fail
  refine hK.out _ _ ?hS (fun hHeld => ?_)
  case hS => (exact hSe)
  clear hK K
  try simp only [Act.put, List.setIfInBounds_toArray, List.set_cons_zero, List.set_cons_succ]
  refine heldCall 11 rfl rfl (by kernel_rfl) (by rfl) (fun K hK => ?_)
  go_simp
  refine (KR.out _).mono ?_
  rintro e wf ⟨rfl, hb⟩
  have hSf : CB W3 g cm wf := hSe.to hb
  clear hb hSe
  go_wp2_with fail
  refine hK.out _ _ ?hS (fun hHeld => ?_)
  case hS => (exact hSf)
  clear hK K
  try simp only [Act.put, List.setIfInBounds_toArray, List.set_cons_zero, List.set_cons_succ]
  refine heldVal (v := ?v) 12 rfl rfl (by kernel_rfl) (by kernel_rfl) (by kernel_rfl) (fun _ _ _ h => h) (by rfl) (fun w hSw => ?hy) (by assumption) ?_
  case hy => ((try dsimp only at hSw); go_simp; (try with_reducible rfl))
  try simp only [Act.put, List.setIfInBounds_toArray, List.set_cons_zero, List.set_cons_succ]
  refine heldVal (v := ?v) 13 rfl rfl (by kernel_rfl) (by kernel_rfl) (by kernel_rfl) (fun _ _ _ h => h) (by rfl) (fun w hSw => ?hy) (by assumption) ?_
  case hy => ((try dsimp only at hSw); go_simp; (try with_reducible rfl))
  try simp only [Act.put, List.setIfInBounds_toArray, List.set_cons_zero, List.set_cons_succ]
  refine heldVal (v := ?v) 14 rfl rfl (by kernel_rfl) (by kernel_rfl) (by kernel_rfl) (fun _ _ _ h => h) (by rfl) (fun w hSw => ?hy) (by assumption) ?_
  case hy => ((try dsimp only at hSw); go_simp; (try with_reducible rfl))
  try simp only [Act.put, List.setIfInBounds_toArray, List.set_cons_zero]
  refine wpAnyH_done (by kernel_rfl) ?_ _
  have HB4 := Lib.hid (HB3.out.trans (hSf.1.mono HB3.out.size))
  go_wp2
  go_ret
  exact ⟨rfl, HB4.out⟩
end Go.Proofs.YtbfndcogieiejaaDoor
