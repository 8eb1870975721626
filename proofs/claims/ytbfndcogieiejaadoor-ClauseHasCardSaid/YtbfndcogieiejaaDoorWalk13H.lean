/- The walk of ClauseHas (layer 13). -/
import Derived.Test.YtbfndcogieiejaaDoorDt
namespace Go.Proofs.YtbfndcogieiejaaDoor
open Go.RowKit Civ
set_option linter.unusedVariables false

theorem pair_new (w : World) (A B : Value) (t : TypeId) : (w.alloc (.cells #[A, B] t)).cell? ⟨w.heap.size, 0, none⟩ = some A ∧ (w.alloc (.cells #[A, B] t)).cell? ⟨w.heap.size, 1, none⟩ = some B := ⟨blk_cell (blk_new w _) 0, blk_cell (blk_new w _) 1⟩
theorem Below.cl {W W' : World} {g : Nat} {c : Cl} (hb : Below W.heap.size W W') (h : ClAt W g c) : ClAt W' g c := h.below hb
set_option maxHeartbeats 6400000 in
set_option maxRecDepth 20000 in
theorem clauseHas_any (c : Cl) (t : Int) (o : Cl) (w : World) (hc : ClIn c) (wt : (Lit.int .i64 t).wf = true) (ho : ClIn o) (hT : TabUn w) : Calls Tryd.prog 4 #[clV c, .int .i64 t, clV o] w fun e w' => e = .returned (.bool true) ∧ Below w.heap.size w w' := by
  have hti : I64 t := wf_i64 wt
  have HB0 := Lib.hid (show Below w.heap.size w ((w.alloc (.cells (clC c) 28)).alloc (.cells (clC o) 28)) from ((Below.refl _ _).alloc (Nat.le_refl _) _).alloc (by simp) _)
  have HC0 := Lib.hid (show ClAt ((w.alloc (.cells (clC c) 28)).alloc (.cells (clC o) 28)) w.heap.size c from blk_more (blk_new w (.cells (clC c) 28)) (.cells (clC o) 28))
  have HP0 := Lib.hid (show ClAt ((w.alloc (.cells (clC c) 28)).alloc (.cells (clC o) 28)) (w.heap.size + 1) o by
    have q := blk_new (w.alloc (.cells (clC c) 28)) (.cells (clC o) 28)
    rw [size_allocD] at q
    exact q)
  have HT0 := Lib.hid (hT.bel HB0.out)
  obtain ⟨A, B, hv⟩ : ∃ A B : Int, heldV c.fr c.un = .agg #[.int .i64 A, .int .i64 B] := by
    unfold heldV; split
    · exact ⟨_, _, rfl⟩
    · exact ⟨_, _, rfl⟩
  have KSP := Lib.hid (fun W => cspan_any c W)
  have KHE := Lib.hid (fun W => rheld_any c.fr c.un W)
  have KH := Lib.hid (fun W h => chas_any c hc t W h)
  have KRH := Lib.hid (fun W => rhas13_any c hc t hti W)
  have KSA := Lib.hid (fun W => csame_any c o W)
  have KSC := Lib.hid (fun W => csame_any c c W)
  have KIN := Lib.hid (fun W => rin08_any t W)
  have KL := Lib.hid (fun W h => lives13_any W h)
  have KSH := Lib.hid (fun (h1 : 0 ≤ t / 86400) (h2 : t / 86400 < 146097) W => show Calls Tryd.prog 16 #[.int .i64 (t / 86400)] W fun e w' => e = .returned (spV (shD (t / 86400))) ∧ Below W.heap.size W w' from rshape_ok (t / 86400) _ _ _ W (d_is (t / 86400)) h1 h2)
  have KDS := Lib.hid (fun (h1 : 0 ≤ t / 86400) (h2 : t / 86400 < 146097) W h => cdays_ex c hc (t / 86400) h1 h2 W h)
  have KRD := Lib.hid (fun (h1 : 0 ≤ t / 86400) (h2 : t / 86400 < 146097) W => rday_any c hc (t / 86400) h1 h2 W)
  have KDY := Lib.hid (fun (h1 : 0 ≤ t / 86400) (h2 : t / 86400 < 146097) W h => cday_all c hc (t / 86400) h1 h2 W h)
  have HNO := Lib.hid (show ¬ (0 ≤ t ∧ t < 12622780800) → hasB c t = false from fun h => by unfold hasB; rw [dec_n h]; rfl)
  rw [hv] at KSP KHE
  rw [eqCl_self] at KSC
  clear hv hc ho wt hti hT
  generalize hasB c t = hb at KH KRH HNO
  have he := fun W => eq_cl c o W
  have hgd := guard_cl
  have hes := fun W => eq_span A B W
  have hgs := guard_span
  generalize eqCl c o = qo at KSA he
  obtain ⟨W0, hW0⟩ : ∃ W0, (w.alloc (.cells (clC c) 28)).alloc (.cells (clC o) 28) = W0 := ⟨_, rfl⟩
  rw [hW0] at HB0 HC0 HP0 HT0
  unfold clV at KSP KH KRH KSA KSC KDS KRD KDY
  unfold clV clC
  unfold clC at hW0
  go_enter Tryd.func4, Tryd.ntmps4
  go_wp2_with (refine wpList_loadRow HC0.out rfl _ _ rfl rfl _ Tryd.underlying28 rfl (by unfold clC; kernel_rfl) ?_)
  refine (KSP.out _).mono ?_
  rintro e w1 ⟨rfl, hb⟩
  have HB1 := Lib.hid ((HB0.out.trans (hb.mono HB0.out.size)).alloc (HB0.out.trans (hb.mono HB0.out.size)).size (.cells #[.int .i64 A, .int .i64 B] 32))
  have HC1 := Lib.hid (show ClAt (w1.alloc (.cells #[.int .i64 A, .int .i64 B] 32)) w.heap.size c from blk_more (HC0.out.below hb) _)
  have HP1 := Lib.hid (show ClAt (w1.alloc (.cells #[.int .i64 A, .int .i64 B] 32)) (w.heap.size + 1) o from blk_more (HP0.out.below hb) _)
  have HT1 := Lib.hid ((HT0.out.bel hb).bel ((Below.refl w1.heap.size w1).alloc (Nat.le_refl _) (.cells #[.int .i64 A, .int .i64 B] 32)))
  have HS1 := Lib.hid (blk_new w1 (.cells #[.int .i64 A, .int .i64 B] 32))
  clear hb HB0 HC0 HP0 HT0 KSP hW0
  obtain ⟨W1, hW1⟩ : ∃ W1, w1.alloc (.cells #[.int .i64 A, .int .i64 B] 32) = W1 := ⟨_, rfl⟩
  rw [hW1] at HB1 HC1 HP1 HT1 HS1
  obtain ⟨x28, x29⟩ := HC1.out.ends
  go_wp2_with fail
  refine (KHE.out _).mono ?_
  rintro e w2 ⟨rfl, hb⟩
  have HB2 := Lib.hid ((HB1.out.trans (hb.mono HB1.out.size)).alloc (HB1.out.trans (hb.mono HB1.out.size)).size (.cells #[.int .i64 A, .int .i64 B] 34))
  have HC2 := Lib.hid (show ClAt (w2.alloc (.cells #[.int .i64 A, .int .i64 B] 34)) w.heap.size c from blk_more (HC1.out.below hb) _)
  have HP2 := Lib.hid (show ClAt (w2.alloc (.cells #[.int .i64 A, .int .i64 B] 34)) (w.heap.size + 1) o from blk_more (HP1.out.below hb) _)
  have HT2 := Lib.hid ((HT1.out.bel hb).bel ((Below.refl w2.heap.size w2).alloc (Nat.le_refl _) (.cells #[.int .i64 A, .int .i64 B] 34)))
  have HS2 := Lib.hid (blk_more ((hb.block _ (lt_of_block HS1.out)).trans HS1.out) (.cells #[.int .i64 A, .int .i64 B] 34))
  have HH2 := Lib.hid (blk_new w2 (.cells #[.int .i64 A, .int .i64 B] 34))
  clear hb HB1 HC1 HP1 HT1 KHE hW1 x28 x29 HS1
  obtain ⟨W2, hW2⟩ : ∃ W2, w2.alloc (.cells #[.int .i64 A, .int .i64 B] 34) = W2 := ⟨_, rfl⟩
  rw [hW2] at HB2 HC2 HP2 HT2 HS2 HH2
  go_wp2_with fail
  generalize w1.heap.size = gs at *
  generalize w2.heap.size = gh at *
  clear hW2
  have HMK := Lib.hid (fun (Y : World) (hb : Below W2.heap.size W2 Y) => show Below W2.heap.size W2 Y ∧ Y.heap[w.heap.size]? = some (.cells (clC c) 28 (0, 0)) ∧ Y.heap[w.heap.size + 1]? = some (.cells (clC o) 28 (0, 0)) ∧ Y.cell? ⟨gs, 0, none⟩ = some (.int .i64 A) ∧ Y.cell? ⟨gs, 1, none⟩ = some (.int .i64 B) ∧ Y.cell? ⟨gh, 0, none⟩ = some (.int .i64 A) ∧ Y.cell? ⟨gh, 1, none⟩ = some (.int .i64 B) from ⟨hb, (hb.block _ (lt_of_block HC2.out)).trans HC2.out, (hb.block _ (lt_of_block HP2.out)).trans HP2.out, blk_cell ((hb.block _ (lt_of_block HS2.out)).trans HS2.out) 0, blk_cell ((hb.block _ (lt_of_block HS2.out)).trans HS2.out) 1, blk_cell ((hb.block _ (lt_of_block HH2.out)).trans HH2.out) 0, blk_cell ((hb.block _ (lt_of_block HH2.out)).trans HH2.out) 1⟩)
  have hB0 : Below W2.heap.size W2 W2.drew := (Below.refl _ _).drew
  have HS := HMK.out W2.drew hB0
  refine wp_region_held_drew (S := fun X => Below W2.heap.size W2 X ∧ X.heap[w.heap.size]? = some (.cells (clC c) 28 (0, 0)) ∧ X.heap[w.heap.size + 1]? = some (.cells (clC o) 28 (0, 0)) ∧ X.cell? ⟨gs, 0, none⟩ = some (.int .i64 A) ∧ X.cell? ⟨gs, 1, none⟩ = some (.int .i64 B) ∧ X.cell? ⟨gh, 0, none⟩ = some (.int .i64 A) ∧ X.cell? ⟨gh, 1, none⟩ = some (.int .i64 B)) (by kernel_rfl) HS (fun hHeld => ?_)
  refine heldVal 0 rfl rfl (by kernel_rfl) (by kernel_rfl) (by kernel_rfl) (fun _ _ _ h => h) (by rfl) (fun w hSw => exec_loadRow hSw.2.1 rfl rfl Tryd.underlying28 rfl (by unfold clC; kernel_rfl)) (by assumption) ?_
  try simp only [Act.put, List.setIfInBounds_toArray, List.set_cons_zero, List.set_cons_succ]
  refine heldVal (v := ?v1) 1 rfl rfl (by kernel_rfl) (by kernel_rfl) (by kernel_rfl) (fun _ _ _ h => h) (by rfl) (fun w hSw => ?hy1) (by assumption) ?_
  case hy1 => ((try dsimp only at hSw); go_simp; (try with_reducible rfl))
  try simp only [Act.put, List.setIfInBounds_toArray, List.set_cons_zero, List.set_cons_succ]
  refine heldVal 3 rfl rfl (by kernel_rfl) (by kernel_rfl) (by kernel_rfl) (fun _ _ _ h => h) (by rfl) (fun w hSw => exec_loadRow hSw.2.1 rfl rfl Tryd.underlying28 rfl (by unfold clC; kernel_rfl)) (by assumption) ?_
  try simp only [Act.put, List.setIfInBounds_toArray, List.set_cons_zero, List.set_cons_succ]
  refine heldVal (v := ?v2) 4 rfl rfl (by kernel_rfl) (by kernel_rfl) (by kernel_rfl) (fun _ _ _ h => h) (by rfl) (fun w hSw => ?hy2) (by assumption) ?_
  case hy2 => ((try dsimp only at hSw); go_simp; (try with_reducible rfl))
  try simp only [Act.put, List.setIfInBounds_toArray, List.set_cons_zero, List.set_cons_succ]
  refine heldCall 2 rfl rfl (by kernel_rfl) (by rfl) (fun K hK => ?_)
  go_simp
  refine (KH.out _ (HT2.out.bel hB0)).mono ?_
  rintro e v1 ⟨rfl, hb1⟩
  have hB1 : Below W2.heap.size W2 v1 := hB0.trans (hb1.mono hB0.size)
  have hS1 := HMK.out v1 hB1
  clear hb1
  go_wp2_with fail
  refine hK.out _ _ ?hS (fun hHeld => ?_)
  case hS => (exact hS1)
  clear hK K
  try simp only [Act.put, List.setIfInBounds_toArray, List.set_cons_zero, List.set_cons_succ]
  refine heldCall 5 rfl rfl (by kernel_rfl) (by rfl) (fun K hK => ?_)
  go_simp
  refine (KRH.out _).mono ?_
  rintro e v2 ⟨rfl, hb1⟩
  have hB2 : Below W2.heap.size W2 v2 := hB1.trans (hb1.mono hB1.size)
  have hS2 := HMK.out v2 hB2
  clear hb1
  go_wp2_with fail
  refine hK.out _ _ ?hS (fun hHeld => ?_)
  case hS => (exact hS2)
  clear hK K
  try simp only [Act.put, List.setIfInBounds_toArray, List.set_cons_zero, List.set_cons_succ]
  refine heldVal (v := ?v3) 6 rfl rfl (by kernel_rfl) (by kernel_rfl) (by kernel_rfl) (fun _ _ _ h => h) (by rfl) (fun w hSw => ?hy3) (by assumption) ?_
  case hy3 => ((try dsimp only at hSw); go_simp; (try with_reducible rfl))
  try simp only [Act.put, List.setIfInBounds_toArray, List.set_cons_zero, List.set_cons_succ]
  refine heldVal (v := ?v4) 7 rfl rfl (by kernel_rfl) (by kernel_rfl) (by kernel_rfl) (fun _ _ _ h => h) (by rfl) (fun w hSw => ?hy4) (by assumption) ?_
  case hy4 => ((try dsimp only at hSw); go_simp; (try with_reducible rfl))
  try simp only [Act.put, List.setIfInBounds_toArray, List.set_cons_zero, List.set_cons_succ]
  refine heldVal (v := ?v5) 8 rfl rfl (by kernel_rfl) (by kernel_rfl) (by kernel_rfl) (fun _ _ _ h => h) (by rfl) (fun w hSw => ?hy5) (by assumption) ?_
  case hy5 => ((try dsimp only at hSw); go_simp; (try with_reducible rfl))
  try simp only [Act.put, List.setIfInBounds_toArray, List.set_cons_zero, List.set_cons_succ]
  refine heldVal (v := ?v6) 9 rfl rfl (by kernel_rfl) (by kernel_rfl) (by kernel_rfl) (fun _ _ _ h => h) (by rfl) (fun w hSw => ?hy6) (by assumption) ?_
  case hy6 => ((try dsimp only at hSw); go_simp; (try with_reducible rfl))
  try simp only [Act.put, List.setIfInBounds_toArray, List.set_cons_zero, List.set_cons_succ]
  refine heldVal (v := ?v7) 10 rfl rfl (by kernel_rfl) (by kernel_rfl) (by kernel_rfl) (fun _ _ _ h => h) (by rfl) (fun w hSw => ?hy7) (by assumption) ?_
  case hy7 => ((try dsimp only at hSw); go_simp; (try with_reducible rfl))
  try simp only [Act.put, List.setIfInBounds_toArray, List.set_cons_zero, List.set_cons_succ]
  refine heldVal (v := ?v8) 11 rfl rfl (by kernel_rfl) (by kernel_rfl) (by kernel_rfl) (fun _ _ _ h => h) (by rfl) (fun w hSw => ?hy8) (by assumption) ?_
  case hy8 => ((try dsimp only at hSw); go_simp; (try with_reducible rfl))
  try simp only [Act.put, List.setIfInBounds_toArray, List.set_cons_zero, List.set_cons_succ]
  refine heldVal (v := ?v9) 12 rfl rfl (by kernel_rfl) (by kernel_rfl) (by kernel_rfl) (fun _ _ _ h => h) (by rfl) (fun w hSw => ?hy9) (by assumption) ?_
  case hy9 => ((try dsimp only at hSw); go_simp; (try with_reducible rfl))
  try simp only [Act.put, List.setIfInBounds_toArray, List.set_cons_zero, List.set_cons_succ]
  refine heldVal 13 rfl rfl (by kernel_rfl) (by kernel_rfl) (by kernel_rfl) (fun _ _ _ h => h) (by rfl) (fun w hSw => exec_loadRow hSw.2.1 rfl rfl Tryd.underlying28 rfl (by unfold clC; kernel_rfl)) (by assumption) ?_
  try simp only [Act.put, List.setIfInBounds_toArray, List.set_cons_zero, List.set_cons_succ]
  refine heldVal 14 rfl rfl (by kernel_rfl) (by kernel_rfl) (by kernel_rfl) (fun _ _ _ h => h) (by rfl) (fun w hSw => exec_loadRow hSw.2.2.1 rfl rfl Tryd.underlying28 rfl (by unfold clC; kernel_rfl)) (by assumption) ?_
  try simp only [Act.put, List.setIfInBounds_toArray, List.set_cons_zero, List.set_cons_succ]
  refine heldVal 16 rfl rfl (by kernel_rfl) (by kernel_rfl) (by kernel_rfl) (fun _ _ _ h => h) (by rfl) (fun w hSw => exec_loadRow hSw.2.1 rfl rfl Tryd.underlying28 rfl (by unfold clC; kernel_rfl)) (by assumption) ?_
  try simp only [Act.put, List.setIfInBounds_toArray, List.set_cons_zero, List.set_cons_succ]
  refine heldVal 17 rfl rfl (by kernel_rfl) (by kernel_rfl) (by kernel_rfl) (fun _ _ _ h => h) (by rfl) (fun w hSw => exec_loadRow hSw.2.2.1 rfl rfl Tryd.underlying28 rfl (by unfold clC; kernel_rfl)) (by assumption) ?_
  try simp only [Act.put, List.setIfInBounds_toArray, List.set_cons_zero, List.set_cons_succ]
  refine heldVal (v := ?v10) 18 rfl rfl (by kernel_rfl) (by kernel_rfl) (by kernel_rfl) (fun _ _ _ h => h) (by rfl) (fun w hSw => ?hy10) (by assumption) ?_
  case hy10 => ((try dsimp only at hSw); go_simp; (try with_reducible rfl))
  try simp only [Act.put, List.setIfInBounds_toArray, List.set_cons_zero, List.set_cons_succ]
  refine heldCall 15 rfl rfl (by kernel_rfl) (by rfl) (fun K hK => ?_)
  go_simp
  refine (KSA.out _).mono ?_
  rintro e v3 ⟨rfl, hb1⟩
  have hB3 : Below W2.heap.size W2 v3 := hB2.trans (hb1.mono hB2.size)
  have hS3 := HMK.out v3 hB3
  clear hb1
  go_wp2_with fail
  refine hK.out _ _ ?hS (fun hHeld => ?_)
  case hS => (exact hS3)
  clear hK K
  try simp only [Act.put, List.setIfInBounds_toArray, List.set_cons_zero, List.set_cons_succ]
  refine heldVal (v := ?v11) 19 rfl rfl (by kernel_rfl) (by kernel_rfl) (by kernel_rfl) (fun _ _ _ h => h) (by rfl) (fun w hSw => ?hy11) (by assumption) ?_
  case hy11 => ((try dsimp only at hSw); go_simp; (try with_reducible rfl))
  try simp only [Act.put, List.setIfInBounds_toArray, List.set_cons_zero, List.set_cons_succ]
  refine heldVal (v := ?v12) 20 rfl rfl (by kernel_rfl) (by kernel_rfl) (by kernel_rfl) (fun _ _ _ h => h) (by rfl) (fun w hSw => ?hy12) (by assumption) ?_
  case hy12 => ((try dsimp only at hSw); go_simp; (try with_reducible rfl))
  try simp only [Act.put, List.setIfInBounds_toArray, List.set_cons_zero, List.set_cons_succ]
  refine heldVal (v := ?v13) 21 rfl rfl (by kernel_rfl) (by kernel_rfl) (by kernel_rfl) (fun _ _ _ h => h) (by rfl) (fun w hSw => ?hy13) (by assumption) ?_
  case hy13 => ((try dsimp only at hSw); go_simp; (try with_reducible rfl))
  try simp only [Act.put, List.setIfInBounds_toArray, List.set_cons_zero, List.set_cons_succ]
  refine heldVal 22 rfl rfl (by kernel_rfl) (by kernel_rfl) (by kernel_rfl) (fun _ _ _ h => h) (by rfl) (fun w hSw => exec_loadRow hSw.2.1 rfl rfl Tryd.underlying28 rfl (by unfold clC; kernel_rfl)) (by assumption) ?_
  try simp only [Act.put, List.setIfInBounds_toArray, List.set_cons_zero, List.set_cons_succ]
  refine heldVal 23 rfl rfl (by kernel_rfl) (by kernel_rfl) (by kernel_rfl) (fun _ _ _ h => h) (by rfl) (fun w hSw => exec_loadRow hSw.2.1 rfl rfl Tryd.underlying28 rfl (by unfold clC; kernel_rfl)) (by assumption) ?_
  try simp only [Act.put, List.setIfInBounds_toArray, List.set_cons_zero, List.set_cons_succ]
  refine heldCall 24 rfl rfl (by kernel_rfl) (by rfl) (fun K hK => ?_)
  go_simp
  refine (KSC.out _).mono ?_
  rintro e v4 ⟨rfl, hb1⟩
  have hB4 : Below W2.heap.size W2 v4 := hB3.trans (hb1.mono hB3.size)
  have hS4 := HMK.out v4 hB4
  clear hb1
  go_wp2_with fail
  refine hK.out _ _ ?hS (fun hHeld => ?_)
  case hS => (exact hS4)
  clear hK K
  try simp only [Act.put, List.setIfInBounds_toArray, List.set_cons_zero, List.set_cons_succ]
  refine heldVal (v := ?v14) 25 rfl rfl (by kernel_rfl) (by kernel_rfl) (by kernel_rfl) (fun _ _ _ h => h) (by rfl) (fun w hSw => ?hy14) (by assumption) ?_
  case hy14 => ((try dsimp only at hSw); go_simp; (try with_reducible rfl))
  try simp only [Act.put, List.setIfInBounds_toArray, List.set_cons_zero, List.set_cons_succ]
  refine heldVal (v := ?v15) 26 rfl rfl (by kernel_rfl) (by kernel_rfl) (by kernel_rfl) (fun _ _ _ h => h) (by rfl) (fun w hSw => ?hy15) (by assumption) ?_
  case hy15 => ((try dsimp only at hSw); go_simp; (try with_reducible rfl))
  try simp only [Act.put, List.setIfInBounds_toArray, List.set_cons_zero, List.set_cons_succ]
  refine wpAnyH_done (by kernel_rfl) ?_ _
  have HC3 := Lib.hid (show ClAt v4 w.heap.size c from hS4.2.1)
  have HT3 := Lib.hid (HT2.out.bel hB4)
  have HB3 := Lib.hid (HB2.out.trans (hB4.mono HB2.out.size))
  clear hS1 hS2 hS3 hS4 HMK HS HC2 HP2 HS2 HH2 HT2 KRH KSA KSC he hes
  by_cases ht : 0 ≤ t ∧ t < 12622780800
  · rw [dec_t ht] at KIN
    have hd1 : 0 ≤ t / 86400 := by omega
    have hd2 : t / 86400 < 146097 := by omega
    have K1 := Lib.hid (KSH.out hd1 hd2)
    have K2 := Lib.hid (KDS.out hd1 hd2)
    have K3 := Lib.hid (KRD.out hd1 hd2)
    have K4 := Lib.hid (KDY.out hd1 hd2)
    have tq : Int.tdiv t 86400 = t / 86400 := Int.tdiv_eq_ediv_of_nonneg ht.1
    have wq : IntKind.i64.wrap (t / 86400) = t / 86400 := IntWalk.i64_in _ ⟨by omega, by omega⟩
    clear KSH KDS KRD KDY HNO KH ht hd1 hd2
    generalize shD (t / 86400) = s at *
    generalize dayB c (t / 86400) = db at *
    generalize t / 86400 = dn at *
    unfold spV at K1 K3 K4
    go_wp2_with fail
    refine (KIN.out _).mono ?_
    rintro e wx ⟨rfl, rfl⟩
    have K1' := K1.out
    unfold spC at K1'
    go_wp2_with fail
    refine (K1' _).mono ?_
    rintro e w4 ⟨rfl, hb1⟩
    have HB4 := Lib.hid ((HB3.out.trans (hb1.mono HB3.out.size)).alloc (HB3.out.trans (hb1.mono HB3.out.size)).size (.cells (spC s) 40))
    have HC4 := Lib.hid (show ClAt (w4.alloc (.cells (spC s) 40)) w.heap.size c from blk_more (HC3.out.below hb1) _)
    have HT4 := Lib.hid ((HT3.out.bel hb1).bel ((Below.refl w4.heap.size w4).alloc (Nat.le_refl _) (.cells (spC s) 40)))
    have HP4 := Lib.hid (show SpAt (w4.alloc (.cells (spC s) 40)) w4.heap.size s from blk_new w4 _)
    clear hb1 K1 K1' HB3 HC3 HT3
    obtain ⟨W4, hW4⟩ : ∃ W4, w4.alloc (.cells (spC s) 40) = W4 := ⟨_, rfl⟩
    rw [hW4] at HB4 HC4 HT4 HP4
    unfold spC at hW4
    go_wp2_with (refine wpList_loadRow HC4.out rfl _ _ rfl rfl _ Tryd.underlying28 rfl (by unfold clC; kernel_rfl) ?_)
    refine (K2.out _ HT4.out).mono ?_
    rintro e w5 ⟨F, caps, rfl, hF, hst, hb1⟩
    have HB5 := Lib.hid (HB4.out.trans (hb1.mono HB4.out.size))
    have HC5 := Lib.hid (HC4.out.below hb1)
    have HT5 := Lib.hid (HT4.out.bel hb1)
    have HP5 := Lib.hid (HP4.out.below hb1)
    have HST := Lib.hid hst
    have hnn := fun W => neq_funcD (.func F) #[] caps W
    clear hb1 K2 HB4 HC4 HT4 HP4 hst hW4
    generalize w4.heap.size = g4 at *
    go_wp2_with (first | (refine wpList_loadRow HC5.out rfl _ _ rfl rfl _ Tryd.underlying28 rfl (by unfold clC; kernel_rfl) ?_) | (refine wpList_loadRow HP5.out rfl _ _ rfl rfl _ Tryd.underlying40 rfl (by unfold spC; kernel_rfl) ?_))
    refine (K3.out _).mono ?_
    rintro e w6 ⟨rfl, hb1⟩
    have HB6 := Lib.hid (HB5.out.trans (hb1.mono HB5.out.size))
    have HC6 := Lib.hid (HC5.out.below hb1)
    have HT6 := Lib.hid (HT5.out.bel hb1)
    have HP6 := Lib.hid (HP5.out.below hb1)
    have K5 := HST.out w6 hb1
    unfold spV at K5
    clear hb1 K3 HB5 HC5 HT5 HP5
    go_wp2_with (first | (refine wpList_loadRowG HC6.out rfl _ _ rfl rfl _ Tryd.underlying28 rfl (by unfold clC; kernel_rfl) ?_) | (refine wpList_loadRowG HP6.out rfl _ _ rfl rfl _ Tryd.underlying40 rfl (by unfold spC; kernel_rfl) ?_))
    refine K5.mono ?_
    rintro e w7 ⟨rfl, hb1⟩
    have HB7 := Lib.hid (HB6.out.trans (hb1.mono HB6.out.size))
    have HC7 := Lib.hid (HC6.out.below hb1)
    have HT7 := Lib.hid (HT6.out.bel hb1)
    have HP7 := Lib.hid (HP6.out.below hb1)
    clear hb1 K5 HB6 HC6 HT6 HP6 HST hF hnn
    have hbb : (db == db) = true := by simp
    go_wp2_with (first | (refine wpList_loadRowG HC7.out rfl _ _ rfl rfl _ Tryd.underlying28 rfl (by unfold clC; kernel_rfl) ?_) | (refine wpList_loadRowG HP7.out rfl _ _ rfl rfl _ Tryd.underlying40 rfl (by unfold spC; kernel_rfl) ?_))
    refine (K4.out _ HT7.out).mono ?_
    rintro e w8 ⟨rfl, hb1⟩
    have HB8 := Lib.hid (HB7.out.trans (hb1.mono HB7.out.size))
    have HT8 := Lib.hid (HT7.out.bel hb1)
    clear hb1 K4 HB7 HC7 HT7 HP7
    go_wp2_with fail
    refine (KL.out _ HT8.out).mono ?_
    rintro e w9 ⟨rfl, hb1⟩
    have HB9 := Lib.hid (HB8.out.trans (hb1.mono HB8.out.size))
    clear hb1
    go_wp2
    go_ret
    exact ⟨rfl, HB9.out⟩
  · rw [dec_n ht] at KIN
    have hno := HNO.out ht
    subst hno
    clear ht KSH KDS KRD KDY HNO
    go_wp2_with fail
    refine (KIN.out _).mono ?_
    rintro e wx ⟨rfl, rfl⟩
    go_wp2_with (refine wpList_loadRow HC3.out rfl _ _ rfl rfl _ Tryd.underlying28 rfl (by unfold clC; kernel_rfl) ?_)
    refine (KH.out _ HT3.out).mono ?_
    rintro e w4 ⟨rfl, hb1⟩
    have HB4 := Lib.hid (HB3.out.trans (hb1.mono HB3.out.size))
    have HT4 := Lib.hid (HT3.out.bel hb1)
    clear hb1
    go_wp2_with fail
    refine (KL.out _ HT4.out).mono ?_
    rintro e w5 ⟨rfl, hb1⟩
    have HB5 := Lib.hid (HB4.out.trans (hb1.mono HB4.out.size))
    clear hb1
    go_wp2
    go_ret
    exact ⟨rfl, HB5.out⟩
end Go.Proofs.YtbfndcogieiejaaDoor
