/- The walk of ClauseFull (layer 13). -/
import Derived.Test.YtbfndcogieiejaaDoorDt
namespace Go.Proofs.YtbfndcogieiejaaDoor
open Go.RowKit Civ
set_option linter.unusedVariables false

theorem setFr (c : Cl) (f : Int) : (clC c).setIfInBounds 28 (.int .i64 f) = clC { c with fr := f } := by simp [clC]
theorem setUn (c : Cl) (f : Int) : (clC c).setIfInBounds 29 (.int .i64 f) = clC { c with un := f } := by simp [clC]
theorem may_ends (c : Cl) (f u : Int) : mayB { c with fr := f, un := u } = mayB c := rfl
theorem has_ends (c : Cl) (t x0 x1 : Int) : hasB { c with fr := max c.fr x0, un := min c.un x1 } t = (hasB c t && (decide (x0 ≤ t) && decide (t ≤ x1))) := by
  have e1 : decide (max c.fr x0 ≤ t) = (decide (c.fr ≤ t) && decide (x0 ≤ t)) := by
    rw [← Bool.decide_and]; exact decide_eq_decide.2 (by omega)
  have e2 : decide (t ≤ min c.un x1) = (decide (t ≤ c.un) && decide (t ≤ x1)) := by
    rw [← Bool.decide_and]; exact decide_eq_decide.2 (by omega)
  show (decide (0 ≤ t ∧ t < 12622780800) && (decide (max c.fr x0 ≤ t) && (decide (t ≤ min c.un x1) && (inT (t % 86400) c.h c.m c.s && (onB c.u c.st c.an t && dayB c (t / 86400)))))) = ((decide (0 ≤ t ∧ t < 12622780800) && (decide (c.fr ≤ t) && (decide (t ≤ c.un) && (inT (t % 86400) c.h c.m c.s && (onB c.u c.st c.an t && dayB c (t / 86400)))))) && (decide (x0 ≤ t) && decide (t ≤ x1)))
  rw [e1, e2]
  cases decide (0 ≤ t ∧ t < 12622780800) <;> cases decide (c.fr ≤ t) <;> cases decide (x0 ≤ t) <;> cases decide (t ≤ c.un) <;> cases decide (t ≤ x1) <;> simp
theorem has_in (c : Cl) (t : Int) (h : hasB c t = true) : 0 ≤ t ∧ t < 12622780800 := by
  unfold hasB at h
  rw [Bool.and_eq_true, decide_eq_true_eq] at h
  exact h.1
theorem inM_full (k : Nat) (m : Nat) (n : Int) (h : m = 2 ^ k - 1) (h0 : 0 ≤ n) (h1 : n < k) (hk : k ≤ 64) : inM m n = true := by
  obtain ⟨j, rfl⟩ := Int.eq_ofNat_of_zero_le h0
  rw [inM_in m j (by omega), h, Nat.testBit_two_pow_sub_one]
  exact dec_t (by omega)
theorem inM_full2 (k : Nat) (m : Nat) (n : Int) (h : m = 2 ^ k - 2) (h0 : 1 ≤ n) (h1 : n < k) (hk : k ≤ 64) : inM m n = true := by
  obtain ⟨j, rfl⟩ := Int.eq_ofNat_of_zero_le (show 0 ≤ n by omega)
  rw [inM_in m j (by omega), h]
  have e : 2 ^ k - 2 = 2 * (2 ^ (k - 1) - 1) := by
    obtain ⟨q, rfl⟩ : ∃ q, k = q + 1 := ⟨k - 1, by omega⟩
    have := Nat.two_pow_pos q
    rw [Nat.pow_succ, Nat.add_sub_cancel]; omega
  obtain ⟨i, rfl⟩ : ∃ i, j = i + 1 := ⟨j - 1, by omega⟩
  rw [e, Nat.testBit_succ, Nat.mul_div_cancel_left _ (by decide), Nat.testBit_two_pow_sub_one]
  exact dec_t (by omega)
theorem full_may : mayB fullC = true := by
  have h1 : masksB fullC = true := by decide +kernel
  have h2 : ordB fullC.n fullC.b fullC.D = true := by decide +kernel
  unfold mayB
  rw [h1, h2, show same7 fullC.P (clip fullC.P) = true from full_clip]
  decide
theorem dY_lt (n : Int) (h1 : 0 ≤ n) (h2 : n < 146097) : 1970 ≤ dY n ∧ dY n < 2370 := by
  obtain ⟨a, b⟩ := (d_is n).year
  have c := startI_mono (dY n + 1) 1970
  have e := startI_mono 2370 (dY n)
  have f : startI 1970 = 0 := by decide
  have g : startI 2370 = 146097 := by decide
  omega
theorem full_has (t : Int) (h1 : 0 ≤ t) (h2 : t < 12622780800) : hasB fullC t = true := by
  have hd1 : 0 ≤ t / 86400 := by omega
  have hd2 : t / 86400 < 146097 := by omega
  obtain ⟨y1, y2⟩ := dY_lt (t / 86400) hd1 hd2
  have hd := d_is (t / 86400)
  obtain ⟨m1, m2, b1, b2, _⟩ := hd
  obtain ⟨l1, l2⟩ := len_bd (dY (t / 86400)) (dM (t / 86400)) m1 m2
  obtain ⟨f1, f2, f3, f4⟩ := shD_facts (t / 86400) hd1 hd2
  have ht : inT (t % 86400) fullC.h fullC.m fullC.s = true := by
    rw [inT_in _ _ _ _ (by omega) (by omega)]
    rw [inM_full 24 fullC.h _ (by decide) (by omega) (by omega) (by decide), inM_full 60 fullC.m _ (by decide) (by omega) (by omega) (by decide), inM_full 60 fullC.s _ (by decide) (by omega) (by omega) (by decide)]
    rfl
  have ho : onB fullC.u fullC.st fullC.an t = true := by
    unfold onB
    rw [show okU fullC.u fullC.st fullC.an = true by decide, dec_t (show 0 ≤ t ∧ t < 12622780800 from ⟨h1, h2⟩), dec_t (show (whV fullC.u t - whV fullC.u fullC.an) % fullC.st = 0 by show (whV fullC.u t - whV fullC.u fullC.an) % 1 = 0; omega)]
    rfl
  have hda : dateB fullC (shD (t / 86400)) = true := by
    unfold dateB
    rw [inM_full2 13 fullC.mo _ (by decide) (show 1 ≤ (shD (t / 86400)).m from m1) (show (shD (t / 86400)).m < 13 by show dM (t / 86400) < 13; omega) (by decide)]
    rw [inM_full2 32 fullC.e _ (by decide) (show 1 ≤ (shD (t / 86400)).bk by show 1 ≤ len (dY (t / 86400)) (dM (t / 86400)) - dD (t / 86400) + 1; omega) (show (shD (t / 86400)).bk < 32 by show len (dY (t / 86400)) (dM (t / 86400)) - dD (t / 86400) + 1 < 32; omega) (by decide)]
    rw [inM_full2 32 fullC.d _ (by decide) (show 1 ≤ (shD (t / 86400)).d from b1) (show (shD (t / 86400)).d < 32 by show dD (t / 86400) < 32; omega) (by decide)]
    rw [inM_full2 8 fullC.wk _ (by decide) f3 (show (shD (t / 86400)).wk < 8 by omega) (by decide)]
    have hy : hasW fullC.P ((shD (t / 86400)).y - 1970) = true := by
      obtain ⟨j, hj⟩ := Int.eq_ofNat_of_zero_le (show 0 ≤ (shD (t / 86400)).y - 1970 by show 0 ≤ dY (t / 86400) - 1970; omega)
      have hlt : j < 400 := by
        have : (shD (t / 86400)).y - 1970 < 400 := by show dY (t / 86400) - 1970 < 400; omega
        omega
      rw [hj, hasW_in _ _ hlt]
      exact dec_t hlt
    rw [hy]
    rfl
  have hs : stepB fullC (t / 86400) = true := by
    unfold stepB
    rw [show decide (fullC.u < 3) = true by decide]; rfl
  unfold hasB dayB
  rw [dec_t (show 0 ≤ t ∧ t < 12622780800 from ⟨h1, h2⟩), ht, ho, full_may, hda, hs, dec_t (show fullC.fr ≤ t from h1), dec_t (show t ≤ fullC.un by show t ≤ 12622780799; omega)]
  rfl
/-- a clause, two numbers, and a clause that is being changed, in their blocks -/
def T3 (w : World) (g2 : Nat) (c : Cl) (x0 x1 : Int) (e : Cl) (W : World) : Prop := ClAt W w.heap.size c ∧ W.heap[w.heap.size + 1]? = some (.cells #[.int .i64 x0, .int .i64 x1] 52 (0, 0)) ∧ ClAt W g2 e ∧ Below w.heap.size w W ∧ w.heap.size + 1 < g2
theorem T3.put {w W : World} {g2 : Nat} {c e e' : Cl} {x0 x1 : Int} (h : T3 w g2 c x0 x1 e W) (k : Nat) (v : Value) (he : (clC e).setIfInBounds k v = clC e') : T3 w g2 c x0 x1 e' (W.setCell ⟨g2, k, none⟩ v) := by
  obtain ⟨h1, h2, h3, h4, h5⟩ := h
  refine ⟨blk_else h1 ⟨g2, k, none⟩ (by show w.heap.size ≠ g2; omega) v, blk_else h2 ⟨g2, k, none⟩ (by show w.heap.size + 1 ≠ g2; omega) v, ?_, h4.setCell (by show w.heap.size ≤ g2; omega) v, h5⟩
  have q := blk_put h3 k v
  rw [he] at q
  exact q
theorem T3.facts {w W : World} {g2 : Nat} {c e : Cl} {x0 x1 : Int} (h : T3 w g2 c x0 x1 e W) : W.cell? ⟨w.heap.size + 1, 0, none⟩ = some (.int .i64 x0) ∧ W.cell? ⟨w.heap.size + 1, 1, none⟩ = some (.int .i64 x1) ∧ W.cell? ⟨g2, 28, none⟩ = some (.int .i64 e.fr) ∧ W.cell? ⟨g2, 29, none⟩ = some (.int .i64 e.un) ∧ W.frozen? ⟨g2, 28, none⟩ = false ∧ W.frozen? ⟨g2, 29, none⟩ = false :=
  ⟨blk_cell h.2.1 0, blk_cell h.2.1 1, blk_cell h.2.2.1 28, blk_cell h.2.2.1 29, blk_free h.2.2.1 28, blk_free h.2.2.1 29⟩
theorem T3.to {w W W' : World} {g2 : Nat} {c e : Cl} {x0 x1 : Int} (h : T3 w g2 c x0 x1 e W) (hb : Below W.heap.size W W') : T3 w g2 c x0 x1 e W' :=
  ⟨h.1.below hb, (hb.block _ (lt_of_block h.2.1)).trans h.2.1, h.2.2.1.below hb, h.2.2.2.1.trans (hb.mono h.2.2.2.1.size), h.2.2.2.2⟩
theorem T3.held {w W : World} {g2 : Nat} {c e : Cl} {x0 x1 : Int} (h : T3 w g2 c x0 x1 e W) : Below w.heap.size w W ∧ W.heap[w.heap.size]? = some (.cells (clC c) 28 (0, 0)) ∧ W.heap[g2]? = some (.cells (clC e) 28 (0, 0)) ∧ W.cell? ⟨w.heap.size + 1, 0, none⟩ = some (.int .i64 x0) ∧ W.cell? ⟨w.heap.size + 1, 1, none⟩ = some (.int .i64 x1) := ⟨h.2.2.2.1, h.1, h.2.2.1, blk_cell h.2.1 0, blk_cell h.2.1 1⟩
theorem T3.tab {w W : World} {g2 : Nat} {c e : Cl} {x0 x1 : Int} (h : T3 w g2 c x0 x1 e W) (hT : TabUn w) : TabUn W := hT.bel h.2.2.2.1
set_option maxHeartbeats 6400000 in
set_option maxRecDepth 20000 in
theorem clauseFull_any (c : Cl) (t : Int) (zs : List Int) (w : World) (hc : ClIn c) (wt : (Lit.int .i64 t).wf = true) (hn : zs.length = 2) (hz : ∀ z ∈ zs, (Lit.int .i64 z).wf = true) (hT : TabUn w) : Calls Tryd.prog 6 #[clV c, .int .i64 t, .agg (zs.map (Value.int .i64)).toArray] w fun e w' => e = .returned (.bool true) ∧ Below w.heap.size w w' := by
  obtain ⟨x0, x1, rfl⟩ : ∃ x0 x1, zs = [x0, x1] := by
    match zs, hn with
    | [a, b], _ => exact ⟨a, b, rfl⟩
  show Calls Tryd.prog 6 #[clV c, .int .i64 t, .agg #[.int .i64 x0, .int .i64 x1]] w fun e w' => e = .returned (.bool true) ∧ Below w.heap.size w w'
  clear hn hz wt
  have HB0 := Lib.hid (show Below w.heap.size w ((w.alloc (.cells (clC c) 28)).alloc (.cells #[.int .i64 x0, .int .i64 x1] 52)) from ((Below.refl _ _).alloc (Nat.le_refl _) _).alloc (by simp) _)
  have HC0 := Lib.hid (show ClAt ((w.alloc (.cells (clC c) 28)).alloc (.cells #[.int .i64 x0, .int .i64 x1] 52)) w.heap.size c from blk_more (blk_new w (.cells (clC c) 28)) _)
  have HX0 := Lib.hid (blk_new (w.alloc (.cells (clC c) 28)) (.cells #[.int .i64 x0, .int .i64 x1] 52))
  have hsz : ((w.alloc (.cells (clC c) 28)).alloc (.cells #[.int .i64 x0, .int .i64 x1] 52)).heap.size = w.heap.size + 1 + 1 := by rw [size_allocD, size_allocD]
  have HSZ := Lib.hid hsz
  clear hsz
  rw [size_allocD] at HX0
  have HT0 := Lib.hid hT
  obtain ⟨F, hF⟩ : ∃ F, max c.fr x0 = F := ⟨_, rfl⟩
  obtain ⟨U, hU⟩ : ∃ U, min c.un x1 = U := ⟨_, rfl⟩
  have hF2 : (if c.fr < x0 then x0 else c.fr) = F := by rw [← hF]; split <;> omega
  have hU2 : (if x1 < c.un then x1 else c.un) = U := by rw [← hU]; split <;> omega
  obtain ⟨e1, he1⟩ : ∃ e1 : Cl, e1 = { c with fr := x0 } := ⟨_, rfl⟩
  obtain ⟨d1, hd1⟩ : ∃ d1 : Cl, d1 = { c with fr := x0, un := x1 } := ⟨_, rfl⟩
  obtain ⟨e2, he2⟩ : ∃ e2 : Cl, e2 = { c with fr := F, un := x1 } := ⟨_, rfl⟩
  obtain ⟨d2, hd2⟩ : ∃ d2 : Cl, d2 = { c with fr := F, un := U } := ⟨_, rfl⟩
  have i1 : ClIn d1 := by rw [hd1]; exact hc
  have i2 : ClIn d2 := by rw [hd2]; exact hc
  have KM := Lib.hid (fun W h => cmay_any c hc W h)
  have KM1 := Lib.hid (fun W h => cmay_any d1 i1 W h)
  rw [show mayB d1 = mayB c by rw [hd1]; exact may_ends c x0 x1] at KM1
  have KH := Lib.hid (fun W h => chas_any c hc t W h)
  have KH2 := Lib.hid (fun W h => chas_any d2 i2 t W h)
  rw [show hasB d2 t = (hasB c t && (decide (x0 ≤ t) && decide (t ≤ x1))) by rw [hd2, ← hF, ← hU]; exact has_ends c t x0 x1] at KH2
  have KF := Lib.hid (fun W => cfull_any W)
  have KHF := Lib.hid (fun (h : hasB c t = true) W hW => show Calls Tryd.prog 12 #[clV fullC, .int .i64 t] W fun e w' => e = .returned (.bool true) ∧ Below W.heap.size W w' from by
    have q := chas_any fullC full_in t W hW
    rw [full_has t (has_in c t h).1 (has_in c t h).2] at q
    exact q)
  have KL := Lib.hid (fun W h => lives13_any W h)
  have HE1 := Lib.hid (show (clC c).setIfInBounds 28 (.int .i64 x0) = clC e1 by rw [setFr, he1])
  have HD1 := Lib.hid (show (clC e1).setIfInBounds 29 (.int .i64 x1) = clC d1 by rw [setUn, he1, hd1])
  have HE2 := Lib.hid (show (clC d1).setIfInBounds 28 (.int .i64 F) = clC e2 by rw [setFr, hd1, he2])
  have HD2 := Lib.hid (show (clC e2).setIfInBounds 29 (.int .i64 U) = clC d2 by rw [setUn, he2, hd2])
  clear he1 hd1 he2 hd2 i1 i2 hc hT
  generalize mayB c = mb at KM KM1
  obtain ⟨p, hp⟩ : ∃ p, decide (x0 ≤ t) = p := ⟨_, rfl⟩
  obtain ⟨q, hq⟩ : ∃ q, decide (t ≤ x1) = q := ⟨_, rfl⟩
  rw [hp, hq] at KH2
  generalize hcf : fullC = cf at KF KHF
  generalize hasB c t = hb at KH KH2 KHF
  obtain ⟨W0, hW0⟩ : ∃ W0, (w.alloc (.cells (clC c) 28)).alloc (.cells #[.int .i64 x0, .int .i64 x1] 52) = W0 := ⟨_, rfl⟩
  rw [hW0] at HB0 HC0 HX0 HSZ
  have HN := Lib.hid (blk_new W0 (.cells clZ 28))
  have HA1 := Lib.hid (show T3 w W0.heap.size c x0 x1 c ((W0.alloc (.cells clZ 28)).setRow W0.heap.size (clC c)) from ⟨(setRow_other _ _ _ _ (by have := HSZ.out; omega)).trans (blk_more HC0.out _), (setRow_other _ _ _ _ (by have := HSZ.out; omega)).trans (blk_more HX0.out _), row_set HN.out, Below.but (HB0.out.alloc HB0.out.size (.cells clZ 28)) (row_but _ W0.heap.size (clC c)) (fun i hi hx => by have := HSZ.out; omega), by have := HSZ.out; omega⟩)
  obtain ⟨W1, hW1⟩ : ∃ W1, (W0.alloc (.cells clZ 28)).setRow W0.heap.size (clC c) = W1 := ⟨_, rfl⟩
  rw [hW1] at HA1
  obtain ⟨a0, a1, a28, a29, z28, z29⟩ := HA1.out.facts
  have HA2 := Lib.hid (HA1.out.put 28 (.int .i64 x0) HE1.out)
  obtain ⟨W2, hW2⟩ : ∃ W2, W1.setCell ⟨W0.heap.size, 28, none⟩ (.int .i64 x0) = W2 := ⟨_, rfl⟩
  rw [hW2] at HA2
  obtain ⟨b0, b1, b28, b29, y28, y29⟩ := HA2.out.facts
  have HA3 := Lib.hid (HA2.out.put 29 (.int .i64 x1) HD1.out)
  obtain ⟨W3, hW3⟩ : ∃ W3, W2.setCell ⟨W0.heap.size, 29, none⟩ (.int .i64 x1) = W3 := ⟨_, rfl⟩
  rw [hW3] at HA3
  unfold clV at KM KM1 KH KH2 KF KHF
  unfold clV clC
  unfold clC at hW0
  unfold clZ at hW1
  go_enter Tryd.func6, Tryd.ntmps6
  go_wp2_with (first | (refine wpList_loadRow HC0.out rfl _ _ rfl rfl _ Tryd.underlying28 rfl (by unfold clC; kernel_rfl) ?_) | (refine wpList_storeRow HN.out (clC c) rfl _ _ _ rfl rfl rfl (by unfold clC; kernel_rfl) (by unfold clC; kernel_rfl) (by unfold clC; kernel_rfl) ?_))
  clear hW0 HN HC0 HX0 HB0 hW1 hW2 hW3 a0 a1 a28 a29 z28 z29 b0 b1 b28 b29 y28 y29
  generalize W0.heap.size = g2 at *
  have t0 := HA3.out.to ((Below.refl W3.heap.size W3).drew)
  clear HA1 HA2 HA3
  cases hb
  · refine wp_region_held_drew (S := fun X => Below w.heap.size w X ∧ X.heap[w.heap.size]? = some (.cells (clC c) 28 (0, 0)) ∧ X.heap[g2]? = some (.cells (clC d1) 28 (0, 0)) ∧ X.cell? ⟨w.heap.size + 1, 0, none⟩ = some (.int .i64 x0) ∧ X.cell? ⟨w.heap.size + 1, 1, none⟩ = some (.int .i64 x1)) (by kernel_rfl) t0.held (fun hHeld => ?_)
    refine heldVal 0 rfl rfl (by kernel_rfl) (by kernel_rfl) (by kernel_rfl) (fun _ _ _ h => h) (by rfl) (fun w hSw => exec_loadRow hSw.2.2.1 rfl rfl Tryd.underlying28 rfl (by unfold clC; kernel_rfl)) (by assumption) ?_
    try simp only [Act.put, List.setIfInBounds_toArray, List.set_cons_zero, List.set_cons_succ]
    refine heldVal 2 rfl rfl (by kernel_rfl) (by kernel_rfl) (by kernel_rfl) (fun _ _ _ h => h) (by rfl) (fun w hSw => exec_loadRow hSw.2.1 rfl rfl Tryd.underlying28 rfl (by unfold clC; kernel_rfl)) (by assumption) ?_
    try simp only [Act.put, List.setIfInBounds_toArray, List.set_cons_zero, List.set_cons_succ]
    refine heldCall 1 rfl rfl (by kernel_rfl) (by rfl) (fun K hK => ?_)
    go_simp
    refine (KM1.out _ (t0.tab HT0.out)).mono ?_
    rintro e tw1 ⟨rfl, hb1⟩
    have t1 := t0.to hb1
    clear hb1
    go_wp2_with fail
    refine hK.out _ _ ?hS (fun hHeld => ?_)
    case hS => (exact t1.held)
    clear hK K
    try simp only [Act.put, List.setIfInBounds_toArray, List.set_cons_zero, List.set_cons_succ]
    refine heldCall 3 rfl rfl (by kernel_rfl) (by rfl) (fun K hK => ?_)
    go_simp
    refine (KM.out _ (t1.tab HT0.out)).mono ?_
    rintro e tw2 ⟨rfl, hb1⟩
    have t2 := t1.to hb1
    clear hb1
    go_wp2_with fail
    refine hK.out _ _ ?hS (fun hHeld => ?_)
    case hS => (exact t2.held)
    clear hK K
    try simp only [Act.put, List.setIfInBounds_toArray, List.set_cons_zero, List.set_cons_succ]
    refine heldVal (v := ?v17) 4 rfl rfl (by kernel_rfl) (by kernel_rfl) (by kernel_rfl) (fun _ _ _ h => h) (by rfl) (fun w hSw => ?hy17) (by assumption) ?_
    case hy17 => ((try dsimp only at hSw); go_simp; (try with_reducible rfl))
    try simp only [Act.put, List.setIfInBounds_toArray, List.set_cons_zero, List.set_cons_succ]
    refine heldVal (v := ?v18) 5 rfl rfl (by kernel_rfl) (by kernel_rfl) (by kernel_rfl) (fun _ _ _ h => h) (by rfl) (fun w hSw => ?hy18) (by assumption) ?_
    case hy18 => ((try dsimp only at hSw); go_simp; (try with_reducible rfl))
    try simp only [Act.put, List.setIfInBounds_toArray, List.set_cons_zero, List.set_cons_succ]
    refine heldVal 6 rfl rfl (by kernel_rfl) (by kernel_rfl) (by kernel_rfl) (fun _ _ _ h => h) (by rfl) (fun w hSw => exec_loadRow hSw.2.1 rfl rfl Tryd.underlying28 rfl (by unfold clC; kernel_rfl)) (by assumption) ?_
    try simp only [Act.put, List.setIfInBounds_toArray, List.set_cons_zero, List.set_cons_succ]
    refine heldVal (v := ?v19) 7 rfl rfl (by kernel_rfl) (by kernel_rfl) (by kernel_rfl) (fun _ _ _ h => h) (by rfl) (fun w hSw => ?hy19) (by assumption) ?_
    case hy19 => ((try dsimp only at hSw); go_simp; (try with_reducible rfl))
    try simp only [Act.put, List.setIfInBounds_toArray, List.set_cons_zero, List.set_cons_succ]
    refine heldCall 8 rfl rfl (by kernel_rfl) (by rfl) (fun K hK => ?_)
    go_simp
    refine (KH.out _ (t2.tab HT0.out)).mono ?_
    rintro e tw3 ⟨rfl, hb1⟩
    have t3 := t2.to hb1
    clear hb1
    go_wp2_with fail
    refine hK.out _ _ ?hS (fun hHeld => ?_)
    case hS => (exact t3.held)
    clear hK K
    try simp only [Act.put, List.setIfInBounds_toArray, List.set_cons_zero, List.set_cons_succ]
    refine heldVal (v := ?v20) 9 rfl rfl (by kernel_rfl) (by kernel_rfl) (by kernel_rfl) (fun _ _ _ h => h) (by rfl) (fun w hSw => ?hy20) (by assumption) ?_
    case hy20 => ((try dsimp only at hSw); go_simp; (try with_reducible rfl))
    try simp only [Act.put, List.setIfInBounds_toArray, List.set_cons_zero, List.set_cons_succ]
    refine heldSkip 10 rfl rfl (by kernel_rfl) (by kernel_rfl) (by kernel_rfl) (fun _ _ _ h => h) (by rfl) (by assumption) ?_
    try simp only [Act.put, List.setIfInBounds_toArray, List.set_cons_zero, List.set_cons_succ]
    refine heldSkip 11 rfl rfl (by kernel_rfl) (by kernel_rfl) (by kernel_rfl) (fun _ _ _ h => h) (by rfl) (by assumption) ?_
    try simp only [Act.put, List.setIfInBounds_toArray, List.set_cons_zero, List.set_cons_succ]
    refine heldSkip 12 rfl rfl (by kernel_rfl) (by kernel_rfl) (by kernel_rfl) (fun _ _ _ h => h) (by rfl) (by assumption) ?_
    try simp only [Act.put, List.setIfInBounds_toArray, List.set_cons_zero, List.set_cons_succ]
    refine heldSkip 13 rfl rfl (by kernel_rfl) (by kernel_rfl) (by kernel_rfl) (fun _ _ _ h => h) (by rfl) (by assumption) ?_
    try simp only [Act.put, List.setIfInBounds_toArray, List.set_cons_zero, List.set_cons_succ]
    refine heldVal (v := ?v21) 14 rfl rfl (by kernel_rfl) (by kernel_rfl) (by kernel_rfl) (fun _ _ _ h => h) (by rfl) (fun w hSw => ?hy21) (by assumption) ?_
    case hy21 => ((try dsimp only at hSw); go_simp; (try with_reducible rfl))
    try simp only [Act.put, List.setIfInBounds_toArray, List.set_cons_zero, List.set_cons_succ]
    refine heldVal (v := ?v22) 15 rfl rfl (by kernel_rfl) (by kernel_rfl) (by kernel_rfl) (fun _ _ _ h => h) (by rfl) (fun w hSw => ?hy22) (by assumption) ?_
    case hy22 => ((try dsimp only at hSw); go_simp; (try with_reducible rfl))
    try simp only [Act.put, List.setIfInBounds_toArray, List.set_cons_zero, List.set_cons_succ]
    refine wpAnyH_done (by kernel_rfl) ?_ _
    have tz := t3
    clear t0 t1 t2 t3
    obtain ⟨a0, a1, a28, a29, z28, z29⟩ := tz.facts
    obtain ⟨c28, c29⟩ := tz.1.ends
    have HA4 := Lib.hid (tz.put 28 (.int .i64 F) HE2.out)
    generalize hV : (tw3 : World) = V at *
    obtain ⟨W4, hW4⟩ : ∃ W4, V.setCell ⟨g2, 28, none⟩ (.int .i64 F) = W4 := ⟨_, rfl⟩
    rw [hW4] at HA4
    obtain ⟨b0, b1, b28, b29, y28, y29⟩ := HA4.out.facts
    obtain ⟨d28, d29⟩ := HA4.out.1.ends
    have HA5 := Lib.hid (HA4.out.put 29 (.int .i64 U) HD2.out)
    obtain ⟨W5, hW5⟩ : ∃ W5, W4.setCell ⟨g2, 29, none⟩ (.int .i64 U) = W5 := ⟨_, rfl⟩
    rw [hW5] at HA5
    go_wp2_with fail
    clear hV tz a0 a1 a28 a29 z28 z29 c28 c29 HA4 hW4 b0 b1 b28 b29 y28 y29 d28 d29 hW5 KM KM1 KF HE2 HD2
    have u0 := HA5.out.to ((Below.refl W5.heap.size W5).drew)
    refine wp_region_held_drew (S := fun X => Below w.heap.size w X ∧ X.heap[w.heap.size]? = some (.cells (clC c) 28 (0, 0)) ∧ X.heap[g2]? = some (.cells (clC d2) 28 (0, 0)) ∧ X.cell? ⟨w.heap.size + 1, 0, none⟩ = some (.int .i64 x0) ∧ X.cell? ⟨w.heap.size + 1, 1, none⟩ = some (.int .i64 x1)) (by kernel_rfl) u0.held (fun hHeld => ?_)
    refine heldVal 0 rfl rfl (by kernel_rfl) (by kernel_rfl) (by kernel_rfl) (fun _ _ _ h => h) (by rfl) (fun w hSw => exec_loadRow hSw.2.2.1 rfl rfl Tryd.underlying28 rfl (by unfold clC; kernel_rfl)) (by assumption) ?_
    try simp only [Act.put, List.setIfInBounds_toArray, List.set_cons_zero, List.set_cons_succ]
    refine heldVal (v := ?v23) 1 rfl rfl (by kernel_rfl) (by kernel_rfl) (by kernel_rfl) (fun _ _ _ h => h) (by rfl) (fun w hSw => ?hy23) (by assumption) ?_
    case hy23 => ((try dsimp only at hSw); go_simp; (try with_reducible rfl))
    try simp only [Act.put, List.setIfInBounds_toArray, List.set_cons_zero, List.set_cons_succ]
    refine heldVal 3 rfl rfl (by kernel_rfl) (by kernel_rfl) (by kernel_rfl) (fun _ _ _ h => h) (by rfl) (fun w hSw => exec_loadRow hSw.2.1 rfl rfl Tryd.underlying28 rfl (by unfold clC; kernel_rfl)) (by assumption) ?_
    try simp only [Act.put, List.setIfInBounds_toArray, List.set_cons_zero, List.set_cons_succ]
    refine heldVal (v := ?v24) 4 rfl rfl (by kernel_rfl) (by kernel_rfl) (by kernel_rfl) (fun _ _ _ h => h) (by rfl) (fun w hSw => ?hy24) (by assumption) ?_
    case hy24 => ((try dsimp only at hSw); go_simp; (try with_reducible rfl))
    try simp only [Act.put, List.setIfInBounds_toArray, List.set_cons_zero, List.set_cons_succ]
    refine heldCall 2 rfl rfl (by kernel_rfl) (by rfl) (fun K hK => ?_)
    go_simp
    refine (KH2.out _ (u0.tab HT0.out)).mono ?_
    rintro e uw1 ⟨rfl, hb1⟩
    have u1 := u0.to hb1
    clear hb1
    go_wp2_with fail
    refine hK.out _ _ ?hS (fun hHeld => ?_)
    case hS => (exact u1.held)
    clear hK K
    try simp only [Act.put, List.setIfInBounds_toArray, List.set_cons_zero, List.set_cons_succ]
    refine heldCall 5 rfl rfl (by kernel_rfl) (by rfl) (fun K hK => ?_)
    go_simp
    refine (KH.out _ (u1.tab HT0.out)).mono ?_
    rintro e uw2 ⟨rfl, hb1⟩
    have u2 := u1.to hb1
    clear hb1
    go_wp2_with fail
    refine hK.out _ _ ?hS (fun hHeld => ?_)
    case hS => (exact u2.held)
    clear hK K
    try simp only [Act.put, List.setIfInBounds_toArray, List.set_cons_zero, List.set_cons_succ]
    refine heldVal (v := ?v25) 6 rfl rfl (by kernel_rfl) (by kernel_rfl) (by kernel_rfl) (fun _ _ _ h => h) (by rfl) (fun w hSw => ?hy25) (by assumption) ?_
    case hy25 => ((try dsimp only at hSw); go_simp; (try with_reducible rfl))
    try simp only [Act.put, List.setIfInBounds_toArray, List.set_cons_zero, List.set_cons_succ]
    refine heldSkip 7 rfl rfl (by kernel_rfl) (by kernel_rfl) (by kernel_rfl) (fun _ _ _ h => h) (by rfl) (by assumption) ?_
    try simp only [Act.put, List.setIfInBounds_toArray, List.set_cons_zero, List.set_cons_succ]
    refine heldSkip 8 rfl rfl (by kernel_rfl) (by kernel_rfl) (by kernel_rfl) (fun _ _ _ h => h) (by rfl) (by assumption) ?_
    try simp only [Act.put, List.setIfInBounds_toArray, List.set_cons_zero, List.set_cons_succ]
    refine heldSkip 9 rfl rfl (by kernel_rfl) (by kernel_rfl) (by kernel_rfl) (fun _ _ _ h => h) (by rfl) (by assumption) ?_
    try simp only [Act.put, List.setIfInBounds_toArray, List.set_cons_zero, List.set_cons_succ]
    refine heldSkip 10 rfl rfl (by kernel_rfl) (by kernel_rfl) (by kernel_rfl) (fun _ _ _ h => h) (by rfl) (by assumption) ?_
    try simp only [Act.put, List.setIfInBounds_toArray, List.set_cons_zero, List.set_cons_succ]
    refine heldVal (v := ?v26) 11 rfl rfl (by kernel_rfl) (by kernel_rfl) (by kernel_rfl) (fun _ _ _ h => h) (by rfl) (fun w hSw => ?hy26) (by assumption) ?_
    case hy26 => ((try dsimp only at hSw); go_simp; (try with_reducible rfl))
    try simp only [Act.put, List.setIfInBounds_toArray, List.set_cons_zero, List.set_cons_succ]
    refine heldVal (v := ?v27) 12 rfl rfl (by kernel_rfl) (by kernel_rfl) (by kernel_rfl) (fun _ _ _ h => h) (by rfl) (fun w hSw => ?hy27) (by assumption) ?_
    case hy27 => ((try dsimp only at hSw); go_simp; (try with_reducible rfl))
    try simp only [Act.put, List.setIfInBounds_toArray, List.set_cons_zero, List.set_cons_succ]
    refine heldSkip 13 rfl rfl (by kernel_rfl) (by kernel_rfl) (by kernel_rfl) (fun _ _ _ h => h) (by rfl) (by assumption) ?_
    try simp only [Act.put, List.setIfInBounds_toArray, List.set_cons_zero, List.set_cons_succ]
    refine heldSkip 14 rfl rfl (by kernel_rfl) (by kernel_rfl) (by kernel_rfl) (fun _ _ _ h => h) (by rfl) (by assumption) ?_
    try simp only [Act.put, List.setIfInBounds_toArray, List.set_cons_zero, List.set_cons_succ]
    refine heldSkip 15 rfl rfl (by kernel_rfl) (by kernel_rfl) (by kernel_rfl) (fun _ _ _ h => h) (by rfl) (by assumption) ?_
    try simp only [Act.put, List.setIfInBounds_toArray, List.set_cons_zero, List.set_cons_succ]
    refine heldSkip 16 rfl rfl (by kernel_rfl) (by kernel_rfl) (by kernel_rfl) (fun _ _ _ h => h) (by rfl) (by assumption) ?_
    try simp only [Act.put, List.setIfInBounds_toArray, List.set_cons_zero, List.set_cons_succ]
    refine heldVal (v := ?v28) 17 rfl rfl (by kernel_rfl) (by kernel_rfl) (by kernel_rfl) (fun _ _ _ h => h) (by rfl) (fun w hSw => ?hy28) (by assumption) ?_
    case hy28 => ((try dsimp only at hSw); go_simp; (try with_reducible rfl))
    try simp only [Act.put, List.setIfInBounds_toArray, List.set_cons_zero, List.set_cons_succ]
    refine heldVal (v := ?v29) 18 rfl rfl (by kernel_rfl) (by kernel_rfl) (by kernel_rfl) (fun _ _ _ h => h) (by rfl) (fun w hSw => ?hy29) (by assumption) ?_
    case hy29 => ((try dsimp only at hSw); go_simp; (try with_reducible rfl))
    try simp only [Act.put, List.setIfInBounds_toArray, List.set_cons_zero, List.set_cons_succ]
    refine heldVal (v := ?v30) 19 rfl rfl (by kernel_rfl) (by kernel_rfl) (by kernel_rfl) (fun _ _ _ h => h) (by rfl) (fun w hSw => ?hy30) (by assumption) ?_
    case hy30 => ((try dsimp only at hSw); go_simp; (try with_reducible rfl))
    try simp only [Act.put, List.setIfInBounds_toArray, List.set_cons_zero, List.set_cons_succ]
    refine heldCall 20 rfl rfl (by kernel_rfl) (by rfl) (fun K hK => ?_)
    go_simp
    refine (KL.out _ (u2.tab HT0.out)).mono ?_
    rintro e uw3 ⟨rfl, hb1⟩
    have u3 := u2.to hb1
    clear hb1
    go_wp2_with fail
    refine hK.out _ _ ?hS (fun hHeld => ?_)
    case hS => (exact u3.held)
    clear hK K
    try simp only [Act.put, List.setIfInBounds_toArray, List.set_cons_zero, List.set_cons_succ]
    refine heldVal (v := ?v31) 21 rfl rfl (by kernel_rfl) (by kernel_rfl) (by kernel_rfl) (fun _ _ _ h => h) (by rfl) (fun w hSw => ?hy31) (by assumption) ?_
    case hy31 => ((try dsimp only at hSw); go_simp; (try with_reducible rfl))
    try simp only [Act.put, List.setIfInBounds_toArray, List.set_cons_zero, List.set_cons_succ]
    refine heldVal (v := ?v32) 22 rfl rfl (by kernel_rfl) (by kernel_rfl) (by kernel_rfl) (fun _ _ _ h => h) (by rfl) (fun w hSw => ?hy32) (by assumption) ?_
    case hy32 => ((try dsimp only at hSw); go_simp; (try with_reducible rfl))
    try simp only [Act.put, List.setIfInBounds_toArray, List.set_cons_zero, List.set_cons_succ]
    refine wpAnyH_done (by kernel_rfl) ?_ _
    have HBX := Lib.hid u3.2.2.2.1
    go_wp2
    go_ret
    exact ⟨rfl, HBX.out⟩
  · have KHG := Lib.hid (KHF.out rfl)
    clear KHF
    refine wp_region_held_drew (S := fun X => Below w.heap.size w X ∧ X.heap[w.heap.size]? = some (.cells (clC c) 28 (0, 0)) ∧ X.heap[g2]? = some (.cells (clC d1) 28 (0, 0)) ∧ X.cell? ⟨w.heap.size + 1, 0, none⟩ = some (.int .i64 x0) ∧ X.cell? ⟨w.heap.size + 1, 1, none⟩ = some (.int .i64 x1)) (by kernel_rfl) t0.held (fun hHeld => ?_)
    refine heldVal 0 rfl rfl (by kernel_rfl) (by kernel_rfl) (by kernel_rfl) (fun _ _ _ h => h) (by rfl) (fun w hSw => exec_loadRow hSw.2.2.1 rfl rfl Tryd.underlying28 rfl (by unfold clC; kernel_rfl)) (by assumption) ?_
    try simp only [Act.put, List.setIfInBounds_toArray, List.set_cons_zero, List.set_cons_succ]
    refine heldVal 2 rfl rfl (by kernel_rfl) (by kernel_rfl) (by kernel_rfl) (fun _ _ _ h => h) (by rfl) (fun w hSw => exec_loadRow hSw.2.1 rfl rfl Tryd.underlying28 rfl (by unfold clC; kernel_rfl)) (by assumption) ?_
    try simp only [Act.put, List.setIfInBounds_toArray, List.set_cons_zero, List.set_cons_succ]
    refine heldCall 1 rfl rfl (by kernel_rfl) (by rfl) (fun K hK => ?_)
    go_simp
    refine (KM1.out _ (t0.tab HT0.out)).mono ?_
    rintro e tw1 ⟨rfl, hb1⟩
    have t1 := t0.to hb1
    clear hb1
    go_wp2_with fail
    refine hK.out _ _ ?hS (fun hHeld => ?_)
    case hS => (exact t1.held)
    clear hK K
    try simp only [Act.put, List.setIfInBounds_toArray, List.set_cons_zero, List.set_cons_succ]
    refine heldCall 3 rfl rfl (by kernel_rfl) (by rfl) (fun K hK => ?_)
    go_simp
    refine (KM.out _ (t1.tab HT0.out)).mono ?_
    rintro e tw2 ⟨rfl, hb1⟩
    have t2 := t1.to hb1
    clear hb1
    go_wp2_with fail
    refine hK.out _ _ ?hS (fun hHeld => ?_)
    case hS => (exact t2.held)
    clear hK K
    try simp only [Act.put, List.setIfInBounds_toArray, List.set_cons_zero, List.set_cons_succ]
    refine heldVal (v := ?v91) 4 rfl rfl (by kernel_rfl) (by kernel_rfl) (by kernel_rfl) (fun _ _ _ h => h) (by rfl) (fun w hSw => ?hy91) (by assumption) ?_
    case hy91 => ((try dsimp only at hSw); go_simp; (try with_reducible rfl))
    try simp only [Act.put, List.setIfInBounds_toArray, List.set_cons_zero, List.set_cons_succ]
    refine heldVal (v := ?v92) 5 rfl rfl (by kernel_rfl) (by kernel_rfl) (by kernel_rfl) (fun _ _ _ h => h) (by rfl) (fun w hSw => ?hy92) (by assumption) ?_
    case hy92 => ((try dsimp only at hSw); go_simp; (try with_reducible rfl))
    try simp only [Act.put, List.setIfInBounds_toArray, List.set_cons_zero, List.set_cons_succ]
    refine heldVal 6 rfl rfl (by kernel_rfl) (by kernel_rfl) (by kernel_rfl) (fun _ _ _ h => h) (by rfl) (fun w hSw => exec_loadRow hSw.2.1 rfl rfl Tryd.underlying28 rfl (by unfold clC; kernel_rfl)) (by assumption) ?_
    try simp only [Act.put, List.setIfInBounds_toArray, List.set_cons_zero, List.set_cons_succ]
    refine heldVal (v := ?v93) 7 rfl rfl (by kernel_rfl) (by kernel_rfl) (by kernel_rfl) (fun _ _ _ h => h) (by rfl) (fun w hSw => ?hy93) (by assumption) ?_
    case hy93 => ((try dsimp only at hSw); go_simp; (try with_reducible rfl))
    try simp only [Act.put, List.setIfInBounds_toArray, List.set_cons_zero, List.set_cons_succ]
    refine heldCall 8 rfl rfl (by kernel_rfl) (by rfl) (fun K hK => ?_)
    go_simp
    refine (KH.out _ (t2.tab HT0.out)).mono ?_
    rintro e tw3 ⟨rfl, hb1⟩
    have t3 := t2.to hb1
    clear hb1
    go_wp2_with fail
    refine hK.out _ _ ?hS (fun hHeld => ?_)
    case hS => (exact t3.held)
    clear hK K
    try simp only [Act.put, List.setIfInBounds_toArray, List.set_cons_zero, List.set_cons_succ]
    refine heldVal (v := ?v94) 9 rfl rfl (by kernel_rfl) (by kernel_rfl) (by kernel_rfl) (fun _ _ _ h => h) (by rfl) (fun w hSw => ?hy94) (by assumption) ?_
    case hy94 => ((try dsimp only at hSw); go_simp; (try with_reducible rfl))
    try simp only [Act.put, List.setIfInBounds_toArray, List.set_cons_zero, List.set_cons_succ]
    refine heldVal (v := ?v95) 11 rfl rfl (by kernel_rfl) (by kernel_rfl) (by kernel_rfl) (fun _ _ _ h => h) (by rfl) (fun w hSw => ?hy95) (by assumption) ?_
    case hy95 => ((try dsimp only at hSw); go_simp; (try with_reducible rfl))
    try simp only [Act.put, List.setIfInBounds_toArray, List.set_cons_zero, List.set_cons_succ]
    refine heldCall 10 rfl rfl (by kernel_rfl) (by rfl) (fun K hK => ?_)
    go_simp
    refine (KF.out _).mono ?_
    rintro e tw4 ⟨rfl, hb1⟩
    have t4 := t3.to hb1
    clear hb1
    go_wp2_with fail
    refine hK.out _ _ ?hS (fun hHeld => ?_)
    case hS => (exact t4.held)
    clear hK K
    try simp only [Act.put, List.setIfInBounds_toArray, List.set_cons_zero, List.set_cons_succ]
    refine heldCall 12 rfl rfl (by kernel_rfl) (by rfl) (fun K hK => ?_)
    go_simp
    refine (KHG.out _ (t4.tab HT0.out)).mono ?_
    rintro e tw5 ⟨rfl, hb1⟩
    have t5 := t4.to hb1
    clear hb1
    go_wp2_with fail
    refine hK.out _ _ ?hS (fun hHeld => ?_)
    case hS => (exact t5.held)
    clear hK K
    try simp only [Act.put, List.setIfInBounds_toArray, List.set_cons_zero, List.set_cons_succ]
    refine heldVal (v := ?v96) 13 rfl rfl (by kernel_rfl) (by kernel_rfl) (by kernel_rfl) (fun _ _ _ h => h) (by rfl) (fun w hSw => ?hy96) (by assumption) ?_
    case hy96 => ((try dsimp only at hSw); go_simp; (try with_reducible rfl))
    try simp only [Act.put, List.setIfInBounds_toArray, List.set_cons_zero, List.set_cons_succ]
    refine heldVal (v := ?v97) 14 rfl rfl (by kernel_rfl) (by kernel_rfl) (by kernel_rfl) (fun _ _ _ h => h) (by rfl) (fun w hSw => ?hy97) (by assumption) ?_
    case hy97 => ((try dsimp only at hSw); go_simp; (try with_reducible rfl))
    try simp only [Act.put, List.setIfInBounds_toArray, List.set_cons_zero, List.set_cons_succ]
    refine heldVal (v := ?v98) 15 rfl rfl (by kernel_rfl) (by kernel_rfl) (by kernel_rfl) (fun _ _ _ h => h) (by rfl) (fun w hSw => ?hy98) (by assumption) ?_
    case hy98 => ((try dsimp only at hSw); go_simp; (try with_reducible rfl))
    try simp only [Act.put, List.setIfInBounds_toArray, List.set_cons_zero, List.set_cons_succ]
    refine wpAnyH_done (by kernel_rfl) ?_ _
    have tz := t5
    clear t0 t1 t2 t3 t4 t5
    obtain ⟨a0, a1, a28, a29, z28, z29⟩ := tz.facts
    obtain ⟨c28, c29⟩ := tz.1.ends
    have HA4 := Lib.hid (tz.put 28 (.int .i64 F) HE2.out)
    generalize hV : (tw5 : World) = V at *
    obtain ⟨W4, hW4⟩ : ∃ W4, V.setCell ⟨g2, 28, none⟩ (.int .i64 F) = W4 := ⟨_, rfl⟩
    rw [hW4] at HA4
    obtain ⟨b0, b1, b28, b29, y28, y29⟩ := HA4.out.facts
    obtain ⟨d28, d29⟩ := HA4.out.1.ends
    have HA5 := Lib.hid (HA4.out.put 29 (.int .i64 U) HD2.out)
    obtain ⟨W5, hW5⟩ : ∃ W5, W4.setCell ⟨g2, 29, none⟩ (.int .i64 U) = W5 := ⟨_, rfl⟩
    rw [hW5] at HA5
    go_wp2_with fail
    clear hV tz a0 a1 a28 a29 z28 z29 c28 c29 HA4 hW4 b0 b1 b28 b29 y28 y29 d28 d29 hW5 KM KM1 KF HE2 HD2
    have u0 := HA5.out.to ((Below.refl W5.heap.size W5).drew)
    cases p
    · refine wp_region_held_drew (S := fun X => Below w.heap.size w X ∧ X.heap[w.heap.size]? = some (.cells (clC c) 28 (0, 0)) ∧ X.heap[g2]? = some (.cells (clC d2) 28 (0, 0)) ∧ X.cell? ⟨w.heap.size + 1, 0, none⟩ = some (.int .i64 x0) ∧ X.cell? ⟨w.heap.size + 1, 1, none⟩ = some (.int .i64 x1)) (by kernel_rfl) u0.held (fun hHeld => ?_)
      refine heldVal 0 rfl rfl (by kernel_rfl) (by kernel_rfl) (by kernel_rfl) (fun _ _ _ h => h) (by rfl) (fun w hSw => exec_loadRow hSw.2.2.1 rfl rfl Tryd.underlying28 rfl (by unfold clC; kernel_rfl)) (by assumption) ?_
      try simp only [Act.put, List.setIfInBounds_toArray, List.set_cons_zero, List.set_cons_succ]
      refine heldVal (v := ?v99) 1 rfl rfl (by kernel_rfl) (by kernel_rfl) (by kernel_rfl) (fun _ _ _ h => h) (by rfl) (fun w hSw => ?hy99) (by assumption) ?_
      case hy99 => ((try dsimp only at hSw); go_simp; (try with_reducible rfl))
      try simp only [Act.put, List.setIfInBounds_toArray, List.set_cons_zero, List.set_cons_succ]
      refine heldVal 3 rfl rfl (by kernel_rfl) (by kernel_rfl) (by kernel_rfl) (fun _ _ _ h => h) (by rfl) (fun w hSw => exec_loadRow hSw.2.1 rfl rfl Tryd.underlying28 rfl (by unfold clC; kernel_rfl)) (by assumption) ?_
      try simp only [Act.put, List.setIfInBounds_toArray, List.set_cons_zero, List.set_cons_succ]
      refine heldVal (v := ?v100) 4 rfl rfl (by kernel_rfl) (by kernel_rfl) (by kernel_rfl) (fun _ _ _ h => h) (by rfl) (fun w hSw => ?hy100) (by assumption) ?_
      case hy100 => ((try dsimp only at hSw); go_simp; (try with_reducible rfl))
      try simp only [Act.put, List.setIfInBounds_toArray, List.set_cons_zero, List.set_cons_succ]
      refine heldCall 2 rfl rfl (by kernel_rfl) (by rfl) (fun K hK => ?_)
      go_simp
      refine (KH2.out _ (u0.tab HT0.out)).mono ?_
      rintro e uw1 ⟨rfl, hb1⟩
      have u1 := u0.to hb1
      clear hb1
      go_wp2_with fail
      refine hK.out _ _ ?hS (fun hHeld => ?_)
      case hS => (exact u1.held)
      clear hK K
      try simp only [Act.put, List.setIfInBounds_toArray, List.set_cons_zero, List.set_cons_succ]
      refine heldCall 5 rfl rfl (by kernel_rfl) (by rfl) (fun K hK => ?_)
      go_simp
      refine (KH.out _ (u1.tab HT0.out)).mono ?_
      rintro e uw2 ⟨rfl, hb1⟩
      have u2 := u1.to hb1
      clear hb1
      go_wp2_with fail
      refine hK.out _ _ ?hS (fun hHeld => ?_)
      case hS => (exact u2.held)
      clear hK K
      try simp only [Act.put, List.setIfInBounds_toArray, List.set_cons_zero, List.set_cons_succ]
      refine heldVal (v := ?v101) 6 rfl rfl (by kernel_rfl) (by kernel_rfl) (by kernel_rfl) (fun _ _ _ h => h) (by rfl) (fun w hSw => ?hy101) (by assumption) ?_
      case hy101 => ((try dsimp only at hSw); go_simp; (try with_reducible rfl))
      try simp only [Act.put, List.setIfInBounds_toArray, List.set_cons_zero, List.set_cons_succ]
      refine heldVal (v := ?v102) 7 rfl rfl (by kernel_rfl) (by kernel_rfl) (by kernel_rfl) (fun _ _ _ h => h) (by rfl) (fun w hSw => ?hy102) (by assumption) ?_
      case hy102 => ((try dsimp only at hSw); go_simp; (try with_reducible rfl))
      try simp only [Act.put, List.setIfInBounds_toArray, List.set_cons_zero, List.set_cons_succ]
      refine heldVal (v := ?v103) 8 rfl rfl (by kernel_rfl) (by kernel_rfl) (by kernel_rfl) (fun _ _ _ h => h) (by rfl) (fun w hSw => ?hy103) (by assumption) ?_
      case hy103 => ((try dsimp only at hSw); go_simp; (try with_reducible rfl))
      try simp only [Act.put, List.setIfInBounds_toArray, List.set_cons_zero, List.set_cons_succ]
      refine heldVal (v := ?v104) 9 rfl rfl (by kernel_rfl) (by kernel_rfl) (by kernel_rfl) (fun _ _ _ h => h) (by rfl) (fun w hSw => ?hy104) (by assumption) ?_
      case hy104 => ((try dsimp only at hSw); go_simp; (try with_reducible rfl))
      try simp only [Act.put, List.setIfInBounds_toArray, List.set_cons_zero, List.set_cons_succ]
      refine heldVal (v := ?v105) 10 rfl rfl (by kernel_rfl) (by kernel_rfl) (by kernel_rfl) (fun _ _ _ h => h) (by rfl) (fun w hSw => ?hy105) (by assumption) ?_
      case hy105 => ((try dsimp only at hSw); go_simp; (try with_reducible rfl))
      try simp only [Act.put, List.setIfInBounds_toArray, List.set_cons_zero, List.set_cons_succ]
      refine heldVal (v := ?v106) 11 rfl rfl (by kernel_rfl) (by kernel_rfl) (by kernel_rfl) (fun _ _ _ h => h) (by rfl) (fun w hSw => ?hy106) (by assumption) ?_
      case hy106 => ((try dsimp only at hSw); go_simp; (try with_reducible rfl))
      try simp only [Act.put, List.setIfInBounds_toArray, List.set_cons_zero, List.set_cons_succ]
      refine heldVal (v := ?v107) 12 rfl rfl (by kernel_rfl) (by kernel_rfl) (by kernel_rfl) (fun _ _ _ h => h) (by rfl) (fun w hSw => ?hy107) (by assumption) ?_
      case hy107 => ((try dsimp only at hSw); go_simp; (try with_reducible rfl))
      try simp only [Act.put, List.setIfInBounds_toArray, List.set_cons_zero, List.set_cons_succ]
      refine heldSkip 13 rfl rfl (by kernel_rfl) (by kernel_rfl) (by kernel_rfl) (fun _ _ _ h => h) (by rfl) (by assumption) ?_
      try simp only [Act.put, List.setIfInBounds_toArray, List.set_cons_zero, List.set_cons_succ]
      refine heldSkip 14 rfl rfl (by kernel_rfl) (by kernel_rfl) (by kernel_rfl) (fun _ _ _ h => h) (by rfl) (by assumption) ?_
      try simp only [Act.put, List.setIfInBounds_toArray, List.set_cons_zero, List.set_cons_succ]
      refine heldSkip 15 rfl rfl (by kernel_rfl) (by kernel_rfl) (by kernel_rfl) (fun _ _ _ h => h) (by rfl) (by assumption) ?_
      try simp only [Act.put, List.setIfInBounds_toArray, List.set_cons_zero, List.set_cons_succ]
      refine heldSkip 16 rfl rfl (by kernel_rfl) (by kernel_rfl) (by kernel_rfl) (fun _ _ _ h => h) (by rfl) (by assumption) ?_
      try simp only [Act.put, List.setIfInBounds_toArray, List.set_cons_zero, List.set_cons_succ]
      refine heldVal (v := ?v108) 17 rfl rfl (by kernel_rfl) (by kernel_rfl) (by kernel_rfl) (fun _ _ _ h => h) (by rfl) (fun w hSw => ?hy108) (by assumption) ?_
      case hy108 => ((try dsimp only at hSw); go_simp; (try with_reducible rfl))
      try simp only [Act.put, List.setIfInBounds_toArray, List.set_cons_zero, List.set_cons_succ]
      refine heldVal (v := ?v109) 18 rfl rfl (by kernel_rfl) (by kernel_rfl) (by kernel_rfl) (fun _ _ _ h => h) (by rfl) (fun w hSw => ?hy109) (by assumption) ?_
      case hy109 => ((try dsimp only at hSw); go_simp; (try with_reducible rfl))
      try simp only [Act.put, List.setIfInBounds_toArray, List.set_cons_zero, List.set_cons_succ]
      refine heldVal (v := ?v110) 19 rfl rfl (by kernel_rfl) (by kernel_rfl) (by kernel_rfl) (fun _ _ _ h => h) (by rfl) (fun w hSw => ?hy110) (by assumption) ?_
      case hy110 => ((try dsimp only at hSw); go_simp; (try with_reducible rfl))
      try simp only [Act.put, List.setIfInBounds_toArray, List.set_cons_zero, List.set_cons_succ]
      refine heldCall 20 rfl rfl (by kernel_rfl) (by rfl) (fun K hK => ?_)
      go_simp
      refine (KL.out _ (u2.tab HT0.out)).mono ?_
      rintro e uw3 ⟨rfl, hb1⟩
      have u3 := u2.to hb1
      clear hb1
      go_wp2_with fail
      refine hK.out _ _ ?hS (fun hHeld => ?_)
      case hS => (exact u3.held)
      clear hK K
      try simp only [Act.put, List.setIfInBounds_toArray, List.set_cons_zero, List.set_cons_succ]
      refine heldVal (v := ?v111) 21 rfl rfl (by kernel_rfl) (by kernel_rfl) (by kernel_rfl) (fun _ _ _ h => h) (by rfl) (fun w hSw => ?hy111) (by assumption) ?_
      case hy111 => ((try dsimp only at hSw); go_simp; (try with_reducible rfl))
      try simp only [Act.put, List.setIfInBounds_toArray, List.set_cons_zero, List.set_cons_succ]
      refine heldVal (v := ?v112) 22 rfl rfl (by kernel_rfl) (by kernel_rfl) (by kernel_rfl) (fun _ _ _ h => h) (by rfl) (fun w hSw => ?hy112) (by assumption) ?_
      case hy112 => ((try dsimp only at hSw); go_simp; (try with_reducible rfl))
      try simp only [Act.put, List.setIfInBounds_toArray, List.set_cons_zero, List.set_cons_succ]
      refine wpAnyH_done (by kernel_rfl) ?_ _
      have HBX := Lib.hid u3.2.2.2.1
      go_wp2
      go_ret
      exact ⟨rfl, HBX.out⟩
    · cases q
      · refine wp_region_held_drew (S := fun X => Below w.heap.size w X ∧ X.heap[w.heap.size]? = some (.cells (clC c) 28 (0, 0)) ∧ X.heap[g2]? = some (.cells (clC d2) 28 (0, 0)) ∧ X.cell? ⟨w.heap.size + 1, 0, none⟩ = some (.int .i64 x0) ∧ X.cell? ⟨w.heap.size + 1, 1, none⟩ = some (.int .i64 x1)) (by kernel_rfl) u0.held (fun hHeld => ?_)
        refine heldVal 0 rfl rfl (by kernel_rfl) (by kernel_rfl) (by kernel_rfl) (fun _ _ _ h => h) (by rfl) (fun w hSw => exec_loadRow hSw.2.2.1 rfl rfl Tryd.underlying28 rfl (by unfold clC; kernel_rfl)) (by assumption) ?_
        try simp only [Act.put, List.setIfInBounds_toArray, List.set_cons_zero, List.set_cons_succ]
        refine heldVal (v := ?v113) 1 rfl rfl (by kernel_rfl) (by kernel_rfl) (by kernel_rfl) (fun _ _ _ h => h) (by rfl) (fun w hSw => ?hy113) (by assumption) ?_
        case hy113 => ((try dsimp only at hSw); go_simp; (try with_reducible rfl))
        try simp only [Act.put, List.setIfInBounds_toArray, List.set_cons_zero, List.set_cons_succ]
        refine heldVal 3 rfl rfl (by kernel_rfl) (by kernel_rfl) (by kernel_rfl) (fun _ _ _ h => h) (by rfl) (fun w hSw => exec_loadRow hSw.2.1 rfl rfl Tryd.underlying28 rfl (by unfold clC; kernel_rfl)) (by assumption) ?_
        try simp only [Act.put, List.setIfInBounds_toArray, List.set_cons_zero, List.set_cons_succ]
        refine heldVal (v := ?v114) 4 rfl rfl (by kernel_rfl) (by kernel_rfl) (by kernel_rfl) (fun _ _ _ h => h) (by rfl) (fun w hSw => ?hy114) (by assumption) ?_
        case hy114 => ((try dsimp only at hSw); go_simp; (try with_reducible rfl))
        try simp only [Act.put, List.setIfInBounds_toArray, List.set_cons_zero, List.set_cons_succ]
        refine heldCall 2 rfl rfl (by kernel_rfl) (by rfl) (fun K hK => ?_)
        go_simp
        refine (KH2.out _ (u0.tab HT0.out)).mono ?_
        rintro e uw1 ⟨rfl, hb1⟩
        have u1 := u0.to hb1
        clear hb1
        go_wp2_with fail
        refine hK.out _ _ ?hS (fun hHeld => ?_)
        case hS => (exact u1.held)
        clear hK K
        try simp only [Act.put, List.setIfInBounds_toArray, List.set_cons_zero, List.set_cons_succ]
        refine heldCall 5 rfl rfl (by kernel_rfl) (by rfl) (fun K hK => ?_)
        go_simp
        refine (KH.out _ (u1.tab HT0.out)).mono ?_
        rintro e uw2 ⟨rfl, hb1⟩
        have u2 := u1.to hb1
        clear hb1
        go_wp2_with fail
        refine hK.out _ _ ?hS (fun hHeld => ?_)
        case hS => (exact u2.held)
        clear hK K
        try simp only [Act.put, List.setIfInBounds_toArray, List.set_cons_zero, List.set_cons_succ]
        refine heldVal (v := ?v115) 6 rfl rfl (by kernel_rfl) (by kernel_rfl) (by kernel_rfl) (fun _ _ _ h => h) (by rfl) (fun w hSw => ?hy115) (by assumption) ?_
        case hy115 => ((try dsimp only at hSw); go_simp; (try with_reducible rfl))
        try simp only [Act.put, List.setIfInBounds_toArray, List.set_cons_zero, List.set_cons_succ]
        refine heldVal (v := ?v116) 7 rfl rfl (by kernel_rfl) (by kernel_rfl) (by kernel_rfl) (fun _ _ _ h => h) (by rfl) (fun w hSw => ?hy116) (by assumption) ?_
        case hy116 => ((try dsimp only at hSw); go_simp; (try with_reducible rfl))
        try simp only [Act.put, List.setIfInBounds_toArray, List.set_cons_zero, List.set_cons_succ]
        refine heldVal (v := ?v117) 8 rfl rfl (by kernel_rfl) (by kernel_rfl) (by kernel_rfl) (fun _ _ _ h => h) (by rfl) (fun w hSw => ?hy117) (by assumption) ?_
        case hy117 => ((try dsimp only at hSw); go_simp; (try with_reducible rfl))
        try simp only [Act.put, List.setIfInBounds_toArray, List.set_cons_zero, List.set_cons_succ]
        refine heldVal (v := ?v118) 9 rfl rfl (by kernel_rfl) (by kernel_rfl) (by kernel_rfl) (fun _ _ _ h => h) (by rfl) (fun w hSw => ?hy118) (by assumption) ?_
        case hy118 => ((try dsimp only at hSw); go_simp; (try with_reducible rfl))
        try simp only [Act.put, List.setIfInBounds_toArray, List.set_cons_zero, List.set_cons_succ]
        refine heldVal (v := ?v119) 10 rfl rfl (by kernel_rfl) (by kernel_rfl) (by kernel_rfl) (fun _ _ _ h => h) (by rfl) (fun w hSw => ?hy119) (by assumption) ?_
        case hy119 => ((try dsimp only at hSw); go_simp; (try with_reducible rfl))
        try simp only [Act.put, List.setIfInBounds_toArray, List.set_cons_zero, List.set_cons_succ]
        refine heldVal (v := ?v120) 11 rfl rfl (by kernel_rfl) (by kernel_rfl) (by kernel_rfl) (fun _ _ _ h => h) (by rfl) (fun w hSw => ?hy120) (by assumption) ?_
        case hy120 => ((try dsimp only at hSw); go_simp; (try with_reducible rfl))
        try simp only [Act.put, List.setIfInBounds_toArray, List.set_cons_zero, List.set_cons_succ]
        refine heldVal (v := ?v121) 12 rfl rfl (by kernel_rfl) (by kernel_rfl) (by kernel_rfl) (fun _ _ _ h => h) (by rfl) (fun w hSw => ?hy121) (by assumption) ?_
        case hy121 => ((try dsimp only at hSw); go_simp; (try with_reducible rfl))
        try simp only [Act.put, List.setIfInBounds_toArray, List.set_cons_zero, List.set_cons_succ]
        refine heldVal (v := ?v122) 13 rfl rfl (by kernel_rfl) (by kernel_rfl) (by kernel_rfl) (fun _ _ _ h => h) (by rfl) (fun w hSw => ?hy122) (by assumption) ?_
        case hy122 => ((try dsimp only at hSw); go_simp; (try with_reducible rfl))
        try simp only [Act.put, List.setIfInBounds_toArray, List.set_cons_zero, List.set_cons_succ]
        refine heldVal (v := ?v123) 14 rfl rfl (by kernel_rfl) (by kernel_rfl) (by kernel_rfl) (fun _ _ _ h => h) (by rfl) (fun w hSw => ?hy123) (by assumption) ?_
        case hy123 => ((try dsimp only at hSw); go_simp; (try with_reducible rfl))
        try simp only [Act.put, List.setIfInBounds_toArray, List.set_cons_zero, List.set_cons_succ]
        refine heldVal (v := ?v124) 15 rfl rfl (by kernel_rfl) (by kernel_rfl) (by kernel_rfl) (fun _ _ _ h => h) (by rfl) (fun w hSw => ?hy124) (by assumption) ?_
        case hy124 => ((try dsimp only at hSw); go_simp; (try with_reducible rfl))
        try simp only [Act.put, List.setIfInBounds_toArray, List.set_cons_zero, List.set_cons_succ]
        refine heldVal (v := ?v125) 16 rfl rfl (by kernel_rfl) (by kernel_rfl) (by kernel_rfl) (fun _ _ _ h => h) (by rfl) (fun w hSw => ?hy125) (by assumption) ?_
        case hy125 => ((try dsimp only at hSw); go_simp; (try with_reducible rfl))
        try simp only [Act.put, List.setIfInBounds_toArray, List.set_cons_zero, List.set_cons_succ]
        refine heldVal (v := ?v126) 17 rfl rfl (by kernel_rfl) (by kernel_rfl) (by kernel_rfl) (fun _ _ _ h => h) (by rfl) (fun w hSw => ?hy126) (by assumption) ?_
        case hy126 => ((try dsimp only at hSw); go_simp; (try with_reducible rfl))
        try simp only [Act.put, List.setIfInBounds_toArray, List.set_cons_zero, List.set_cons_succ]
        refine heldVal (v := ?v127) 18 rfl rfl (by kernel_rfl) (by kernel_rfl) (by kernel_rfl) (fun _ _ _ h => h) (by rfl) (fun w hSw => ?hy127) (by assumption) ?_
        case hy127 => ((try dsimp only at hSw); go_simp; (try with_reducible rfl))
        try simp only [Act.put, List.setIfInBounds_toArray, List.set_cons_zero, List.set_cons_succ]
        refine heldVal (v := ?v128) 19 rfl rfl (by kernel_rfl) (by kernel_rfl) (by kernel_rfl) (fun _ _ _ h => h) (by rfl) (fun w hSw => ?hy128) (by assumption) ?_
        case hy128 => ((try dsimp only at hSw); go_simp; (try with_reducible rfl))
        try simp only [Act.put, List.setIfInBounds_toArray, List.set_cons_zero, List.set_cons_succ]
        refine heldCall 20 rfl rfl (by kernel_rfl) (by rfl) (fun K hK => ?_)
        go_simp
        refine (KL.out _ (u2.tab HT0.out)).mono ?_
        rintro e uw3 ⟨rfl, hb1⟩
        have u3 := u2.to hb1
        clear hb1
        go_wp2_with fail
        refine hK.out _ _ ?hS (fun hHeld => ?_)
        case hS => (exact u3.held)
        clear hK K
        try simp only [Act.put, List.setIfInBounds_toArray, List.set_cons_zero, List.set_cons_succ]
        refine heldVal (v := ?v129) 21 rfl rfl (by kernel_rfl) (by kernel_rfl) (by kernel_rfl) (fun _ _ _ h => h) (by rfl) (fun w hSw => ?hy129) (by assumption) ?_
        case hy129 => ((try dsimp only at hSw); go_simp; (try with_reducible rfl))
        try simp only [Act.put, List.setIfInBounds_toArray, List.set_cons_zero, List.set_cons_succ]
        refine heldVal (v := ?v130) 22 rfl rfl (by kernel_rfl) (by kernel_rfl) (by kernel_rfl) (fun _ _ _ h => h) (by rfl) (fun w hSw => ?hy130) (by assumption) ?_
        case hy130 => ((try dsimp only at hSw); go_simp; (try with_reducible rfl))
        try simp only [Act.put, List.setIfInBounds_toArray, List.set_cons_zero, List.set_cons_succ]
        refine wpAnyH_done (by kernel_rfl) ?_ _
        have HBX := Lib.hid u3.2.2.2.1
        go_wp2
        go_ret
        exact ⟨rfl, HBX.out⟩
      · refine wp_region_held_drew (S := fun X => Below w.heap.size w X ∧ X.heap[w.heap.size]? = some (.cells (clC c) 28 (0, 0)) ∧ X.heap[g2]? = some (.cells (clC d2) 28 (0, 0)) ∧ X.cell? ⟨w.heap.size + 1, 0, none⟩ = some (.int .i64 x0) ∧ X.cell? ⟨w.heap.size + 1, 1, none⟩ = some (.int .i64 x1)) (by kernel_rfl) u0.held (fun hHeld => ?_)
        refine heldVal 0 rfl rfl (by kernel_rfl) (by kernel_rfl) (by kernel_rfl) (fun _ _ _ h => h) (by rfl) (fun w hSw => exec_loadRow hSw.2.2.1 rfl rfl Tryd.underlying28 rfl (by unfold clC; kernel_rfl)) (by assumption) ?_
        try simp only [Act.put, List.setIfInBounds_toArray, List.set_cons_zero, List.set_cons_succ]
        refine heldVal (v := ?v131) 1 rfl rfl (by kernel_rfl) (by kernel_rfl) (by kernel_rfl) (fun _ _ _ h => h) (by rfl) (fun w hSw => ?hy131) (by assumption) ?_
        case hy131 => ((try dsimp only at hSw); go_simp; (try with_reducible rfl))
        try simp only [Act.put, List.setIfInBounds_toArray, List.set_cons_zero, List.set_cons_succ]
        refine heldVal 3 rfl rfl (by kernel_rfl) (by kernel_rfl) (by kernel_rfl) (fun _ _ _ h => h) (by rfl) (fun w hSw => exec_loadRow hSw.2.1 rfl rfl Tryd.underlying28 rfl (by unfold clC; kernel_rfl)) (by assumption) ?_
        try simp only [Act.put, List.setIfInBounds_toArray, List.set_cons_zero, List.set_cons_succ]
        refine heldVal (v := ?v132) 4 rfl rfl (by kernel_rfl) (by kernel_rfl) (by kernel_rfl) (fun _ _ _ h => h) (by rfl) (fun w hSw => ?hy132) (by assumption) ?_
        case hy132 => ((try dsimp only at hSw); go_simp; (try with_reducible rfl))
        try simp only [Act.put, List.setIfInBounds_toArray, List.set_cons_zero, List.set_cons_succ]
        refine heldCall 2 rfl rfl (by kernel_rfl) (by rfl) (fun K hK => ?_)
        go_simp
        refine (KH2.out _ (u0.tab HT0.out)).mono ?_
        rintro e uw1 ⟨rfl, hb1⟩
        have u1 := u0.to hb1
        clear hb1
        go_wp2_with fail
        refine hK.out _ _ ?hS (fun hHeld => ?_)
        case hS => (exact u1.held)
        clear hK K
        try simp only [Act.put, List.setIfInBounds_toArray, List.set_cons_zero, List.set_cons_succ]
        refine heldCall 5 rfl rfl (by kernel_rfl) (by rfl) (fun K hK => ?_)
        go_simp
        refine (KH.out _ (u1.tab HT0.out)).mono ?_
        rintro e uw2 ⟨rfl, hb1⟩
        have u2 := u1.to hb1
        clear hb1
        go_wp2_with fail
        refine hK.out _ _ ?hS (fun hHeld => ?_)
        case hS => (exact u2.held)
        clear hK K
        try simp only [Act.put, List.setIfInBounds_toArray, List.set_cons_zero, List.set_cons_succ]
        refine heldVal (v := ?v133) 6 rfl rfl (by kernel_rfl) (by kernel_rfl) (by kernel_rfl) (fun _ _ _ h => h) (by rfl) (fun w hSw => ?hy133) (by assumption) ?_
        case hy133 => ((try dsimp only at hSw); go_simp; (try with_reducible rfl))
        try simp only [Act.put, List.setIfInBounds_toArray, List.set_cons_zero, List.set_cons_succ]
        refine heldVal (v := ?v134) 7 rfl rfl (by kernel_rfl) (by kernel_rfl) (by kernel_rfl) (fun _ _ _ h => h) (by rfl) (fun w hSw => ?hy134) (by assumption) ?_
        case hy134 => ((try dsimp only at hSw); go_simp; (try with_reducible rfl))
        try simp only [Act.put, List.setIfInBounds_toArray, List.set_cons_zero, List.set_cons_succ]
        refine heldVal (v := ?v135) 8 rfl rfl (by kernel_rfl) (by kernel_rfl) (by kernel_rfl) (fun _ _ _ h => h) (by rfl) (fun w hSw => ?hy135) (by assumption) ?_
        case hy135 => ((try dsimp only at hSw); go_simp; (try with_reducible rfl))
        try simp only [Act.put, List.setIfInBounds_toArray, List.set_cons_zero, List.set_cons_succ]
        refine heldVal (v := ?v136) 9 rfl rfl (by kernel_rfl) (by kernel_rfl) (by kernel_rfl) (fun _ _ _ h => h) (by rfl) (fun w hSw => ?hy136) (by assumption) ?_
        case hy136 => ((try dsimp only at hSw); go_simp; (try with_reducible rfl))
        try simp only [Act.put, List.setIfInBounds_toArray, List.set_cons_zero, List.set_cons_succ]
        refine heldVal (v := ?v137) 10 rfl rfl (by kernel_rfl) (by kernel_rfl) (by kernel_rfl) (fun _ _ _ h => h) (by rfl) (fun w hSw => ?hy137) (by assumption) ?_
        case hy137 => ((try dsimp only at hSw); go_simp; (try with_reducible rfl))
        try simp only [Act.put, List.setIfInBounds_toArray, List.set_cons_zero, List.set_cons_succ]
        refine heldVal (v := ?v138) 11 rfl rfl (by kernel_rfl) (by kernel_rfl) (by kernel_rfl) (fun _ _ _ h => h) (by rfl) (fun w hSw => ?hy138) (by assumption) ?_
        case hy138 => ((try dsimp only at hSw); go_simp; (try with_reducible rfl))
        try simp only [Act.put, List.setIfInBounds_toArray, List.set_cons_zero, List.set_cons_succ]
        refine heldVal (v := ?v139) 12 rfl rfl (by kernel_rfl) (by kernel_rfl) (by kernel_rfl) (fun _ _ _ h => h) (by rfl) (fun w hSw => ?hy139) (by assumption) ?_
        case hy139 => ((try dsimp only at hSw); go_simp; (try with_reducible rfl))
        try simp only [Act.put, List.setIfInBounds_toArray, List.set_cons_zero, List.set_cons_succ]
        refine heldVal (v := ?v140) 13 rfl rfl (by kernel_rfl) (by kernel_rfl) (by kernel_rfl) (fun _ _ _ h => h) (by rfl) (fun w hSw => ?hy140) (by assumption) ?_
        case hy140 => ((try dsimp only at hSw); go_simp; (try with_reducible rfl))
        try simp only [Act.put, List.setIfInBounds_toArray, List.set_cons_zero, List.set_cons_succ]
        refine heldVal (v := ?v141) 14 rfl rfl (by kernel_rfl) (by kernel_rfl) (by kernel_rfl) (fun _ _ _ h => h) (by rfl) (fun w hSw => ?hy141) (by assumption) ?_
        case hy141 => ((try dsimp only at hSw); go_simp; (try with_reducible rfl))
        try simp only [Act.put, List.setIfInBounds_toArray, List.set_cons_zero, List.set_cons_succ]
        refine heldVal (v := ?v142) 15 rfl rfl (by kernel_rfl) (by kernel_rfl) (by kernel_rfl) (fun _ _ _ h => h) (by rfl) (fun w hSw => ?hy142) (by assumption) ?_
        case hy142 => ((try dsimp only at hSw); go_simp; (try with_reducible rfl))
        try simp only [Act.put, List.setIfInBounds_toArray, List.set_cons_zero, List.set_cons_succ]
        refine heldVal (v := ?v143) 16 rfl rfl (by kernel_rfl) (by kernel_rfl) (by kernel_rfl) (fun _ _ _ h => h) (by rfl) (fun w hSw => ?hy143) (by assumption) ?_
        case hy143 => ((try dsimp only at hSw); go_simp; (try with_reducible rfl))
        try simp only [Act.put, List.setIfInBounds_toArray, List.set_cons_zero, List.set_cons_succ]
        refine heldVal (v := ?v144) 17 rfl rfl (by kernel_rfl) (by kernel_rfl) (by kernel_rfl) (fun _ _ _ h => h) (by rfl) (fun w hSw => ?hy144) (by assumption) ?_
        case hy144 => ((try dsimp only at hSw); go_simp; (try with_reducible rfl))
        try simp only [Act.put, List.setIfInBounds_toArray, List.set_cons_zero, List.set_cons_succ]
        refine heldVal (v := ?v145) 18 rfl rfl (by kernel_rfl) (by kernel_rfl) (by kernel_rfl) (fun _ _ _ h => h) (by rfl) (fun w hSw => ?hy145) (by assumption) ?_
        case hy145 => ((try dsimp only at hSw); go_simp; (try with_reducible rfl))
        try simp only [Act.put, List.setIfInBounds_toArray, List.set_cons_zero, List.set_cons_succ]
        refine heldVal (v := ?v146) 19 rfl rfl (by kernel_rfl) (by kernel_rfl) (by kernel_rfl) (fun _ _ _ h => h) (by rfl) (fun w hSw => ?hy146) (by assumption) ?_
        case hy146 => ((try dsimp only at hSw); go_simp; (try with_reducible rfl))
        try simp only [Act.put, List.setIfInBounds_toArray, List.set_cons_zero, List.set_cons_succ]
        refine heldCall 20 rfl rfl (by kernel_rfl) (by rfl) (fun K hK => ?_)
        go_simp
        refine (KL.out _ (u2.tab HT0.out)).mono ?_
        rintro e uw3 ⟨rfl, hb1⟩
        have u3 := u2.to hb1
        clear hb1
        go_wp2_with fail
        refine hK.out _ _ ?hS (fun hHeld => ?_)
        case hS => (exact u3.held)
        clear hK K
        try simp only [Act.put, List.setIfInBounds_toArray, List.set_cons_zero, List.set_cons_succ]
        refine heldVal (v := ?v147) 21 rfl rfl (by kernel_rfl) (by kernel_rfl) (by kernel_rfl) (fun _ _ _ h => h) (by rfl) (fun w hSw => ?hy147) (by assumption) ?_
        case hy147 => ((try dsimp only at hSw); go_simp; (try with_reducible rfl))
        try simp only [Act.put, List.setIfInBounds_toArray, List.set_cons_zero, List.set_cons_succ]
        refine heldVal (v := ?v148) 22 rfl rfl (by kernel_rfl) (by kernel_rfl) (by kernel_rfl) (fun _ _ _ h => h) (by rfl) (fun w hSw => ?hy148) (by assumption) ?_
        case hy148 => ((try dsimp only at hSw); go_simp; (try with_reducible rfl))
        try simp only [Act.put, List.setIfInBounds_toArray, List.set_cons_zero, List.set_cons_succ]
        refine wpAnyH_done (by kernel_rfl) ?_ _
        have HBX := Lib.hid u3.2.2.2.1
        go_wp2
        go_ret
        exact ⟨rfl, HBX.out⟩
end Go.Proofs.YtbfndcogieiejaaDoor
