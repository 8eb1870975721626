/- The document's test of a clause's day (layer 13). Whether a day has a clause: by the program and by the document (layer 13). Whether an instant has a clause (layer 13). Whether an instant has a clause, by the document (layer 13). A clause's span, clauses held against each other, and the functions of days in general (layer 13). -/
import Derived.Test.YtbfndcogieiejaaDoorWh
import Derived.Test.YtbfndcogieiejaaDoorWdF
import Derived.BigQuiet
import Derived.Test.YtbfndcogieiejaaDoorTod
import Derived.Test.YtbfndcogieiejaaDoorShA
import Derived.Test.YtbfndcogieiejaaDoorCmJ
import Derived.Test.YtbfndcogieiejaaDoorSpan
namespace Go.Proofs.YtbfndcogieiejaaDoor
open Go.RowKit Civ
set_option linter.unusedVariables false

set_option maxHeartbeats 1600000 in
set_option maxRecDepth 20000 in
theorem rnth_any (n : Int) (b : Bool) (D : Nat → Nat) (hD : ∀ i, D i < 18446744073709551616) (s : Sp) (hn1 : 0 ≤ n) (hn2 : n ≤ 2) (hw1 : 1 ≤ s.wk) (hw2 : s.wk ≤ 7) (w : World) : Calls Tryd.prog 69 #[ordV n b D, spV s] w fun e w' => e = .returned (.bool (ordS n b D s)) ∧ Below w.heap.size w w' := by
  have HB0 := Lib.hid (show Below w.heap.size w ((w.alloc (.cells (ordC n b D) 25)).alloc (.cells (spC s) 40)) from ((Below.refl _ _).alloc (Nat.le_refl _) _).alloc (by simp) _)
  have HG0 := Lib.hid (blk_more (blk_new w (.cells (ordC n b D) 25)) (.cells (spC s) 40))
  have HS0 := Lib.hid (blk_new (w.alloc (.cells (ordC n b D) 25)) (.cells (spC s) 40))
  rw [size_allocD] at HS0
  have HE := Lib.hid (show ordS n b D s = if n = 0 then true else if s.wk < 1 ∨ 7 < s.wk then false else inM (D s.wk.toNat) (if n = 1 then (if b then s.om else s.im) else (if b then s.oy else s.iy)) from rfl)
  generalize ordS n b D s = bb at HE ⊢
  have KH := Lib.hid (fun (k : Nat) (i : Int) (W : World) => rhas_any (D k) i W (hD k))
  have x0 := blk_cell HG0.out 0
  have x1 := blk_cell HG0.out 1
  have HX := Lib.hid (fun (j : Nat) (hj : j < 8) => (blk_cell HG0.out (2 + j)).trans (ordC_get n b D j hj))
  rw [show (ordC n b D)[0]? = some (.int .i64 n) from rfl] at x0
  rw [show (ordC n b D)[1]? = some (.bool b) from rfl] at x1
  have y5 := blk_cell HS0.out 5
  have y6 := blk_cell HS0.out 6
  have y7 := blk_cell HS0.out 7
  have y8 := blk_cell HS0.out 8
  have y9 := blk_cell HS0.out 9
  rw [show (spC s)[5]? = some (.int .i64 s.wk) from rfl] at y5
  rw [show (spC s)[6]? = some (.int .i64 s.im) from rfl] at y6
  rw [show (spC s)[7]? = some (.int .i64 s.om) from rfl] at y7
  rw [show (spC s)[8]? = some (.int .i64 s.iy) from rfl] at y8
  rw [show (spC s)[9]? = some (.int .i64 s.oy) from rfl] at y9
  clear hD HG0 HS0
  obtain ⟨W0, hW0⟩ : ∃ W0, (w.alloc (.cells (ordC n b D) 25)).alloc (.cells (spC s) 40) = W0 := ⟨_, rfl⟩
  rw [hW0] at HB0 x0 x1 HX y5 y6 y7 y8 y9
  unfold ordV ordC spV spC
  unfold ordC spC at hW0
  obtain ⟨k, hk⟩ := Int.eq_ofNat_of_zero_le (show 0 ≤ s.wk by omega)
  have hk8 : k < 8 := by omega
  have d3 : decide ((k : Int) < 0) = false := dec_n (by omega)
  have d4 : decide ((k : Int) < 8) = true := dec_t (by omega)
  have xk := HX.out k hk8
  by_cases h0 : n = 0
  · have HE1 := Lib.hid (show bb = true by rw [HE.out, if_pos h0])
    subst h0
    clear HE KH HX hw1 hw2 hk
    go_enter Tryd.func69, Tryd.ntmps69
    go_wp2
    go_ret
    exact ⟨by rw [HE1.out]; rfl, HB0.out⟩
  · have HE1 := Lib.hid (show bb = inM (D k) (if n = 1 then (if b then s.om else s.im) else (if b then s.oy else s.iy)) by rw [HE.out, if_neg h0, if_neg (by omega), hk]; rfl)
    generalize s.wk = wk at *
    subst hk
    clear HE HX hw1 hw2
    have hn : n = 1 ∨ n = 2 := by omega
    clear h0 hn1 hn2
    rcases hn with rfl | rfl
    · rw [if_pos rfl] at HE1
      cases b
      · have K := KH.out k s.im
        clear KH
        go_enter Tryd.func69, Tryd.ntmps69
        go_wp2_with fail
        refine (K _).mono ?_
        rintro e w' ⟨rfl, rfl⟩
        go_wp2
        go_ret
        exact ⟨by rw [HE1.out]; rfl, HB0.out⟩
      · have K := KH.out k s.om
        clear KH
        go_enter Tryd.func69, Tryd.ntmps69
        go_wp2_with fail
        refine (K _).mono ?_
        rintro e w' ⟨rfl, rfl⟩
        go_wp2
        go_ret
        exact ⟨by rw [HE1.out]; rfl, HB0.out⟩
    · rw [if_neg (by decide)] at HE1
      cases b
      · have K := KH.out k s.iy
        clear KH
        go_enter Tryd.func69, Tryd.ntmps69
        go_wp2_with fail
        refine (K _).mono ?_
        rintro e w' ⟨rfl, rfl⟩
        go_wp2
        go_ret
        exact ⟨by rw [HE1.out]; rfl, HB0.out⟩
      · have K := KH.out k s.oy
        clear KH
        go_enter Tryd.func69, Tryd.ntmps69
        go_wp2_with fail
        refine (K _).mono ?_
        rintro e w' ⟨rfl, rfl⟩
        go_wp2
        go_ret
        exact ⟨by rw [HE1.out]; rfl, HB0.out⟩

set_option maxHeartbeats 3200000 in
set_option maxRecDepth 20000 in
theorem rdate_any (c : Cl) (hc : ClIn c) (s : Sp) (hy1 : 0 ≤ s.y) (hy2 : s.y < 1000000) (hn1 : 0 ≤ c.n) (hn2 : c.n ≤ 2) (hw1 : 1 ≤ s.wk) (hw2 : s.wk ≤ 7) (w : World) :
    Calls Tryd.prog 38 #[clV c, spV s] w fun e w' => e = .returned (.bool (dateB c s)) ∧ Below w.heap.size w w' := by
  obtain ⟨h1, h2, h3, h4, h5, h6, h7, hD⟩ := hc
  have HB0 := Lib.hid (show Below w.heap.size w ((w.alloc (.cells (clC c) 28)).alloc (.cells (spC s) 40)) from ((Below.refl _ _).alloc (Nat.le_refl _) _).alloc (by simp) _)
  have HC0 := Lib.hid (show ClAt ((w.alloc (.cells (clC c) 28)).alloc (.cells (spC s) 40)) w.heap.size c from blk_more (blk_new w (.cells (clC c) 28)) (.cells (spC s) 40))
  have HP0 := Lib.hid (show SpAt ((w.alloc (.cells (clC c) 28)).alloc (.cells (spC s) 40)) (w.heap.size + 1) s by
    have q := blk_new (w.alloc (.cells (clC c) 28)) (.cells (spC s) 40)
    rw [size_allocD] at q
    exact q)
  have wy : IntKind.i64.wrap (s.y - 1970) = s.y - 1970 := IntWalk.i64_in _ ⟨by omega, by omega⟩
  have K1 := fun W => rhas_any c.mo s.m W h4
  have K2 := fun W => rhas_any c.e s.bk W h6
  have K3 := fun W => wrhas_any c.P (s.y - 1970) W
  have K4 := fun W => (rhas_any c.d s.d W h5).mono fun _ _ h => (⟨h.1, h.2.symm⟩ : _ ∧ _)
  have K5 := fun W => (rhas_any c.wk s.wk W h7).mono fun _ _ h => (⟨h.1, h.2.symm⟩ : _ ∧ _)
  have K6 := fun W => rnth_any c.n c.b c.D hD s hn1 hn2 hw1 hw2 W
  unfold S7 c7 at K3
  unfold ordV ordC spV spC at K6
  have HE0 := Lib.hid (show dateB c s = (((inM c.d s.d && inM c.wk s.wk) || (c.orr && (inM c.d s.d || inM c.wk s.wk))) && (inM c.mo s.m && (inM c.e s.bk && (hasW c.P (s.y - 1970) && ordS c.n c.b c.D s)))) by
    unfold dateB
    cases ((inM c.d s.d && inM c.wk s.wk) || (c.orr && (inM c.d s.d || inM c.wk s.wk))) <;> cases inM c.mo s.m <;> cases inM c.e s.bk <;> cases hasW c.P (s.y - 1970) <;> rfl)
  generalize dateB c s = bb at HE0 ⊢
  generalize inM c.mo s.m = q1 at K1 HE0
  generalize inM c.e s.bk = q2 at K2 HE0
  generalize hasW c.P (s.y - 1970) = q3 at K3 HE0
  generalize inM c.d s.d = q4 at K4 HE0
  generalize inM c.wk s.wk = q5 at K5 HE0
  generalize ordS c.n c.b c.D s = q6 at K6 HE0
  clear h1 h2 h3 h4 h5 h6 h7 hD hy1 hy2 hn1 hn2 hw1 hw2
  obtain ⟨W0, hW0⟩ : ∃ W0, (w.alloc (.cells (clC c) 28)).alloc (.cells (spC s) 40) = W0 := ⟨_, rfl⟩
  rw [hW0] at HB0 HC0 HP0
  obtain ⟨r3, r4, r5, r6, r7, r8, r9, r10, r11, r12, r13, r14, r15, r16, r17, r18, r19, r20, r21, r22, r23, r24⟩ := HC0.out.reads
  obtain ⟨y0, y1, y2, y3, y4, y5, y6, y7, y8, y9⟩ := HP0.out.reads
  unfold clV clC spV spC
  unfold clC spC at hW0
  go_enter Tryd.func38, Tryd.ntmps38
  go_wp2_with fail
  try rw [hW0]
  clear hW0
  go_quiet (first | (go_at_call 40; with_reducible exact Calls.quiet_of_same (K4 _)) | (go_at_call 40; with_reducible exact Calls.quiet_of_same (K5 _)))
  clear K4 K5
  have HQ := Lib.hid (show (bb = false ∧ ((q4 && q5) || (c.orr && (q4 || q5))) = false) ∨ (bb = (q1 && (q2 && (q3 && q6))) ∧ ((q4 && q5) || (c.orr && (q4 || q5))) = true) by
    rw [HE0.out]
    cases ((q4 && q5) || (c.orr && (q4 || q5)))
    · exact .inl ⟨rfl, rfl⟩
    · exact .inr ⟨rfl, rfl⟩)
  clear HE0
  have HB2 := Lib.hid (Below.but HB0.out ((But.refl (fun _ => False) W0).drewN nq) (fun _ _ h => h))
  have HC2 := Lib.hid (show ClAt (W0.drewN nq) w.heap.size c from HC0.out)
  have HP2 := Lib.hid (show SpAt (W0.drewN nq) (w.heap.size + 1) s from HP0.out)
  clear r3 r4 r5 r6 r7 r8 r9 r10 r11 r12 r13 r14 r15 r16 r17 r18 r19 r20 r21 r22 r23 r24 y0 y1 y2 y3 y4 y5 y6 y7 y8 y9 HB0 HC0 HP0
  generalize W0.drewN nq = w2 at *
  obtain ⟨r3, r4, r5, r6, r7, r8, r9, r10, r11, r12, r13, r14, r15, r16, r17, r18, r19, r20, r21, r22, r23, r24⟩ := HC2.out.reads
  obtain ⟨y0, y1, y2, y3, y4, y5, y6, y7, y8, y9⟩ := HP2.out.reads
  generalize c.orr = orr at r7 HQ
  rcases HQ.out with ⟨hE, hq⟩ | ⟨hE, hq⟩
  · have HE := Lib.hid hE
    clear hE HQ
    cases orr <;> cases q4 <;> cases q5 <;> first | (exfalso; revert hq; decide) | skip
    all_goals
      clear hq
      go_wp2
      go_ret
      exact ⟨by rw [HE.out]; rfl, HB2.out⟩
  · have HE0 := Lib.hid hE
    clear hE HQ
    cases orr <;> cases q4 <;> cases q5 <;> first | (exfalso; revert hq; decide) | skip
    all_goals
      clear hq
      go_wp2_with fail
      refine (K1 _).mono ?_
      rintro e w3 ⟨rfl, rfl⟩
      cases q1
      · have HE := Lib.hid (show bb = false by rw [HE0.out]; rfl)
        clear HE0
        go_wp2
        go_ret
        exact ⟨by rw [HE.out]; rfl, HB2.out⟩
      go_wp2_with fail
      refine (K2 _).mono ?_
      rintro e w3 ⟨rfl, rfl⟩
      cases q2
      · have HE := Lib.hid (show bb = false by rw [HE0.out]; rfl)
        clear HE0
        go_wp2
        go_ret
        exact ⟨by rw [HE.out]; rfl, HB2.out⟩
      go_wp2_with fail
      refine (K3 _).mono ?_
      rintro e w3 ⟨rfl, hb3⟩
      have HB3 := Lib.hid (HB2.out.trans (hb3.mono HB2.out.size))
      have HC3 := Lib.hid (HC2.out.below hb3)
      have HP3 := Lib.hid (HP2.out.below hb3)
      clear hb3 r3 r4 r5 r6 r7 r8 r9 r10 r11 r12 r13 r14 r15 r16 r17 r18 r19 r20 r21 r22 r23 r24 y0 y1 y2 y3 y4 y5 y6 y7 y8 y9 HB2 HC2 HP2 K1 K2 K3
      obtain ⟨r3, r4, r5, r6, r7, r8, r9, r10, r11, r12, r13, r14, r15, r16, r17, r18, r19, r20, r21, r22, r23, r24⟩ := HC3.out.reads
      obtain ⟨y0, y1, y2, y3, y4, y5, y6, y7, y8, y9⟩ := HP3.out.reads
      cases q3
      · have HE := Lib.hid (show bb = false by rw [HE0.out]; rfl)
        clear HE0
        go_wp2
        go_ret
        exact ⟨by rw [HE.out]; rfl, HB3.out⟩
      have HE := Lib.hid (show bb = q6 by rw [HE0.out]; rfl)
      clear HE0
      go_wp2_with fail
      refine (K6 _).mono ?_
      rintro e w4 ⟨rfl, hb4⟩
      have HB4 := Lib.hid (HB3.out.trans (hb4.mono HB3.out.size))
      clear hb4 r3 r4 r5 r6 r7 r8 r9 r10 r11 r12 r13 r14 r15 r16 r17 r18 r19 r20 r21 r22 r23 r24 y0 y1 y2 y3 y4 y5 y6 y7 y8 y9
      go_wp2
      go_ret
      exact ⟨by rw [HE.out]; rfl, HB4.out⟩
end Go.Proofs.YtbfndcogieiejaaDoor
namespace Go.Proofs.YtbfndcogieiejaaDoor
open Go.RowKit Civ
set_option linter.unusedVariables false

theorem wpList_loadRowG {ops : Array Oper} {rest : List Oper} {op : Oper} {a : Act} {w : World} {Q : Exit → Act → World → Prop} {g : Nat} {cs : Array Value} {t : TypeId} {fr : Nat × Nat} (hg : w.heap[g]? = some (.cells cs t fr)) (hw : Region.wanted op (yielded ops a.tmps) = true) (ty : TypeId) (x : Operand) (ho : op.op = .load ty x)
    (hx : a.eval x = .pointer (some ⟨g, 0, none⟩)) (d : TypeDesc) (hu : Tryd.prog.underlying ty = some d) (hd : d.isRow = true) (hi : (Tryd.prog.info? ty).map (·.size) = some cs.size)
    (h : wpList Tryd.prog ops Q rest (a.put op.dst (.agg cs)) w) : wpList Tryd.prog ops Q (op :: rest) a w :=
  BigFrame.wpList_want hw fun _ hK => by
    unfold Oper.wp execOp
    simp only [ho, hx, Instr.loadAt, Instr.sureAddr, Sem.run_bind, Sem.run_pure, Result.andThen_ok, run_loadVar_row w g t ty cs fr d hg hu (by cases d <;> first | rfl | cases hd) hi]
    exact hK _ _ h
noncomputable def dayB (c : Cl) (n : Int) : Bool := mayB c && (dateB c (shD n) && stepB c n)
theorem may_facts (c : Cl) (h : mayB c = true) : 0 ≤ c.n ∧ c.n ≤ 2 ∧ okU c.u c.st c.an = true := by
  unfold mayB at h
  simp only [Bool.and_eq_true] at h
  obtain ⟨_, ho, _, hu, hs, ha⟩ := h
  have hn : 0 ≤ c.n ∧ c.n ≤ 2 := by
    unfold ordB at ho
    by_cases h0 : c.n = 0
    · omega
    · rw [if_neg h0] at ho
      by_cases h1 : c.n = 1
      · omega
      · rw [if_neg h1] at ho
        by_cases h2 : c.n = 2
        · omega
        · rw [if_neg h2] at ho; cases ho
  refine ⟨hn.1, hn.2, ?_⟩
  unfold okU
  rw [hu, ha, hs]; rfl
theorem shD_facts (n : Int) (h1 : 0 ≤ n) (h2 : n < 146097) : 0 ≤ (shD n).y ∧ (shD n).y < 1000000 ∧ 1 ≤ (shD n).wk ∧ (shD n).wk ≤ 7 := by
  obtain ⟨y1, y2⟩ := dY_bd n h1 h2
  refine ⟨by show 0 ≤ dY n; omega, by show dY n < 1000000; omega, ?_, ?_⟩
  · show 1 ≤ wd n
    unfold wd; omega
  · show wd n ≤ 7
    unfold wd; omega
theorem step_on (c : Cl) (n : Int) (h1 : 0 ≤ n) (h2 : n < 146097) (hk : okU c.u c.st c.an = true) (hu : ¬ c.u < 3) : onB c.u c.st c.an (86400 * n) = stepB c n := by
  unfold onB stepB
  rw [hk, dec_t (show 0 ≤ 86400 * n ∧ 86400 * n < 12622780800 by omega), dec_n hu]
  simp
theorem sz_pos (u : Int) (h1 : 0 ≤ u) (h2 : u < 7) : decide (0 < sz u) = decide (u < 3) := by
  have : u = 0 ∨ u = 1 ∨ u = 2 ∨ u = 3 ∨ u = 4 ∨ u = 5 ∨ u = 6 := by omega
  rcases this with rfl | rfl | rfl | rfl | rfl | rfl | rfl <;> decide
theorem okU_unit {u st an : Int} (h : okU u st an = true) : 0 ≤ u ∧ u < 7 ∧ 1 ≤ st ∧ 0 ≤ an ∧ an < 12622780800 := by
  unfold okU at h
  rw [Bool.and_eq_true, Bool.and_eq_true, decide_eq_true_eq, decide_eq_true_eq, decide_eq_true_eq] at h
  exact ⟨h.1.1, h.1.2, h.2.2, h.2.1.1, h.2.1.2⟩
set_option maxHeartbeats 1600000 in
set_option maxRecDepth 20000 in
theorem rday_any (c : Cl) (hc : ClIn c) (n : Int) (hn1 : 0 ≤ n) (hn2 : n < 146097) (w : World) :
    Calls Tryd.prog 18 #[clV c, spV (shD n)] w fun e w' => e = .returned (.bool (dayB c n)) ∧ Below w.heap.size w w' := by
  obtain ⟨f1, f2, f3, f4⟩ := shD_facts n hn1 hn2
  have HB0 := Lib.hid (show Below w.heap.size w ((w.alloc (.cells (clC c) 28)).alloc (.cells (spC (shD n)) 40)) from ((Below.refl _ _).alloc (Nat.le_refl _) _).alloc (by simp) _)
  have HC0 := Lib.hid (show ClAt ((w.alloc (.cells (clC c) 28)).alloc (.cells (spC (shD n)) 40)) w.heap.size c from blk_more (blk_new w (.cells (clC c) 28)) (.cells (spC (shD n)) 40))
  have HP0 := Lib.hid (show SpAt ((w.alloc (.cells (clC c) 28)).alloc (.cells (spC (shD n)) 40)) (w.heap.size + 1) (shD n) by
    have q := blk_new (w.alloc (.cells (clC c) 28)) (.cells (spC (shD n)) 40)
    rw [size_allocD] at q
    exact q)
  have KM := fun W => rmay_any c hc W
  have HE0 := Lib.hid (show dayB c n = (mayB c && (dateB c (shD n) && stepB c n)) from rfl)
  have KDT := fun (h : mayB c = true) W => rdate_any c hc (shD n) f1 f2 (may_facts c h).1 (may_facts c h).2.1 f3 f4 W
  have HF := Lib.hid (fun h : mayB c = true => (may_facts c h).2.2)
  have HSO := Lib.hid (fun hk hu => step_on c n hn1 hn2 hk hu)
  have hsn := Lib.hid (show (shD n).n = n from rfl)
  generalize shD n = s at *
  generalize dayB c n = bb at HE0 ⊢
  clear hc f1 f2 f3 f4
  obtain ⟨W0, hW0⟩ : ∃ W0, (w.alloc (.cells (clC c) 28)).alloc (.cells (spC s) 40) = W0 := ⟨_, rfl⟩
  rw [hW0] at HB0 HC0 HP0
  cases hm : mayB c
  · rw [hm] at KM HE0
    obtain rfl : bb = false := HE0.out
    unfold clV at KM
    unfold clV clC spV spC
    unfold clC spC at hW0
    clear HE0 KDT HF HSO hm
    go_enter Tryd.func18, Tryd.ntmps18
    go_wp2_with (refine wpList_loadRow HC0.out rfl _ _ rfl rfl _ Tryd.underlying28 rfl (by unfold clC; kernel_rfl) ?_)
    refine (KM _).mono ?_
    rintro e w1 ⟨rfl, hb1⟩
    have HB1 := Lib.hid (HB0.out.trans (hb1.mono HB0.out.size))
    clear hb1
    go_wp2
    go_ret
    exact ⟨rfl, HB1.out⟩
  · rw [hm] at KM HE0
    have KD := KDT hm
    have hk := HF.out hm
    obtain ⟨u1, u2, hst, a1, a2⟩ := okU_unit hk
    unfold clV at KM
    unfold clV spV at KD
    clear KDT HF hm
    cases hdt : dateB c s
    · rw [hdt] at KD HE0
      obtain rfl : bb = false := HE0.out
      unfold clV clC spV spC
      unfold clC spC at hW0
      clear HE0 HSO hdt hk u1 u2 hst a1 a2
      go_enter Tryd.func18, Tryd.ntmps18
      go_wp2_with (refine wpList_loadRow HC0.out rfl _ _ rfl rfl _ Tryd.underlying28 rfl (by unfold clC; kernel_rfl) ?_)
      refine (KM _).mono ?_
      rintro e w1 ⟨rfl, hb1⟩
      have HB1 := Lib.hid (HB0.out.trans (hb1.mono HB0.out.size))
      have HC1 := Lib.hid (HC0.out.below hb1)
      have HP1 := Lib.hid (HP0.out.below hb1)
      clear hb1 HB0 HC0 HP0 hW0
      go_wp2_with (first | (refine wpList_loadRowG HC1.out rfl _ _ rfl rfl _ Tryd.underlying28 rfl (by unfold clC; kernel_rfl) ?_) | (refine wpList_loadRowG HP1.out rfl _ _ rfl rfl _ Tryd.underlying40 rfl (by unfold spC; kernel_rfl) ?_))
      refine (KD _).mono ?_
      rintro e w2 ⟨rfl, hb2⟩
      have HB2 := Lib.hid (HB1.out.trans (hb2.mono HB1.out.size))
      clear hb2
      go_wp2
      go_ret
      exact ⟨rfl, HB2.out⟩
    · rw [hdt] at KD HE0
      have HE1 := Lib.hid (show bb = stepB c n from HE0.out)
      have KS := fun W => rusize_any c.u W
      have hsz := sz_pos c.u u1 u2
      have wm : IntKind.i64.wrap (86400 * n) = 86400 * n := IntWalk.i64_in _ ⟨by omega, by omega⟩
      have KN := Lib.hid (fun W => ron10_any c.u c.st c.an (86400 * n) W)
      clear HE0 hdt hst a1 a2 u1 u2
      by_cases hu : c.u < 3
      · rw [dec_t hu] at hsz
        obtain rfl : bb = true := by rw [HE1.out]; unfold stepB; rw [dec_t hu]; rfl
        generalize sz c.u = z at KS hsz
        unfold clV clC spV spC
        unfold clC spC at hW0
        clear HE1 HSO hk hu KN hn1 hn2
        go_enter Tryd.func18, Tryd.ntmps18
        go_wp2_with (refine wpList_loadRow HC0.out rfl _ _ rfl rfl _ Tryd.underlying28 rfl (by unfold clC; kernel_rfl) ?_)
        refine (KM _).mono ?_
        rintro e w1 ⟨rfl, hb1⟩
        have HB1 := Lib.hid (HB0.out.trans (hb1.mono HB0.out.size))
        have HC1 := Lib.hid (HC0.out.below hb1)
        have HP1 := Lib.hid (HP0.out.below hb1)
        clear hb1 HB0 HC0 HP0 hW0
        go_wp2_with (first | (refine wpList_loadRowG HC1.out rfl _ _ rfl rfl _ Tryd.underlying28 rfl (by unfold clC; kernel_rfl) ?_) | (refine wpList_loadRowG HP1.out rfl _ _ rfl rfl _ Tryd.underlying40 rfl (by unfold spC; kernel_rfl) ?_))
        refine (KD _).mono ?_
        rintro e w2 ⟨rfl, hb2⟩
        have HB2 := Lib.hid (HB1.out.trans (hb2.mono HB1.out.size))
        have HC2 := Lib.hid (HC1.out.below hb2)
        clear hb2 HB1 HC1 HP1
        obtain ⟨r25, r26, r27⟩ := HC2.out.rest
        go_wp2_with fail
        refine (KS _).mono ?_
        rintro e w3 ⟨rfl, rfl⟩
        go_wp2
        go_ret
        exact ⟨rfl, HB2.out⟩
      · rw [dec_n hu] at hsz
        have HE2 := Lib.hid (show bb = onB c.u c.st c.an (86400 * n) from HE1.out.trans (HSO.out hk hu).symm)
        generalize sz c.u = z at KS hsz
        generalize onB c.u c.st c.an (86400 * n) = ob at HE2 KN
        obtain rfl : bb = ob := HE2.out
        unfold clV clC spV spC
        unfold clC spC at hW0
        clear HE1 HE2 HSO hk hu hn1 hn2
        go_enter Tryd.func18, Tryd.ntmps18
        go_wp2_with (refine wpList_loadRow HC0.out rfl _ _ rfl rfl _ Tryd.underlying28 rfl (by unfold clC; kernel_rfl) ?_)
        refine (KM _).mono ?_
        rintro e w1 ⟨rfl, hb1⟩
        have HB1 := Lib.hid (HB0.out.trans (hb1.mono HB0.out.size))
        have HC1 := Lib.hid (HC0.out.below hb1)
        have HP1 := Lib.hid (HP0.out.below hb1)
        clear hb1 HB0 HC0 HP0 hW0
        go_wp2_with (first | (refine wpList_loadRowG HC1.out rfl _ _ rfl rfl _ Tryd.underlying28 rfl (by unfold clC; kernel_rfl) ?_) | (refine wpList_loadRowG HP1.out rfl _ _ rfl rfl _ Tryd.underlying40 rfl (by unfold spC; kernel_rfl) ?_))
        refine (KD _).mono ?_
        rintro e w2 ⟨rfl, hb2⟩
        have HB2 := Lib.hid (HB1.out.trans (hb2.mono HB1.out.size))
        have HC2 := Lib.hid (HC1.out.below hb2)
        have HP2 := Lib.hid (HP1.out.below hb2)
        clear hb2 HB1 HC1 HP1
        obtain ⟨r25, r26, r27⟩ := HC2.out.rest
        have y0 : w2.cell? ⟨w.heap.size + 1, 0, none⟩ = some (.int .i64 n) := by
          have q := HP2.out.reads.1
          rw [hsn.out] at q
          exact q
        go_wp2_with fail
        refine (KS _).mono ?_
        rintro e w3 ⟨rfl, rfl⟩
        go_wp2_with fail
        refine (KN.out _).mono ?_
        rintro e w4 ⟨rfl, hb4⟩
        have HB4 := Lib.hid (HB2.out.trans (hb4.mono HB2.out.size))
        clear hb4
        go_wp2
        go_ret
        exact ⟨rfl, HB4.out⟩
set_option maxHeartbeats 800000 in
set_option maxRecDepth 20000 in
theorem cdays_no (c : Cl) (hc : ClIn c) (hm : mayB c = false) (w : World) (hT : TabUn w) :
    Calls Tryd.prog 17 #[clV c] w fun e w' => e = .returned (.func (.func 47) #[] #[]) ∧ Below w.heap.size w w' := by
  have HB0 := Lib.hid (show Below w.heap.size w (w.alloc (.cells (clC c) 28)) from (Below.refl _ _).alloc (Nat.le_refl _) _)
  have HC0 := Lib.hid (show ClAt (w.alloc (.cells (clC c) 28)) w.heap.size c from blk_new w _)
  have KM := fun W h => cmay_any c hc W h
  rw [hm] at KM
  obtain ⟨W0, hW0⟩ : ∃ W0, w.alloc (.cells (clC c) 28) = W0 := ⟨_, rfl⟩
  rw [hW0] at HB0 HC0
  have K := KM W0 (hT.bel HB0.out)
  clear KM hT hc hm
  unfold clV clC at K
  unfold clV clC
  unfold clC at hW0
  go_enter Tryd.func17, Tryd.ntmps17
  go_wp2_with (refine wpList_loadRow HC0.out rfl _ _ rfl rfl _ Tryd.underlying28 rfl (by unfold clC; kernel_rfl) ?_)
  refine K.mono ?_
  clear K
  rintro e w1 ⟨rfl, hb1⟩
  have HB1 := Lib.hid (HB0.out.trans (hb1.mono HB0.out.size))
  clear hb1 HB0 HC0 hW0
  go_wp2
  go_ret
  exact ⟨rfl, HB1.out⟩
theorem cdays1_any (s : Sp) (w : World) : Calls Tryd.prog 47 #[.agg (spC s)] w fun e w' => e = .returned (.bool false) ∧ Below w.heap.size w w' := by
  unfold spC
  go_enter Tryd.func47, Tryd.ntmps47
  go_wp2
  go_ret
  exact ⟨rfl, (Below.refl _ _).alloc (Nat.le_refl _) _⟩

set_option maxHeartbeats 1600000 in
set_option maxRecDepth 20000 in
theorem cday_no (c : Cl) (hc : ClIn c) (s : Sp) (hm : mayB c = false) (w : World) (hT : TabUn w) :
    Calls Tryd.prog 19 #[clV c, spV s] w fun e w' => e = .returned (.bool false) ∧ Below w.heap.size w w' := by
  have HB0 := Lib.hid (show Below w.heap.size w ((w.alloc (.cells (clC c) 28)).alloc (.cells (spC s) 40)) from ((Below.refl _ _).alloc (Nat.le_refl _) _).alloc (by simp) _)
  have HC0 := Lib.hid (blk_more (blk_new w (.cells (clC c) 28)) (.cells (spC s) 40))
  have HP0 := Lib.hid (blk_new (w.alloc (.cells (clC c) 28)) (.cells (spC s) 40))
  rw [size_allocD] at HP0
  have KD := fun W h => cdays_no c hc hm W h
  clear hc hm
  obtain ⟨W0, hW0⟩ : ∃ W0, (w.alloc (.cells (clC c) 28)).alloc (.cells (spC s) 40) = W0 := ⟨_, rfl⟩
  rw [hW0] at HB0 HC0 HP0
  have HS0 := Lib.hid (show CS W0 w.heap.size (w.heap.size + 1) c s W0 from ⟨Below.refl _ _, HC0.out, HP0.out⟩)
  have HT := Lib.hid (hT.bel HB0.out)
  have HK := Lib.hid KD
  clear KD hT HC0 HP0
  unfold clV clC spV spC
  unfold clC spC at hW0
  go_enter Tryd.func19, Tryd.ntmps19
  go_wp2_with fail
  try rw [hW0]
  clear hW0
  refine wp_region_held_drew (S := CS W0 w.heap.size (w.heap.size + 1) c s) (by kernel_rfl) HS0.out.drew (fun hHeld => ?_)
  refine heldVal 0 rfl rfl (by kernel_rfl) (by kernel_rfl) (by kernel_rfl) (fun _ _ _ h => h) (by rfl) (fun w hSw => exec_loadRow hSw.2.1 rfl rfl Tryd.underlying28 rfl (by unfold clC; kernel_rfl)) (by assumption) ?_
  try simp only [Act.put, List.setIfInBounds_toArray, List.set_cons_zero, List.set_cons_succ]
  refine heldVal 2 rfl rfl (by kernel_rfl) (by kernel_rfl) (by kernel_rfl) (fun _ _ _ h => h) (by rfl) (fun w hSw => exec_loadRow hSw.2.2 rfl rfl Tryd.underlying40 rfl (by unfold spC; kernel_rfl)) (by assumption) ?_
  try simp only [Act.put, List.setIfInBounds_toArray, List.set_cons_zero, List.set_cons_succ]
  refine heldCall 1 rfl rfl (by kernel_rfl) (by rfl) (fun K hK => ?_)
  go_simp
  have K := HK.out W0.drew (HT.out.bel (Below.refl _ _).drew)
  unfold clV at K
  refine K.mono ?_
  clear K HK HT
  rintro e w1 ⟨rfl, hb⟩
  have hS1 : CS W0 w.heap.size (w.heap.size + 1) c s w1 := hHeld.to hb
  go_wp2_with fail
  refine hK.out _ _ ?hS (fun hHeld => ?_)
  case hS => (exact hS1)
  clear hK K
  try simp only [Act.put, List.setIfInBounds_toArray, List.set_cons_zero, List.set_cons_succ]
  refine heldCall 3 rfl rfl (by kernel_rfl) (by rfl) (fun K hK => ?_)
  go_simp
  refine (cdays1_any s _).mono ?_
  rintro e w2 ⟨rfl, hb2⟩
  have hS2 : CS W0 w.heap.size (w.heap.size + 1) c s w2 := hS1.to hb2
  go_wp2_with fail
  refine hK.out _ _ ?hS (fun hHeld => ?_)
  case hS => (exact hS2)
  clear hK K
  try simp only [Act.put, List.setIfInBounds_toArray, List.set_cons_zero, List.set_cons_succ]
  refine heldVal (v := ?v1) 4 rfl rfl (by kernel_rfl) (by kernel_rfl) (by kernel_rfl) (fun _ _ _ h => h) (by rfl) (fun w hSw => ?hy1) (by assumption) ?_
  case hy1 => ((try dsimp only at hSw); go_simp; (try with_reducible rfl))
  try simp only [Act.put, List.setIfInBounds_toArray, List.set_cons_zero, List.set_cons_succ]
  refine wpAnyH_done (by kernel_rfl) ?_ _
  have HB2 := Lib.hid (HB0.out.trans (hS2.1.mono HB0.out.size))
  go_wp2
  go_ret
  exact ⟨rfl, HB2.out⟩
theorem cday_all (c : Cl) (hc : ClIn c) (n : Int) (hn1 : 0 ≤ n) (hn2 : n < 146097) (w : World) (hT : TabUn w) :
    Calls Tryd.prog 19 #[clV c, spV (shD n)] w fun e w' => e = .returned (.bool (dayB c n)) ∧ Below w.heap.size w w' := by
  unfold dayB
  cases hm : mayB c
  · exact cday_no c hc _ hm w hT
  · obtain ⟨f1, f2, _, _⟩ := shD_facts n hn1 hn2
    exact cday_any c hc (shD n) f1 f2 (stepB c n) hm (makes_any c n hn1 hn2 (may_facts c hm).2.2) w hT
end Go.Proofs.YtbfndcogieiejaaDoor
namespace Go.Proofs.YtbfndcogieiejaaDoor
open Go.RowKit Civ
set_option linter.unusedVariables false

/-- has an instant a clause? -/
noncomputable def hasB (c : Cl) (t : Int) : Bool := decide (0 ≤ t ∧ t < 12622780800) && (decide (c.fr ≤ t) && (decide (t ≤ c.un) && (inT (t % 86400) c.h c.m c.s && (onB c.u c.st c.an t && dayB c (t / 86400)))))
theorem ClAt.ends {W : World} {g : Nat} {c : Cl} (h : ClAt W g c) : W.cell? ⟨g, 28, none⟩ = some (.int .i64 c.fr) ∧ W.cell? ⟨g, 29, none⟩ = some (.int .i64 c.un) := ⟨blk_cell h 28, blk_cell h 29⟩
set_option maxHeartbeats 3200000 in
set_option maxRecDepth 20000 in
theorem chas_any (c : Cl) (hc : ClIn c) (t : Int) (w : World) (hT : TabUn w) : Calls Tryd.prog 12 #[clV c, .int .i64 t] w fun e w' => e = .returned (.bool (hasB c t)) ∧ Below w.heap.size w w' := by
  have HB0 := Lib.hid (show Below w.heap.size w (w.alloc (.cells (clC c) 28)) from (Below.refl _ _).alloc (Nat.le_refl _) _)
  have HC0 := Lib.hid (show ClAt (w.alloc (.cells (clC c) 28)) w.heap.size c from blk_new w _)
  have HE0 := Lib.hid (show hasB c t = (decide (0 ≤ t ∧ t < 12622780800) && (decide (c.fr ≤ t) && (decide (t ≤ c.un) && (inT (t % 86400) c.h c.m c.s && (onB c.u c.st c.an t && dayB c (t / 86400)))))) from rfl)
  generalize hasB c t = bb at HE0 ⊢
  have KI := Lib.hid (fun W => tin_any (t % 86400) c.h c.m c.s W hc.2.2.1 hc.2.1 hc.1)
  have KN := Lib.hid (fun W => uon_any c.u c.st c.an t W)
  have KD := Lib.hid (fun h1 h2 W h => cday_all c hc (t / 86400) h1 h2 W h)
  have HT := Lib.hid (hT.bel HB0.out)
  clear hc hT
  obtain ⟨W0, hW0⟩ : ∃ W0, w.alloc (.cells (clC c) 28) = W0 := ⟨_, rfl⟩
  rw [hW0] at HB0 HC0 HT
  obtain ⟨x0, x1, x2, x3, x4, x5, x6⟩ := HC0.out.masks
  obtain ⟨x25, x26, x27⟩ := HC0.out.rest
  obtain ⟨x28, x29⟩ := HC0.out.ends
  clear x3 x4 x5 x6
  unfold clV clC
  unfold clC at hW0
  by_cases ht : 0 ≤ t ∧ t < 12622780800
  · have KS := Lib.hid (fun W => mSplit_yes t W ht.1 ht.2)
    have hd1 : 0 ≤ t / 86400 := by omega
    have hd2 : t / 86400 < 146097 := by omega
    have KW := Lib.hid (fun W => shape_ok (t / 86400) _ _ _ W (d_is (t / 86400)) hd1 hd2)
    have KD1 := Lib.hid (fun W h => KD.out hd1 hd2 W h)
    have hv : shapeV (t / 86400) (dY (t / 86400)) (dM (t / 86400)) (dD (t / 86400)) = spV (shD (t / 86400)) := (spOf_v _ _ _ _).symm
    rw [hv] at KW
    rw [dec_t ht] at HE0
    clear KD hv hd1 hd2 ht
    generalize inT (t % 86400) c.h c.m c.s = q3 at KI HE0
    generalize onB c.u c.st c.an t = q4 at KN HE0
    generalize dayB c (t / 86400) = q5 at KD1 HE0
    generalize shD (t / 86400) = s at KW KD1
    generalize t / 86400 = dn at KS KW
    generalize t % 86400 = sec at KS KI
    by_cases hf : c.fr ≤ t
    · have d1 : decide (t < c.fr) = false := dec_n (by omega)
      rw [dec_t hf] at HE0
      by_cases hu : t ≤ c.un
      · have d2 : decide (c.un < t) = false := dec_n (by omega)
        rw [dec_t hu] at HE0
        clear hf hu
        cases q3
        · have HE := Lib.hid (show bb = false by rw [HE0.out]; rfl)
          clear HE0 KN KW KD1 HT
          go_enter Tryd.func12, Tryd.ntmps12
          go_wp2_with fail
          refine (KS.out _).mono ?_
          rintro e w1 ⟨rfl, rfl⟩
          go_wp2_with fail
          refine (KI.out _).mono ?_
          rintro e w1 ⟨rfl, rfl⟩
          go_wp2
          go_ret
          exact ⟨by rw [HE.out]; rfl, HB0.out⟩
        · cases q4
          · have HE := Lib.hid (show bb = false by rw [HE0.out]; rfl)
            clear HE0 KW KD1 HT
            go_enter Tryd.func12, Tryd.ntmps12
            go_wp2_with fail
            refine (KS.out _).mono ?_
            rintro e w1 ⟨rfl, rfl⟩
            go_wp2_with fail
            refine (KI.out _).mono ?_
            rintro e w1 ⟨rfl, rfl⟩
            go_wp2_with fail
            refine (KN.out _).mono ?_
            rintro e w2 ⟨rfl, hb⟩
            have HB1 := Lib.hid (HB0.out.trans (hb.mono HB0.out.size))
            clear hb
            go_wp2
            go_ret
            exact ⟨by rw [HE.out]; rfl, HB1.out⟩
          · have HE := Lib.hid (show bb = q5 by rw [HE0.out]; rfl)
            clear HE0
            unfold clV at KD1
            have KW1 := KW.out
            unfold spV spC at KW1
            clear KW
            go_enter Tryd.func12, Tryd.ntmps12
            go_wp2_with fail
            refine (KS.out _).mono ?_
            rintro e w1 ⟨rfl, rfl⟩
            go_wp2_with fail
            refine (KI.out _).mono ?_
            rintro e w1 ⟨rfl, rfl⟩
            go_wp2_with fail
            refine (KN.out _).mono ?_
            rintro e w2 ⟨rfl, hb⟩
            have HB1 := Lib.hid (HB0.out.trans (hb.mono HB0.out.size))
            have HC1 := Lib.hid (HC0.out.below hb)
            have HT1 := Lib.hid (HT.out.bel hb)
            clear hb HB0 HC0 HT x0 x1 x2 x25 x26 x27 x28 x29 hW0 KI KN KS
            go_wp2_with fail
            refine (KW1 _).mono ?_
            rintro e w3 ⟨rfl, hb⟩
            have HB2 := Lib.hid (HB1.out.trans (hb.mono HB1.out.size))
            have HC2 := Lib.hid (HC1.out.below hb)
            have HT2 := Lib.hid (HT1.out.bel hb)
            have HB3 := Lib.hid (HB2.out.alloc HB2.out.size (.cells (spC s) 40))
            have HC3 := Lib.hid (show ClAt (w3.alloc (.cells (spC s) 40)) w.heap.size c from blk_more HC2.out _)
            have HP3 := Lib.hid (show SpAt (w3.alloc (.cells (spC s) 40)) w3.heap.size s from blk_new w3 _)
            have HT3 := Lib.hid (HT2.out.bel ((Below.refl w3.heap.size w3).alloc (Nat.le_refl _) (.cells (spC s) 40)))
            clear hb HB1 HC1 HT1 HB2 HC2 HT2 KW1
            obtain ⟨W3, hW3⟩ : ∃ W3, w3.alloc (.cells (spC s) 40) = W3 := ⟨_, rfl⟩
            rw [hW3] at HB3 HC3 HP3 HT3
            unfold spC at hW3
            go_wp2_with (first | (refine wpList_loadRow HC3.out rfl _ _ rfl rfl _ Tryd.underlying28 rfl (by unfold clC; kernel_rfl) ?_) | (refine wpList_loadRow HP3.out rfl _ _ rfl rfl _ Tryd.underlying40 rfl (by unfold spC; kernel_rfl) ?_))
            refine (KD1.out _ HT3.out).mono ?_
            rintro e w4 ⟨rfl, hb⟩
            have HB4 := Lib.hid (HB3.out.trans (hb.mono HB3.out.size))
            clear hb
            go_wp2
            go_ret
            exact ⟨by rw [HE.out]; rfl, HB4.out⟩
      · have d2 : decide (c.un < t) = true := dec_t (by omega)
        have HE := Lib.hid (show bb = false by rw [HE0.out, dec_n hu]; rfl)
        clear HE0 KI KN KW KD1 HT hf hu
        go_enter Tryd.func12, Tryd.ntmps12
        go_wp2_with fail
        refine (KS.out _).mono ?_
        rintro e w1 ⟨rfl, rfl⟩
        go_wp2
        go_ret
        exact ⟨by rw [HE.out]; rfl, HB0.out⟩
    · have d1 : decide (t < c.fr) = true := dec_t (by omega)
      have HE := Lib.hid (show bb = false by rw [HE0.out, dec_n hf]; rfl)
      clear HE0 KI KN KW KD1 HT hf
      go_enter Tryd.func12, Tryd.ntmps12
      go_wp2_with fail
      refine (KS.out _).mono ?_
      rintro e w1 ⟨rfl, rfl⟩
      go_wp2
      go_ret
      exact ⟨by rw [HE.out]; rfl, HB0.out⟩
  · have KS := fun W => mSplit_no t W (by omega)
    have HE := Lib.hid (show bb = false by rw [HE0.out, dec_n ht]; rfl)
    clear HE0 KI KN KD ht HT
    go_enter Tryd.func12, Tryd.ntmps12
    go_wp2_with fail
    refine (KS _).mono ?_
    rintro e w1 ⟨rfl, rfl⟩
    go_wp2
    go_ret
    exact ⟨by rw [HE.out]; rfl, HB0.out⟩
end Go.Proofs.YtbfndcogieiejaaDoor
namespace Go.Proofs.YtbfndcogieiejaaDoor
open Go.RowKit Civ
set_option linter.unusedVariables false

theorem on_step (c : Cl) (t : Int) (ht1 : 0 ≤ t) (ht2 : t < 12622780800) (h : onB c.u c.st c.an t = true) : stepB c (t / 86400) = true := by
  unfold stepB
  by_cases hu : c.u < 3
  · rw [dec_t hu]; rfl
  · unfold onB at h
    rw [Bool.and_eq_true, Bool.and_eq_true, decide_eq_true_eq, decide_eq_true_eq] at h
    rw [dec_n hu, Bool.false_or, decide_eq_true_eq]
    have e : whV c.u (86400 * (t / 86400)) = whV c.u t := by
      unfold whV
      rw [if_neg hu, if_neg hu, show 86400 * (t / 86400) / 86400 = t / 86400 by omega]
    rw [e]
    exact h.2.2
theorem has_eq (c : Cl) (t : Int) : hasB c t = (decide (0 ≤ t ∧ t < 12622780800) && (mayB c && (decide (c.fr ≤ t) && (decide (t ≤ c.un) && (dateB c (shD (t / 86400)) && (onB c.u c.st c.an t && (inM c.h (t % 86400 / 3600) && (inM c.m (t % 86400 % 3600 / 60) && inM c.s (t % 86400 % 60))))))))) := by
  unfold hasB dayB
  by_cases ht : 0 ≤ t ∧ t < 12622780800
  · rw [inT_in _ _ _ _ (show 0 ≤ t % 86400 by omega) (show t % 86400 < 86400 by omega), show t % 86400 % 3600 / 60 = t % 86400 / 60 % 60 by omega]
    cases ho : onB c.u c.st c.an t
    · cases decide (0 ≤ t ∧ t < 12622780800) <;> cases mayB c <;> cases decide (c.fr ≤ t) <;> cases decide (t ≤ c.un) <;> cases dateB c (shD (t / 86400)) <;> simp
    · rw [on_step c t ht.1 ht.2 ho]
      cases decide (0 ≤ t ∧ t < 12622780800) <;> cases mayB c <;> cases decide (c.fr ≤ t) <;> cases decide (t ≤ c.un) <;> cases dateB c (shD (t / 86400)) <;> simp
  · rw [dec_n ht]; rfl
theorem hS7 {W0 X : World} {g : Nat} {c : Cl} (hb : Below W0.heap.size W0 X) (h : ClAt X g c) : Below W0.heap.size W0 X ∧ X.heap[g]? = some (.cells (clC c) 28 (0, 0)) ∧ X.cell? ⟨g, 25, none⟩ = some (.int .i64 c.u) ∧ X.cell? ⟨g, 26, none⟩ = some (.int .i64 c.st) ∧ X.cell? ⟨g, 27, none⟩ = some (.int .i64 c.an) ∧ X.cell? ⟨g, 28, none⟩ = some (.int .i64 c.fr) ∧ X.cell? ⟨g, 29, none⟩ = some (.int .i64 c.un) := ⟨hb, h, blk_cell h 25, blk_cell h 26, blk_cell h 27, blk_cell h 28, blk_cell h 29⟩
set_option maxHeartbeats 6400000 in
set_option maxRecDepth 20000 in
theorem rhas13_any (c : Cl) (hc : ClIn c) (t : Int) (hti : I64 t) (w : World) : Calls Tryd.prog 13 #[clV c, .int .i64 t] w fun e w' => e = .returned (.bool (hasB c t)) ∧ Below w.heap.size w w' := by
  rw [has_eq]
  have HB0 := Lib.hid (show Below w.heap.size w (w.alloc (.cells (clC c) 28)) from (Below.refl _ _).alloc (Nat.le_refl _) _)
  have HC0 := Lib.hid (show ClAt (w.alloc (.cells (clC c) 28)) w.heap.size c from blk_new w _)
  have KI := Lib.hid (fun W => rin08_any t W)
  have KM := Lib.hid (fun W => rmay_any c hc W)
  have KON := Lib.hid (fun W => ron10_any c.u c.st c.an t W)
  have KH1 := Lib.hid (fun i W => rhas_any c.h i W hc.2.2.1)
  have KH2 := Lib.hid (fun i W => rhas_any c.m i W hc.2.1)
  have KH3 := Lib.hid (fun i W => rhas_any c.s i W hc.1)
  have KDT := Lib.hid (fun (h : mayB c = true) (h1 : 0 ≤ t / 86400) (h2 : t / 86400 < 146097) W => rdate_any c hc (shD (t / 86400)) (shD_facts _ h1 h2).1 (shD_facts _ h1 h2).2.1 (may_facts c h).1 (may_facts c h).2.1 (shD_facts _ h1 h2).2.2.1 (shD_facts _ h1 h2).2.2.2 W)
  have KSH := Lib.hid (fun (h1 : 0 ≤ t / 86400) (h2 : t / 86400 < 146097) W => show Calls Tryd.prog 16 #[.int .i64 (t / 86400)] W fun e w' => e = .returned (spV (shD (t / 86400))) ∧ Below W.heap.size W w' from rshape_ok (t / 86400) _ _ _ W (d_is (t / 86400)) h1 h2)
  clear hc
  obtain ⟨W0, hW0⟩ : ∃ W0, w.alloc (.cells (clC c) 28) = W0 := ⟨_, rfl⟩
  rw [hW0] at HB0 HC0
  have HMK := Lib.hid (fun (Y : World) (hb : Below W0.heap.size W0 Y) => hS7 hb (HC0.out.below hb))
  have hB0 : Below W0.heap.size W0 W0.drew := (Below.refl _ _).drew
  have HS := HMK.out W0.drew hB0
  have HBD := Lib.hid HB0.out.drew
  by_cases ht : 0 ≤ t ∧ t < 12622780800
  · have hd1 : 0 ≤ t / 86400 := by omega
    have hd2 : t / 86400 < 146097 := by omega
    have KS := Lib.hid (KSH.out hd1 hd2)
    have KD0 := Lib.hid (fun h => KDT.out h hd1 hd2)
    have tq : Int.tdiv t 86400 = t / 86400 := Int.tdiv_eq_ediv_of_nonneg ht.1
    have tm : Int.tmod t 86400 = t % 86400 := Int.tmod_eq_emod_of_nonneg ht.1
    have wq : IntKind.i64.wrap (t / 86400) = t / 86400 := IntWalk.i64_in _ ⟨by omega, by omega⟩
    have hs0 : 0 ≤ t % 86400 := by omega
    have hs1 : t % 86400 < 86400 := by omega
    rw [dec_t ht] at KI ⊢
    clear KSH KDT ht hd1 hd2 hti
    generalize shD (t / 86400) = s at *
    generalize t / 86400 = dn at *
    generalize t % 86400 = sec at *
    have q1 : Int.tdiv sec 3600 = sec / 3600 := Int.tdiv_eq_ediv_of_nonneg hs0
    have q2 : Int.tmod sec 3600 = sec % 3600 := Int.tmod_eq_emod_of_nonneg hs0
    have q3 : Int.tdiv (sec % 3600) 60 = sec % 3600 / 60 := Int.tdiv_eq_ediv_of_nonneg (by omega)
    have q4 : Int.tmod sec 60 = sec % 60 := Int.tmod_eq_emod_of_nonneg hs0
    have v0 : IntKind.i64.wrap sec = sec := IntWalk.i64_in _ ⟨by omega, by omega⟩
    have v1 : IntKind.i64.wrap (sec / 3600) = sec / 3600 := IntWalk.i64_in _ ⟨by omega, by omega⟩
    have v2 : IntKind.i64.wrap (sec % 3600) = sec % 3600 := IntWalk.i64_in _ ⟨by omega, by omega⟩
    have v3 : IntKind.i64.wrap (sec % 3600 / 60) = sec % 3600 / 60 := IntWalk.i64_in _ ⟨by omega, by omega⟩
    have v4 : IntKind.i64.wrap (sec % 60) = sec % 60 := IntWalk.i64_in _ ⟨by omega, by omega⟩
    clear hs0 hs1
    generalize sec % 3600 / 60 = a2 at *
    generalize sec % 3600 = b1 at *
    generalize sec / 3600 = a1 at *
    generalize sec % 60 = a3 at *
    unfold clV at KM
    cases hm : mayB c
    · rw [hm] at KM
      unfold clV clC
      unfold clC at hW0
      go_enter Tryd.func13, Tryd.ntmps13
      go_wp2_with fail
      try rw [hW0]
      clear hW0
      refine wp_region_held_drew (S := fun X => Below W0.heap.size W0 X ∧ X.heap[w.heap.size]? = some (.cells (clC c) 28 (0, 0)) ∧ X.cell? ⟨w.heap.size, 25, none⟩ = some (.int .i64 c.u) ∧ X.cell? ⟨w.heap.size, 26, none⟩ = some (.int .i64 c.st) ∧ X.cell? ⟨w.heap.size, 27, none⟩ = some (.int .i64 c.an) ∧ X.cell? ⟨w.heap.size, 28, none⟩ = some (.int .i64 c.fr) ∧ X.cell? ⟨w.heap.size, 29, none⟩ = some (.int .i64 c.un)) (by kernel_rfl) HS (fun hHeld => ?_)
      refine heldVal (v := ?v1) 0 rfl rfl (by kernel_rfl) (by kernel_rfl) (by kernel_rfl) (fun _ _ _ h => h) (by rfl) (fun w hSw => ?hy1) (by assumption) ?_
      case hy1 => ((try dsimp only at hSw); go_simp; (try with_reducible rfl))
      try simp only [Act.put, List.setIfInBounds_toArray, List.set_cons_zero, List.set_cons_succ]
      refine heldCall 1 rfl rfl (by kernel_rfl) (by rfl) (fun K hK => ?_)
      go_simp
      refine (KI.out _).mono ?_
      rintro e wx ⟨rfl, rfl⟩
      go_wp2_with fail
      refine hK.out _ _ ?hS (fun hHeld => ?_)
      case hS => (exact HMK.out _ hB0)
      clear hK K
      try simp only [Act.put, List.setIfInBounds_toArray, List.set_cons_zero, List.set_cons_succ]
      refine heldVal (v := ?v2) 2 rfl rfl (by kernel_rfl) (by kernel_rfl) (by kernel_rfl) (fun _ _ _ h => h) (by rfl) (fun w hSw => ?hy2) (by assumption) ?_
      case hy2 => ((try dsimp only at hSw); go_simp; (try with_reducible rfl))
      try simp only [Act.put, List.setIfInBounds_toArray, List.set_cons_zero, List.set_cons_succ]
      refine heldVal (v := ?v3) 3 rfl rfl (by kernel_rfl) (by kernel_rfl) (by kernel_rfl) (fun _ _ _ h => h) (by rfl) (fun w hSw => ?hy3) (by assumption) ?_
      case hy3 => ((try dsimp only at hSw); go_simp; (try with_reducible rfl))
      try simp only [Act.put, List.setIfInBounds_toArray, List.set_cons_zero, List.set_cons_succ]
      refine heldVal 4 rfl rfl (by kernel_rfl) (by kernel_rfl) (by kernel_rfl) (fun _ _ _ h => h) (by rfl) (fun w hSw => exec_loadRow hSw.2.1 rfl rfl Tryd.underlying28 rfl (by unfold clC; kernel_rfl)) (by assumption) ?_
      try simp only [Act.put, List.setIfInBounds_toArray, List.set_cons_zero, List.set_cons_succ]
      refine heldCall 5 rfl rfl (by kernel_rfl) (by rfl) (fun K hK => ?_)
      go_simp
      refine (KM.out _).mono ?_
      rintro e w1 ⟨rfl, hb⟩
      have hB1 : Below W0.heap.size W0 w1 := hB0.trans (hb.mono hB0.size)
      have hS1 := HMK.out w1 hB1
      clear hb
      go_wp2_with fail
      refine hK.out _ _ ?hS (fun hHeld => ?_)
      case hS => (exact hS1)
      clear hK K
      try simp only [Act.put, List.setIfInBounds_toArray, List.set_cons_zero, List.set_cons_succ]
      refine heldVal (v := ?v4) 6 rfl rfl (by kernel_rfl) (by kernel_rfl) (by kernel_rfl) (fun _ _ _ h => h) (by rfl) (fun w hSw => ?hy4) (by assumption) ?_
      case hy4 => ((try dsimp only at hSw); go_simp; (try with_reducible rfl))
      try simp only [Act.put, List.setIfInBounds_toArray, List.set_cons_zero, List.set_cons_succ]
      refine heldVal (v := ?v5) 7 rfl rfl (by kernel_rfl) (by kernel_rfl) (by kernel_rfl) (fun _ _ _ h => h) (by rfl) (fun w hSw => ?hy5) (by assumption) ?_
      case hy5 => ((try dsimp only at hSw); go_simp; (try with_reducible rfl))
      try simp only [Act.put, List.setIfInBounds_toArray, List.set_cons_zero, List.set_cons_succ]
      refine heldVal (v := ?v6) 8 rfl rfl (by kernel_rfl) (by kernel_rfl) (by kernel_rfl) (fun _ _ _ h => h) (by rfl) (fun w hSw => ?hy6) (by assumption) ?_
      case hy6 => ((try dsimp only at hSw); go_simp; (try with_reducible rfl))
      try simp only [Act.put, List.setIfInBounds_toArray, List.set_cons_zero, List.set_cons_succ]
      refine heldSkip 9 rfl rfl (by kernel_rfl) (by kernel_rfl) (by kernel_rfl) (fun _ _ _ h => h) (by rfl) (by assumption) ?_
      try simp only [Act.put, List.setIfInBounds_toArray, List.set_cons_zero, List.set_cons_succ]
      refine heldSkip 10 rfl rfl (by kernel_rfl) (by kernel_rfl) (by kernel_rfl) (fun _ _ _ h => h) (by rfl) (by assumption) ?_
      try simp only [Act.put, List.setIfInBounds_toArray, List.set_cons_zero, List.set_cons_succ]
      refine heldSkip 11 rfl rfl (by kernel_rfl) (by kernel_rfl) (by kernel_rfl) (fun _ _ _ h => h) (by rfl) (by assumption) ?_
      try simp only [Act.put, List.setIfInBounds_toArray, List.set_cons_zero, List.set_cons_succ]
      refine heldSkip 12 rfl rfl (by kernel_rfl) (by kernel_rfl) (by kernel_rfl) (fun _ _ _ h => h) (by rfl) (by assumption) ?_
      try simp only [Act.put, List.setIfInBounds_toArray, List.set_cons_zero, List.set_cons_succ]
      refine heldVal (v := ?v7) 13 rfl rfl (by kernel_rfl) (by kernel_rfl) (by kernel_rfl) (fun _ _ _ h => h) (by rfl) (fun w hSw => ?hy7) (by assumption) ?_
      case hy7 => ((try dsimp only at hSw); go_simp; (try with_reducible rfl))
      try simp only [Act.put, List.setIfInBounds_toArray, List.set_cons_zero, List.set_cons_succ]
      refine heldVal (v := ?v8) 14 rfl rfl (by kernel_rfl) (by kernel_rfl) (by kernel_rfl) (fun _ _ _ h => h) (by rfl) (fun w hSw => ?hy8) (by assumption) ?_
      case hy8 => ((try dsimp only at hSw); go_simp; (try with_reducible rfl))
      try simp only [Act.put, List.setIfInBounds_toArray, List.set_cons_zero, List.set_cons_succ]
      refine heldSkip 15 rfl rfl (by kernel_rfl) (by kernel_rfl) (by kernel_rfl) (fun _ _ _ h => h) (by rfl) (by assumption) ?_
      try simp only [Act.put, List.setIfInBounds_toArray, List.set_cons_zero, List.set_cons_succ]
      refine heldSkip 16 rfl rfl (by kernel_rfl) (by kernel_rfl) (by kernel_rfl) (fun _ _ _ h => h) (by rfl) (by assumption) ?_
      try simp only [Act.put, List.setIfInBounds_toArray, List.set_cons_zero, List.set_cons_succ]
      refine heldSkip 17 rfl rfl (by kernel_rfl) (by kernel_rfl) (by kernel_rfl) (fun _ _ _ h => h) (by rfl) (by assumption) ?_
      try simp only [Act.put, List.setIfInBounds_toArray, List.set_cons_zero, List.set_cons_succ]
      refine heldSkip 18 rfl rfl (by kernel_rfl) (by kernel_rfl) (by kernel_rfl) (fun _ _ _ h => h) (by rfl) (by assumption) ?_
      try simp only [Act.put, List.setIfInBounds_toArray, List.set_cons_zero, List.set_cons_succ]
      refine heldVal (v := ?v9) 19 rfl rfl (by kernel_rfl) (by kernel_rfl) (by kernel_rfl) (fun _ _ _ h => h) (by rfl) (fun w hSw => ?hy9) (by assumption) ?_
      case hy9 => ((try dsimp only at hSw); go_simp; (try with_reducible rfl))
      try simp only [Act.put, List.setIfInBounds_toArray, List.set_cons_zero, List.set_cons_succ]
      refine heldVal (v := ?v10) 20 rfl rfl (by kernel_rfl) (by kernel_rfl) (by kernel_rfl) (fun _ _ _ h => h) (by rfl) (fun w hSw => ?hy10) (by assumption) ?_
      case hy10 => ((try dsimp only at hSw); go_simp; (try with_reducible rfl))
      try simp only [Act.put, List.setIfInBounds_toArray, List.set_cons_zero, List.set_cons_succ]
      refine heldSkip 21 rfl rfl (by kernel_rfl) (by kernel_rfl) (by kernel_rfl) (fun _ _ _ h => h) (by rfl) (by assumption) ?_
      try simp only [Act.put, List.setIfInBounds_toArray, List.set_cons_zero, List.set_cons_succ]
      refine heldSkip 22 rfl rfl (by kernel_rfl) (by kernel_rfl) (by kernel_rfl) (fun _ _ _ h => h) (by rfl) (by assumption) ?_
      try simp only [Act.put, List.setIfInBounds_toArray, List.set_cons_zero, List.set_cons_succ]
      refine heldSkip 23 rfl rfl (by kernel_rfl) (by kernel_rfl) (by kernel_rfl) (fun _ _ _ h => h) (by rfl) (by assumption) ?_
      try simp only [Act.put, List.setIfInBounds_toArray, List.set_cons_zero, List.set_cons_succ]
      refine heldSkip 24 rfl rfl (by kernel_rfl) (by kernel_rfl) (by kernel_rfl) (fun _ _ _ h => h) (by rfl) (by assumption) ?_
      try simp only [Act.put, List.setIfInBounds_toArray, List.set_cons_zero, List.set_cons_succ]
      refine heldSkip 25 rfl rfl (by kernel_rfl) (by kernel_rfl) (by kernel_rfl) (fun _ _ _ h => h) (by rfl) (by assumption) ?_
      try simp only [Act.put, List.setIfInBounds_toArray, List.set_cons_zero, List.set_cons_succ]
      refine heldSkip 26 rfl rfl (by kernel_rfl) (by kernel_rfl) (by kernel_rfl) (fun _ _ _ h => h) (by rfl) (by assumption) ?_
      try simp only [Act.put, List.setIfInBounds_toArray, List.set_cons_zero, List.set_cons_succ]
      refine heldVal (v := ?v11) 27 rfl rfl (by kernel_rfl) (by kernel_rfl) (by kernel_rfl) (fun _ _ _ h => h) (by rfl) (fun w hSw => ?hy11) (by assumption) ?_
      case hy11 => ((try dsimp only at hSw); go_simp; (try with_reducible rfl))
      try simp only [Act.put, List.setIfInBounds_toArray, List.set_cons_zero, List.set_cons_succ]
      refine heldVal (v := ?v12) 28 rfl rfl (by kernel_rfl) (by kernel_rfl) (by kernel_rfl) (fun _ _ _ h => h) (by rfl) (fun w hSw => ?hy12) (by assumption) ?_
      case hy12 => ((try dsimp only at hSw); go_simp; (try with_reducible rfl))
      try simp only [Act.put, List.setIfInBounds_toArray, List.set_cons_zero, List.set_cons_succ]
      refine heldSkip 29 rfl rfl (by kernel_rfl) (by kernel_rfl) (by kernel_rfl) (fun _ _ _ h => h) (by rfl) (by assumption) ?_
      try simp only [Act.put, List.setIfInBounds_toArray, List.set_cons_zero, List.set_cons_succ]
      refine heldSkip 30 rfl rfl (by kernel_rfl) (by kernel_rfl) (by kernel_rfl) (fun _ _ _ h => h) (by rfl) (by assumption) ?_
      try simp only [Act.put, List.setIfInBounds_toArray, List.set_cons_zero, List.set_cons_succ]
      refine heldSkip 31 rfl rfl (by kernel_rfl) (by kernel_rfl) (by kernel_rfl) (fun _ _ _ h => h) (by rfl) (by assumption) ?_
      try simp only [Act.put, List.setIfInBounds_toArray, List.set_cons_zero, List.set_cons_succ]
      refine heldSkip 32 rfl rfl (by kernel_rfl) (by kernel_rfl) (by kernel_rfl) (fun _ _ _ h => h) (by rfl) (by assumption) ?_
      try simp only [Act.put, List.setIfInBounds_toArray, List.set_cons_zero, List.set_cons_succ]
      refine heldSkip 33 rfl rfl (by kernel_rfl) (by kernel_rfl) (by kernel_rfl) (fun _ _ _ h => h) (by rfl) (by assumption) ?_
      try simp only [Act.put, List.setIfInBounds_toArray, List.set_cons_zero, List.set_cons_succ]
      refine heldSkip 34 rfl rfl (by kernel_rfl) (by kernel_rfl) (by kernel_rfl) (fun _ _ _ h => h) (by rfl) (by assumption) ?_
      try simp only [Act.put, List.setIfInBounds_toArray, List.set_cons_zero, List.set_cons_succ]
      refine heldSkip 35 rfl rfl (by kernel_rfl) (by kernel_rfl) (by kernel_rfl) (fun _ _ _ h => h) (by rfl) (by assumption) ?_
      try simp only [Act.put, List.setIfInBounds_toArray, List.set_cons_zero, List.set_cons_succ]
      refine heldSkip 36 rfl rfl (by kernel_rfl) (by kernel_rfl) (by kernel_rfl) (fun _ _ _ h => h) (by rfl) (by assumption) ?_
      try simp only [Act.put, List.setIfInBounds_toArray, List.set_cons_zero, List.set_cons_succ]
      refine heldSkip 37 rfl rfl (by kernel_rfl) (by kernel_rfl) (by kernel_rfl) (fun _ _ _ h => h) (by rfl) (by assumption) ?_
      try simp only [Act.put, List.setIfInBounds_toArray, List.set_cons_zero, List.set_cons_succ]
      refine heldVal (v := ?v13) 38 rfl rfl (by kernel_rfl) (by kernel_rfl) (by kernel_rfl) (fun _ _ _ h => h) (by rfl) (fun w hSw => ?hy13) (by assumption) ?_
      case hy13 => ((try dsimp only at hSw); go_simp; (try with_reducible rfl))
      try simp only [Act.put, List.setIfInBounds_toArray, List.set_cons_zero, List.set_cons_succ]
      refine wpAnyH_done (by kernel_rfl) ?_ _
      have HBX := Lib.hid (HB0.out.trans (hB1.mono HB0.out.size))
      go_wp2
      go_ret
      exact ⟨rfl, HBX.out⟩
    · rw [hm] at KM
      have KD := Lib.hid (KD0.out hm)
      unfold clV at KD
      clear KD0 hm
      generalize onB c.u c.st c.an t = on at KON ⊢
      generalize dateB c s = dt at KD ⊢
      by_cases hf : c.fr ≤ t
      · have d1 : decide (t < c.fr) = false := dec_n (by omega)
        rw [dec_t hf]
        clear hf
        by_cases hu : t ≤ c.un
        · have d2 : decide (c.un < t) = false := dec_n (by omega)
          rw [dec_t hu]
          clear hu
          cases dt
          · clear KON KH1 KH2 KH3
            unfold clV clC
            unfold clC at hW0
            go_enter Tryd.func13, Tryd.ntmps13
            go_wp2_with fail
            try rw [hW0]
            clear hW0
            refine wp_region_held_drew (S := fun X => Below W0.heap.size W0 X ∧ X.heap[w.heap.size]? = some (.cells (clC c) 28 (0, 0)) ∧ X.cell? ⟨w.heap.size, 25, none⟩ = some (.int .i64 c.u) ∧ X.cell? ⟨w.heap.size, 26, none⟩ = some (.int .i64 c.st) ∧ X.cell? ⟨w.heap.size, 27, none⟩ = some (.int .i64 c.an) ∧ X.cell? ⟨w.heap.size, 28, none⟩ = some (.int .i64 c.fr) ∧ X.cell? ⟨w.heap.size, 29, none⟩ = some (.int .i64 c.un)) (by kernel_rfl) HS (fun hHeld => ?_)
            refine heldVal (v := ?v14) 0 rfl rfl (by kernel_rfl) (by kernel_rfl) (by kernel_rfl) (fun _ _ _ h => h) (by rfl) (fun w hSw => ?hy14) (by assumption) ?_
            case hy14 => ((try dsimp only at hSw); go_simp; (try with_reducible rfl))
            try simp only [Act.put, List.setIfInBounds_toArray, List.set_cons_zero, List.set_cons_succ]
            refine heldCall 1 rfl rfl (by kernel_rfl) (by rfl) (fun K hK => ?_)
            go_simp
            refine (KI.out _).mono ?_
            rintro e wx ⟨rfl, rfl⟩
            go_wp2_with fail
            refine hK.out _ _ ?hS (fun hHeld => ?_)
            case hS => (exact HMK.out _ hB0)
            clear hK K
            try simp only [Act.put, List.setIfInBounds_toArray, List.set_cons_zero, List.set_cons_succ]
            refine heldVal (v := ?v15) 2 rfl rfl (by kernel_rfl) (by kernel_rfl) (by kernel_rfl) (fun _ _ _ h => h) (by rfl) (fun w hSw => ?hy15) (by assumption) ?_
            case hy15 => ((try dsimp only at hSw); go_simp; (try with_reducible rfl))
            try simp only [Act.put, List.setIfInBounds_toArray, List.set_cons_zero, List.set_cons_succ]
            refine heldVal (v := ?v16) 3 rfl rfl (by kernel_rfl) (by kernel_rfl) (by kernel_rfl) (fun _ _ _ h => h) (by rfl) (fun w hSw => ?hy16) (by assumption) ?_
            case hy16 => ((try dsimp only at hSw); go_simp; (try with_reducible rfl))
            try simp only [Act.put, List.setIfInBounds_toArray, List.set_cons_zero, List.set_cons_succ]
            refine heldVal 4 rfl rfl (by kernel_rfl) (by kernel_rfl) (by kernel_rfl) (fun _ _ _ h => h) (by rfl) (fun w hSw => exec_loadRow hSw.2.1 rfl rfl Tryd.underlying28 rfl (by unfold clC; kernel_rfl)) (by assumption) ?_
            try simp only [Act.put, List.setIfInBounds_toArray, List.set_cons_zero, List.set_cons_succ]
            refine heldCall 5 rfl rfl (by kernel_rfl) (by rfl) (fun K hK => ?_)
            go_simp
            refine (KM.out _).mono ?_
            rintro e w1 ⟨rfl, hb⟩
            have hB1 : Below W0.heap.size W0 w1 := hB0.trans (hb.mono hB0.size)
            have hS1 := HMK.out w1 hB1
            clear hb
            go_wp2_with fail
            refine hK.out _ _ ?hS (fun hHeld => ?_)
            case hS => (exact hS1)
            clear hK K
            try simp only [Act.put, List.setIfInBounds_toArray, List.set_cons_zero, List.set_cons_succ]
            refine heldVal (v := ?v17) 6 rfl rfl (by kernel_rfl) (by kernel_rfl) (by kernel_rfl) (fun _ _ _ h => h) (by rfl) (fun w hSw => ?hy17) (by assumption) ?_
            case hy17 => ((try dsimp only at hSw); go_simp; (try with_reducible rfl))
            try simp only [Act.put, List.setIfInBounds_toArray, List.set_cons_zero, List.set_cons_succ]
            refine heldVal (v := ?v18) 7 rfl rfl (by kernel_rfl) (by kernel_rfl) (by kernel_rfl) (fun _ _ _ h => h) (by rfl) (fun w hSw => ?hy18) (by assumption) ?_
            case hy18 => ((try dsimp only at hSw); go_simp; (try with_reducible rfl))
            try simp only [Act.put, List.setIfInBounds_toArray, List.set_cons_zero, List.set_cons_succ]
            refine heldVal (v := ?v19) 8 rfl rfl (by kernel_rfl) (by kernel_rfl) (by kernel_rfl) (fun _ _ _ h => h) (by rfl) (fun w hSw => ?hy19) (by assumption) ?_
            case hy19 => ((try dsimp only at hSw); go_simp; (try with_reducible rfl))
            try simp only [Act.put, List.setIfInBounds_toArray, List.set_cons_zero, List.set_cons_succ]
            refine heldVal (v := ?v20) 9 rfl rfl (by kernel_rfl) (by kernel_rfl) (by kernel_rfl) (fun _ _ _ h => h) (by rfl) (fun w hSw => ?hy20) (by assumption) ?_
            case hy20 => ((try dsimp only at hSw); go_simp; (try with_reducible rfl))
            try simp only [Act.put, List.setIfInBounds_toArray, List.set_cons_zero, List.set_cons_succ]
            refine heldVal (v := ?v21) 10 rfl rfl (by kernel_rfl) (by kernel_rfl) (by kernel_rfl) (fun _ _ _ h => h) (by rfl) (fun w hSw => ?hy21) (by assumption) ?_
            case hy21 => ((try dsimp only at hSw); go_simp; (try with_reducible rfl))
            try simp only [Act.put, List.setIfInBounds_toArray, List.set_cons_zero, List.set_cons_succ]
            refine heldVal (v := ?v22) 11 rfl rfl (by kernel_rfl) (by kernel_rfl) (by kernel_rfl) (fun _ _ _ h => h) (by rfl) (fun w hSw => ?hy22) (by assumption) ?_
            case hy22 => ((try dsimp only at hSw); go_simp; (try with_reducible rfl))
            try simp only [Act.put, List.setIfInBounds_toArray, List.set_cons_zero, List.set_cons_succ]
            refine heldVal (v := ?v23) 12 rfl rfl (by kernel_rfl) (by kernel_rfl) (by kernel_rfl) (fun _ _ _ h => h) (by rfl) (fun w hSw => ?hy23) (by assumption) ?_
            case hy23 => ((try dsimp only at hSw); go_simp; (try with_reducible rfl))
            try simp only [Act.put, List.setIfInBounds_toArray, List.set_cons_zero, List.set_cons_succ]
            refine heldVal (v := ?v24) 13 rfl rfl (by kernel_rfl) (by kernel_rfl) (by kernel_rfl) (fun _ _ _ h => h) (by rfl) (fun w hSw => ?hy24) (by assumption) ?_
            case hy24 => ((try dsimp only at hSw); go_simp; (try with_reducible rfl))
            try simp only [Act.put, List.setIfInBounds_toArray, List.set_cons_zero, List.set_cons_succ]
            refine heldVal (v := ?v25) 14 rfl rfl (by kernel_rfl) (by kernel_rfl) (by kernel_rfl) (fun _ _ _ h => h) (by rfl) (fun w hSw => ?hy25) (by assumption) ?_
            case hy25 => ((try dsimp only at hSw); go_simp; (try with_reducible rfl))
            try simp only [Act.put, List.setIfInBounds_toArray, List.set_cons_zero, List.set_cons_succ]
            refine heldVal (v := ?v26) 15 rfl rfl (by kernel_rfl) (by kernel_rfl) (by kernel_rfl) (fun _ _ _ h => h) (by rfl) (fun w hSw => ?hy26) (by assumption) ?_
            case hy26 => ((try dsimp only at hSw); go_simp; (try with_reducible rfl))
            try simp only [Act.put, List.setIfInBounds_toArray, List.set_cons_zero, List.set_cons_succ]
            refine heldVal (v := ?v27) 16 rfl rfl (by kernel_rfl) (by kernel_rfl) (by kernel_rfl) (fun _ _ _ h => h) (by rfl) (fun w hSw => ?hy27) (by assumption) ?_
            case hy27 => ((try dsimp only at hSw); go_simp; (try with_reducible rfl))
            try simp only [Act.put, List.setIfInBounds_toArray, List.set_cons_zero, List.set_cons_succ]
            refine heldVal (v := ?v28) 17 rfl rfl (by kernel_rfl) (by kernel_rfl) (by kernel_rfl) (fun _ _ _ h => h) (by rfl) (fun w hSw => ?hy28) (by assumption) ?_
            case hy28 => ((try dsimp only at hSw); go_simp; (try with_reducible rfl))
            try simp only [Act.put, List.setIfInBounds_toArray, List.set_cons_zero, List.set_cons_succ]
            refine heldVal (v := ?v29) 18 rfl rfl (by kernel_rfl) (by kernel_rfl) (by kernel_rfl) (fun _ _ _ h => h) (by rfl) (fun w hSw => ?hy29) (by assumption) ?_
            case hy29 => ((try dsimp only at hSw); go_simp; (try with_reducible rfl))
            try simp only [Act.put, List.setIfInBounds_toArray, List.set_cons_zero, List.set_cons_succ]
            refine heldVal (v := ?v30) 19 rfl rfl (by kernel_rfl) (by kernel_rfl) (by kernel_rfl) (fun _ _ _ h => h) (by rfl) (fun w hSw => ?hy30) (by assumption) ?_
            case hy30 => ((try dsimp only at hSw); go_simp; (try with_reducible rfl))
            try simp only [Act.put, List.setIfInBounds_toArray, List.set_cons_zero, List.set_cons_succ]
            refine heldVal (v := ?v31) 20 rfl rfl (by kernel_rfl) (by kernel_rfl) (by kernel_rfl) (fun _ _ _ h => h) (by rfl) (fun w hSw => ?hy31) (by assumption) ?_
            case hy31 => ((try dsimp only at hSw); go_simp; (try with_reducible rfl))
            try simp only [Act.put, List.setIfInBounds_toArray, List.set_cons_zero, List.set_cons_succ]
            refine heldVal 21 rfl rfl (by kernel_rfl) (by kernel_rfl) (by kernel_rfl) (fun _ _ _ h => h) (by rfl) (fun w hSw => exec_loadRow hSw.2.1 rfl rfl Tryd.underlying28 rfl (by unfold clC; kernel_rfl)) (by assumption) ?_
            try simp only [Act.put, List.setIfInBounds_toArray, List.set_cons_zero, List.set_cons_succ]
            refine heldVal (v := ?v32) 22 rfl rfl (by kernel_rfl) (by kernel_rfl) (by kernel_rfl) (fun _ _ _ h => h) (by rfl) (fun w hSw => ?hy32) (by assumption) ?_
            case hy32 => ((try dsimp only at hSw); go_simp; (try with_reducible rfl))
            try simp only [Act.put, List.setIfInBounds_toArray, List.set_cons_zero, List.set_cons_succ]
            refine heldVal (v := ?v33) 23 rfl rfl (by kernel_rfl) (by kernel_rfl) (by kernel_rfl) (fun _ _ _ h => h) (by rfl) (fun w hSw => ?hy33) (by assumption) ?_
            case hy33 => ((try dsimp only at hSw); go_simp; (try with_reducible rfl))
            try simp only [Act.put, List.setIfInBounds_toArray, List.set_cons_zero, List.set_cons_succ]
            refine heldCall 24 rfl rfl (by kernel_rfl) (by rfl) (fun K hK => ?_)
            go_simp
            refine (KS.out _).mono ?_
            rintro e w2 ⟨rfl, hb⟩
            have hB2 : Below W0.heap.size W0 w2 := hB1.trans (hb.mono hB1.size)
            have hS2 := HMK.out w2 hB2
            clear hb
            go_wp2_with fail
            refine hK.out _ _ ?hS (fun hHeld => ?_)
            case hS => (exact hS2)
            clear hK K
            try simp only [Act.put, List.setIfInBounds_toArray, List.set_cons_zero, List.set_cons_succ]
            refine heldCall 25 rfl rfl (by kernel_rfl) (by rfl) (fun K hK => ?_)
            go_simp
            refine (KD.out _).mono ?_
            rintro e w3 ⟨rfl, hb⟩
            have hB3 : Below W0.heap.size W0 w3 := hB2.trans (hb.mono hB2.size)
            have hS3 := HMK.out w3 hB3
            clear hb
            go_wp2_with fail
            refine hK.out _ _ ?hS (fun hHeld => ?_)
            case hS => (exact hS3)
            clear hK K
            try simp only [Act.put, List.setIfInBounds_toArray, List.set_cons_zero, List.set_cons_succ]
            refine heldVal (v := ?v34) 26 rfl rfl (by kernel_rfl) (by kernel_rfl) (by kernel_rfl) (fun _ _ _ h => h) (by rfl) (fun w hSw => ?hy34) (by assumption) ?_
            case hy34 => ((try dsimp only at hSw); go_simp; (try with_reducible rfl))
            try simp only [Act.put, List.setIfInBounds_toArray, List.set_cons_zero, List.set_cons_succ]
            refine heldVal (v := ?v35) 27 rfl rfl (by kernel_rfl) (by kernel_rfl) (by kernel_rfl) (fun _ _ _ h => h) (by rfl) (fun w hSw => ?hy35) (by assumption) ?_
            case hy35 => ((try dsimp only at hSw); go_simp; (try with_reducible rfl))
            try simp only [Act.put, List.setIfInBounds_toArray, List.set_cons_zero, List.set_cons_succ]
            refine heldVal (v := ?v36) 28 rfl rfl (by kernel_rfl) (by kernel_rfl) (by kernel_rfl) (fun _ _ _ h => h) (by rfl) (fun w hSw => ?hy36) (by assumption) ?_
            case hy36 => ((try dsimp only at hSw); go_simp; (try with_reducible rfl))
            try simp only [Act.put, List.setIfInBounds_toArray, List.set_cons_zero, List.set_cons_succ]
            refine heldSkip 29 rfl rfl (by kernel_rfl) (by kernel_rfl) (by kernel_rfl) (fun _ _ _ h => h) (by rfl) (by assumption) ?_
            try simp only [Act.put, List.setIfInBounds_toArray, List.set_cons_zero, List.set_cons_succ]
            refine heldSkip 30 rfl rfl (by kernel_rfl) (by kernel_rfl) (by kernel_rfl) (fun _ _ _ h => h) (by rfl) (by assumption) ?_
            try simp only [Act.put, List.setIfInBounds_toArray, List.set_cons_zero, List.set_cons_succ]
            refine heldSkip 31 rfl rfl (by kernel_rfl) (by kernel_rfl) (by kernel_rfl) (fun _ _ _ h => h) (by rfl) (by assumption) ?_
            try simp only [Act.put, List.setIfInBounds_toArray, List.set_cons_zero, List.set_cons_succ]
            refine heldSkip 32 rfl rfl (by kernel_rfl) (by kernel_rfl) (by kernel_rfl) (fun _ _ _ h => h) (by rfl) (by assumption) ?_
            try simp only [Act.put, List.setIfInBounds_toArray, List.set_cons_zero, List.set_cons_succ]
            refine heldSkip 33 rfl rfl (by kernel_rfl) (by kernel_rfl) (by kernel_rfl) (fun _ _ _ h => h) (by rfl) (by assumption) ?_
            try simp only [Act.put, List.setIfInBounds_toArray, List.set_cons_zero, List.set_cons_succ]
            refine heldSkip 34 rfl rfl (by kernel_rfl) (by kernel_rfl) (by kernel_rfl) (fun _ _ _ h => h) (by rfl) (by assumption) ?_
            try simp only [Act.put, List.setIfInBounds_toArray, List.set_cons_zero, List.set_cons_succ]
            refine heldSkip 35 rfl rfl (by kernel_rfl) (by kernel_rfl) (by kernel_rfl) (fun _ _ _ h => h) (by rfl) (by assumption) ?_
            try simp only [Act.put, List.setIfInBounds_toArray, List.set_cons_zero, List.set_cons_succ]
            refine heldSkip 36 rfl rfl (by kernel_rfl) (by kernel_rfl) (by kernel_rfl) (fun _ _ _ h => h) (by rfl) (by assumption) ?_
            try simp only [Act.put, List.setIfInBounds_toArray, List.set_cons_zero, List.set_cons_succ]
            refine heldSkip 37 rfl rfl (by kernel_rfl) (by kernel_rfl) (by kernel_rfl) (fun _ _ _ h => h) (by rfl) (by assumption) ?_
            try simp only [Act.put, List.setIfInBounds_toArray, List.set_cons_zero, List.set_cons_succ]
            refine heldVal (v := ?v37) 38 rfl rfl (by kernel_rfl) (by kernel_rfl) (by kernel_rfl) (fun _ _ _ h => h) (by rfl) (fun w hSw => ?hy37) (by assumption) ?_
            case hy37 => ((try dsimp only at hSw); go_simp; (try with_reducible rfl))
            try simp only [Act.put, List.setIfInBounds_toArray, List.set_cons_zero, List.set_cons_succ]
            refine wpAnyH_done (by kernel_rfl) ?_ _
            have HBX := Lib.hid (HB0.out.trans (hB3.mono HB0.out.size))
            go_wp2
            go_ret
            exact ⟨rfl, HBX.out⟩
          · cases on
            · clear KH1 KH2 KH3
              unfold clV clC
              unfold clC at hW0
              go_enter Tryd.func13, Tryd.ntmps13
              go_wp2_with fail
              try rw [hW0]
              clear hW0
              refine wp_region_held_drew (S := fun X => Below W0.heap.size W0 X ∧ X.heap[w.heap.size]? = some (.cells (clC c) 28 (0, 0)) ∧ X.cell? ⟨w.heap.size, 25, none⟩ = some (.int .i64 c.u) ∧ X.cell? ⟨w.heap.size, 26, none⟩ = some (.int .i64 c.st) ∧ X.cell? ⟨w.heap.size, 27, none⟩ = some (.int .i64 c.an) ∧ X.cell? ⟨w.heap.size, 28, none⟩ = some (.int .i64 c.fr) ∧ X.cell? ⟨w.heap.size, 29, none⟩ = some (.int .i64 c.un)) (by kernel_rfl) HS (fun hHeld => ?_)
              refine heldVal (v := ?v38) 0 rfl rfl (by kernel_rfl) (by kernel_rfl) (by kernel_rfl) (fun _ _ _ h => h) (by rfl) (fun w hSw => ?hy38) (by assumption) ?_
              case hy38 => ((try dsimp only at hSw); go_simp; (try with_reducible rfl))
              try simp only [Act.put, List.setIfInBounds_toArray, List.set_cons_zero, List.set_cons_succ]
              refine heldCall 1 rfl rfl (by kernel_rfl) (by rfl) (fun K hK => ?_)
              go_simp
              refine (KI.out _).mono ?_
              rintro e wx ⟨rfl, rfl⟩
              go_wp2_with fail
              refine hK.out _ _ ?hS (fun hHeld => ?_)
              case hS => (exact HMK.out _ hB0)
              clear hK K
              try simp only [Act.put, List.setIfInBounds_toArray, List.set_cons_zero, List.set_cons_succ]
              refine heldVal (v := ?v39) 2 rfl rfl (by kernel_rfl) (by kernel_rfl) (by kernel_rfl) (fun _ _ _ h => h) (by rfl) (fun w hSw => ?hy39) (by assumption) ?_
              case hy39 => ((try dsimp only at hSw); go_simp; (try with_reducible rfl))
              try simp only [Act.put, List.setIfInBounds_toArray, List.set_cons_zero, List.set_cons_succ]
              refine heldVal (v := ?v40) 3 rfl rfl (by kernel_rfl) (by kernel_rfl) (by kernel_rfl) (fun _ _ _ h => h) (by rfl) (fun w hSw => ?hy40) (by assumption) ?_
              case hy40 => ((try dsimp only at hSw); go_simp; (try with_reducible rfl))
              try simp only [Act.put, List.setIfInBounds_toArray, List.set_cons_zero, List.set_cons_succ]
              refine heldVal 4 rfl rfl (by kernel_rfl) (by kernel_rfl) (by kernel_rfl) (fun _ _ _ h => h) (by rfl) (fun w hSw => exec_loadRow hSw.2.1 rfl rfl Tryd.underlying28 rfl (by unfold clC; kernel_rfl)) (by assumption) ?_
              try simp only [Act.put, List.setIfInBounds_toArray, List.set_cons_zero, List.set_cons_succ]
              refine heldCall 5 rfl rfl (by kernel_rfl) (by rfl) (fun K hK => ?_)
              go_simp
              refine (KM.out _).mono ?_
              rintro e w1 ⟨rfl, hb⟩
              have hB1 : Below W0.heap.size W0 w1 := hB0.trans (hb.mono hB0.size)
              have hS1 := HMK.out w1 hB1
              clear hb
              go_wp2_with fail
              refine hK.out _ _ ?hS (fun hHeld => ?_)
              case hS => (exact hS1)
              clear hK K
              try simp only [Act.put, List.setIfInBounds_toArray, List.set_cons_zero, List.set_cons_succ]
              refine heldVal (v := ?v41) 6 rfl rfl (by kernel_rfl) (by kernel_rfl) (by kernel_rfl) (fun _ _ _ h => h) (by rfl) (fun w hSw => ?hy41) (by assumption) ?_
              case hy41 => ((try dsimp only at hSw); go_simp; (try with_reducible rfl))
              try simp only [Act.put, List.setIfInBounds_toArray, List.set_cons_zero, List.set_cons_succ]
              refine heldVal (v := ?v42) 7 rfl rfl (by kernel_rfl) (by kernel_rfl) (by kernel_rfl) (fun _ _ _ h => h) (by rfl) (fun w hSw => ?hy42) (by assumption) ?_
              case hy42 => ((try dsimp only at hSw); go_simp; (try with_reducible rfl))
              try simp only [Act.put, List.setIfInBounds_toArray, List.set_cons_zero, List.set_cons_succ]
              refine heldVal (v := ?v43) 8 rfl rfl (by kernel_rfl) (by kernel_rfl) (by kernel_rfl) (fun _ _ _ h => h) (by rfl) (fun w hSw => ?hy43) (by assumption) ?_
              case hy43 => ((try dsimp only at hSw); go_simp; (try with_reducible rfl))
              try simp only [Act.put, List.setIfInBounds_toArray, List.set_cons_zero, List.set_cons_succ]
              refine heldVal (v := ?v44) 9 rfl rfl (by kernel_rfl) (by kernel_rfl) (by kernel_rfl) (fun _ _ _ h => h) (by rfl) (fun w hSw => ?hy44) (by assumption) ?_
              case hy44 => ((try dsimp only at hSw); go_simp; (try with_reducible rfl))
              try simp only [Act.put, List.setIfInBounds_toArray, List.set_cons_zero, List.set_cons_succ]
              refine heldVal (v := ?v45) 10 rfl rfl (by kernel_rfl) (by kernel_rfl) (by kernel_rfl) (fun _ _ _ h => h) (by rfl) (fun w hSw => ?hy45) (by assumption) ?_
              case hy45 => ((try dsimp only at hSw); go_simp; (try with_reducible rfl))
              try simp only [Act.put, List.setIfInBounds_toArray, List.set_cons_zero, List.set_cons_succ]
              refine heldVal (v := ?v46) 11 rfl rfl (by kernel_rfl) (by kernel_rfl) (by kernel_rfl) (fun _ _ _ h => h) (by rfl) (fun w hSw => ?hy46) (by assumption) ?_
              case hy46 => ((try dsimp only at hSw); go_simp; (try with_reducible rfl))
              try simp only [Act.put, List.setIfInBounds_toArray, List.set_cons_zero, List.set_cons_succ]
              refine heldVal (v := ?v47) 12 rfl rfl (by kernel_rfl) (by kernel_rfl) (by kernel_rfl) (fun _ _ _ h => h) (by rfl) (fun w hSw => ?hy47) (by assumption) ?_
              case hy47 => ((try dsimp only at hSw); go_simp; (try with_reducible rfl))
              try simp only [Act.put, List.setIfInBounds_toArray, List.set_cons_zero, List.set_cons_succ]
              refine heldVal (v := ?v48) 13 rfl rfl (by kernel_rfl) (by kernel_rfl) (by kernel_rfl) (fun _ _ _ h => h) (by rfl) (fun w hSw => ?hy48) (by assumption) ?_
              case hy48 => ((try dsimp only at hSw); go_simp; (try with_reducible rfl))
              try simp only [Act.put, List.setIfInBounds_toArray, List.set_cons_zero, List.set_cons_succ]
              refine heldVal (v := ?v49) 14 rfl rfl (by kernel_rfl) (by kernel_rfl) (by kernel_rfl) (fun _ _ _ h => h) (by rfl) (fun w hSw => ?hy49) (by assumption) ?_
              case hy49 => ((try dsimp only at hSw); go_simp; (try with_reducible rfl))
              try simp only [Act.put, List.setIfInBounds_toArray, List.set_cons_zero, List.set_cons_succ]
              refine heldVal (v := ?v50) 15 rfl rfl (by kernel_rfl) (by kernel_rfl) (by kernel_rfl) (fun _ _ _ h => h) (by rfl) (fun w hSw => ?hy50) (by assumption) ?_
              case hy50 => ((try dsimp only at hSw); go_simp; (try with_reducible rfl))
              try simp only [Act.put, List.setIfInBounds_toArray, List.set_cons_zero, List.set_cons_succ]
              refine heldVal (v := ?v51) 16 rfl rfl (by kernel_rfl) (by kernel_rfl) (by kernel_rfl) (fun _ _ _ h => h) (by rfl) (fun w hSw => ?hy51) (by assumption) ?_
              case hy51 => ((try dsimp only at hSw); go_simp; (try with_reducible rfl))
              try simp only [Act.put, List.setIfInBounds_toArray, List.set_cons_zero, List.set_cons_succ]
              refine heldVal (v := ?v52) 17 rfl rfl (by kernel_rfl) (by kernel_rfl) (by kernel_rfl) (fun _ _ _ h => h) (by rfl) (fun w hSw => ?hy52) (by assumption) ?_
              case hy52 => ((try dsimp only at hSw); go_simp; (try with_reducible rfl))
              try simp only [Act.put, List.setIfInBounds_toArray, List.set_cons_zero, List.set_cons_succ]
              refine heldVal (v := ?v53) 18 rfl rfl (by kernel_rfl) (by kernel_rfl) (by kernel_rfl) (fun _ _ _ h => h) (by rfl) (fun w hSw => ?hy53) (by assumption) ?_
              case hy53 => ((try dsimp only at hSw); go_simp; (try with_reducible rfl))
              try simp only [Act.put, List.setIfInBounds_toArray, List.set_cons_zero, List.set_cons_succ]
              refine heldVal (v := ?v54) 19 rfl rfl (by kernel_rfl) (by kernel_rfl) (by kernel_rfl) (fun _ _ _ h => h) (by rfl) (fun w hSw => ?hy54) (by assumption) ?_
              case hy54 => ((try dsimp only at hSw); go_simp; (try with_reducible rfl))
              try simp only [Act.put, List.setIfInBounds_toArray, List.set_cons_zero, List.set_cons_succ]
              refine heldVal (v := ?v55) 20 rfl rfl (by kernel_rfl) (by kernel_rfl) (by kernel_rfl) (fun _ _ _ h => h) (by rfl) (fun w hSw => ?hy55) (by assumption) ?_
              case hy55 => ((try dsimp only at hSw); go_simp; (try with_reducible rfl))
              try simp only [Act.put, List.setIfInBounds_toArray, List.set_cons_zero, List.set_cons_succ]
              refine heldVal 21 rfl rfl (by kernel_rfl) (by kernel_rfl) (by kernel_rfl) (fun _ _ _ h => h) (by rfl) (fun w hSw => exec_loadRow hSw.2.1 rfl rfl Tryd.underlying28 rfl (by unfold clC; kernel_rfl)) (by assumption) ?_
              try simp only [Act.put, List.setIfInBounds_toArray, List.set_cons_zero, List.set_cons_succ]
              refine heldVal (v := ?v56) 22 rfl rfl (by kernel_rfl) (by kernel_rfl) (by kernel_rfl) (fun _ _ _ h => h) (by rfl) (fun w hSw => ?hy56) (by assumption) ?_
              case hy56 => ((try dsimp only at hSw); go_simp; (try with_reducible rfl))
              try simp only [Act.put, List.setIfInBounds_toArray, List.set_cons_zero, List.set_cons_succ]
              refine heldVal (v := ?v57) 23 rfl rfl (by kernel_rfl) (by kernel_rfl) (by kernel_rfl) (fun _ _ _ h => h) (by rfl) (fun w hSw => ?hy57) (by assumption) ?_
              case hy57 => ((try dsimp only at hSw); go_simp; (try with_reducible rfl))
              try simp only [Act.put, List.setIfInBounds_toArray, List.set_cons_zero, List.set_cons_succ]
              refine heldCall 24 rfl rfl (by kernel_rfl) (by rfl) (fun K hK => ?_)
              go_simp
              refine (KS.out _).mono ?_
              rintro e w2 ⟨rfl, hb⟩
              have hB2 : Below W0.heap.size W0 w2 := hB1.trans (hb.mono hB1.size)
              have hS2 := HMK.out w2 hB2
              clear hb
              go_wp2_with fail
              refine hK.out _ _ ?hS (fun hHeld => ?_)
              case hS => (exact hS2)
              clear hK K
              try simp only [Act.put, List.setIfInBounds_toArray, List.set_cons_zero, List.set_cons_succ]
              refine heldCall 25 rfl rfl (by kernel_rfl) (by rfl) (fun K hK => ?_)
              go_simp
              refine (KD.out _).mono ?_
              rintro e w3 ⟨rfl, hb⟩
              have hB3 : Below W0.heap.size W0 w3 := hB2.trans (hb.mono hB2.size)
              have hS3 := HMK.out w3 hB3
              clear hb
              go_wp2_with fail
              refine hK.out _ _ ?hS (fun hHeld => ?_)
              case hS => (exact hS3)
              clear hK K
              try simp only [Act.put, List.setIfInBounds_toArray, List.set_cons_zero, List.set_cons_succ]
              refine heldVal (v := ?v58) 26 rfl rfl (by kernel_rfl) (by kernel_rfl) (by kernel_rfl) (fun _ _ _ h => h) (by rfl) (fun w hSw => ?hy58) (by assumption) ?_
              case hy58 => ((try dsimp only at hSw); go_simp; (try with_reducible rfl))
              try simp only [Act.put, List.setIfInBounds_toArray, List.set_cons_zero, List.set_cons_succ]
              refine heldVal (v := ?v59) 27 rfl rfl (by kernel_rfl) (by kernel_rfl) (by kernel_rfl) (fun _ _ _ h => h) (by rfl) (fun w hSw => ?hy59) (by assumption) ?_
              case hy59 => ((try dsimp only at hSw); go_simp; (try with_reducible rfl))
              try simp only [Act.put, List.setIfInBounds_toArray, List.set_cons_zero, List.set_cons_succ]
              refine heldVal (v := ?v60) 28 rfl rfl (by kernel_rfl) (by kernel_rfl) (by kernel_rfl) (fun _ _ _ h => h) (by rfl) (fun w hSw => ?hy60) (by assumption) ?_
              case hy60 => ((try dsimp only at hSw); go_simp; (try with_reducible rfl))
              try simp only [Act.put, List.setIfInBounds_toArray, List.set_cons_zero, List.set_cons_succ]
              refine heldVal (v := ?v61) 29 rfl rfl (by kernel_rfl) (by kernel_rfl) (by kernel_rfl) (fun _ _ _ h => h) (by rfl) (fun w hSw => ?hy61) (by assumption) ?_
              case hy61 => ((try dsimp only at hSw); go_simp; (try with_reducible rfl))
              try simp only [Act.put, List.setIfInBounds_toArray, List.set_cons_zero, List.set_cons_succ]
              refine heldVal (v := ?v62) 30 rfl rfl (by kernel_rfl) (by kernel_rfl) (by kernel_rfl) (fun _ _ _ h => h) (by rfl) (fun w hSw => ?hy62) (by assumption) ?_
              case hy62 => ((try dsimp only at hSw); go_simp; (try with_reducible rfl))
              try simp only [Act.put, List.setIfInBounds_toArray, List.set_cons_zero, List.set_cons_succ]
              refine heldVal (v := ?v63) 31 rfl rfl (by kernel_rfl) (by kernel_rfl) (by kernel_rfl) (fun _ _ _ h => h) (by rfl) (fun w hSw => ?hy63) (by assumption) ?_
              case hy63 => ((try dsimp only at hSw); go_simp; (try with_reducible rfl))
              try simp only [Act.put, List.setIfInBounds_toArray, List.set_cons_zero, List.set_cons_succ]
              refine heldVal (v := ?v64) 32 rfl rfl (by kernel_rfl) (by kernel_rfl) (by kernel_rfl) (fun _ _ _ h => h) (by rfl) (fun w hSw => ?hy64) (by assumption) ?_
              case hy64 => ((try dsimp only at hSw); go_simp; (try with_reducible rfl))
              try simp only [Act.put, List.setIfInBounds_toArray, List.set_cons_zero, List.set_cons_succ]
              refine heldVal (v := ?v65) 33 rfl rfl (by kernel_rfl) (by kernel_rfl) (by kernel_rfl) (fun _ _ _ h => h) (by rfl) (fun w hSw => ?hy65) (by assumption) ?_
              case hy65 => ((try dsimp only at hSw); go_simp; (try with_reducible rfl))
              try simp only [Act.put, List.setIfInBounds_toArray, List.set_cons_zero, List.set_cons_succ]
              refine heldVal (v := ?v66) 34 rfl rfl (by kernel_rfl) (by kernel_rfl) (by kernel_rfl) (fun _ _ _ h => h) (by rfl) (fun w hSw => ?hy66) (by assumption) ?_
              case hy66 => ((try dsimp only at hSw); go_simp; (try with_reducible rfl))
              try simp only [Act.put, List.setIfInBounds_toArray, List.set_cons_zero, List.set_cons_succ]
              refine heldVal (v := ?v67) 35 rfl rfl (by kernel_rfl) (by kernel_rfl) (by kernel_rfl) (fun _ _ _ h => h) (by rfl) (fun w hSw => ?hy67) (by assumption) ?_
              case hy67 => ((try dsimp only at hSw); go_simp; (try with_reducible rfl))
              try simp only [Act.put, List.setIfInBounds_toArray, List.set_cons_zero, List.set_cons_succ]
              refine heldCall 36 rfl rfl (by kernel_rfl) (by rfl) (fun K hK => ?_)
              go_simp
              refine (KON.out _).mono ?_
              rintro e w4 ⟨rfl, hb⟩
              have hB4 : Below W0.heap.size W0 w4 := hB3.trans (hb.mono hB3.size)
              have hS4 := HMK.out w4 hB4
              clear hb
              go_wp2_with fail
              refine hK.out _ _ ?hS (fun hHeld => ?_)
              case hS => (exact hS4)
              clear hK K
              try simp only [Act.put, List.setIfInBounds_toArray, List.set_cons_zero, List.set_cons_succ]
              refine heldVal (v := ?v68) 37 rfl rfl (by kernel_rfl) (by kernel_rfl) (by kernel_rfl) (fun _ _ _ h => h) (by rfl) (fun w hSw => ?hy68) (by assumption) ?_
              case hy68 => ((try dsimp only at hSw); go_simp; (try with_reducible rfl))
              try simp only [Act.put, List.setIfInBounds_toArray, List.set_cons_zero, List.set_cons_succ]
              refine heldVal (v := ?v69) 38 rfl rfl (by kernel_rfl) (by kernel_rfl) (by kernel_rfl) (fun _ _ _ h => h) (by rfl) (fun w hSw => ?hy69) (by assumption) ?_
              case hy69 => ((try dsimp only at hSw); go_simp; (try with_reducible rfl))
              try simp only [Act.put, List.setIfInBounds_toArray, List.set_cons_zero, List.set_cons_succ]
              refine wpAnyH_done (by kernel_rfl) ?_ _
              have HBX := Lib.hid (HB0.out.trans (hB4.mono HB0.out.size))
              go_wp2
              go_ret
              exact ⟨rfl, HBX.out⟩
            · have KA1 := Lib.hid (KH1.out a1)
              have KA2 := Lib.hid (KH2.out a2)
              have KA3 := Lib.hid (KH3.out a3)
              generalize inM c.h a1 = g1 at *
              generalize inM c.m a2 = g2 at *
              generalize inM c.s a3 = g3 at *
              clear KH1 KH2 KH3
              unfold clV clC
              unfold clC at hW0
              go_enter Tryd.func13, Tryd.ntmps13
              go_wp2_with fail
              try rw [hW0]
              clear hW0
              refine wp_region_held_drew (S := fun X => Below W0.heap.size W0 X ∧ X.heap[w.heap.size]? = some (.cells (clC c) 28 (0, 0)) ∧ X.cell? ⟨w.heap.size, 25, none⟩ = some (.int .i64 c.u) ∧ X.cell? ⟨w.heap.size, 26, none⟩ = some (.int .i64 c.st) ∧ X.cell? ⟨w.heap.size, 27, none⟩ = some (.int .i64 c.an) ∧ X.cell? ⟨w.heap.size, 28, none⟩ = some (.int .i64 c.fr) ∧ X.cell? ⟨w.heap.size, 29, none⟩ = some (.int .i64 c.un)) (by kernel_rfl) HS (fun hHeld => ?_)
              refine heldVal (v := ?v70) 0 rfl rfl (by kernel_rfl) (by kernel_rfl) (by kernel_rfl) (fun _ _ _ h => h) (by rfl) (fun w hSw => ?hy70) (by assumption) ?_
              case hy70 => ((try dsimp only at hSw); go_simp; (try with_reducible rfl))
              try simp only [Act.put, List.setIfInBounds_toArray, List.set_cons_zero, List.set_cons_succ]
              refine heldCall 1 rfl rfl (by kernel_rfl) (by rfl) (fun K hK => ?_)
              go_simp
              refine (KI.out _).mono ?_
              rintro e wx ⟨rfl, rfl⟩
              go_wp2_with fail
              refine hK.out _ _ ?hS (fun hHeld => ?_)
              case hS => (exact HMK.out _ hB0)
              clear hK K
              try simp only [Act.put, List.setIfInBounds_toArray, List.set_cons_zero, List.set_cons_succ]
              refine heldVal (v := ?v71) 2 rfl rfl (by kernel_rfl) (by kernel_rfl) (by kernel_rfl) (fun _ _ _ h => h) (by rfl) (fun w hSw => ?hy71) (by assumption) ?_
              case hy71 => ((try dsimp only at hSw); go_simp; (try with_reducible rfl))
              try simp only [Act.put, List.setIfInBounds_toArray, List.set_cons_zero, List.set_cons_succ]
              refine heldVal (v := ?v72) 3 rfl rfl (by kernel_rfl) (by kernel_rfl) (by kernel_rfl) (fun _ _ _ h => h) (by rfl) (fun w hSw => ?hy72) (by assumption) ?_
              case hy72 => ((try dsimp only at hSw); go_simp; (try with_reducible rfl))
              try simp only [Act.put, List.setIfInBounds_toArray, List.set_cons_zero, List.set_cons_succ]
              refine heldVal 4 rfl rfl (by kernel_rfl) (by kernel_rfl) (by kernel_rfl) (fun _ _ _ h => h) (by rfl) (fun w hSw => exec_loadRow hSw.2.1 rfl rfl Tryd.underlying28 rfl (by unfold clC; kernel_rfl)) (by assumption) ?_
              try simp only [Act.put, List.setIfInBounds_toArray, List.set_cons_zero, List.set_cons_succ]
              refine heldCall 5 rfl rfl (by kernel_rfl) (by rfl) (fun K hK => ?_)
              go_simp
              refine (KM.out _).mono ?_
              rintro e w1 ⟨rfl, hb⟩
              have hB1 : Below W0.heap.size W0 w1 := hB0.trans (hb.mono hB0.size)
              have hS1 := HMK.out w1 hB1
              clear hb
              go_wp2_with fail
              refine hK.out _ _ ?hS (fun hHeld => ?_)
              case hS => (exact hS1)
              clear hK K
              try simp only [Act.put, List.setIfInBounds_toArray, List.set_cons_zero, List.set_cons_succ]
              refine heldVal (v := ?v73) 6 rfl rfl (by kernel_rfl) (by kernel_rfl) (by kernel_rfl) (fun _ _ _ h => h) (by rfl) (fun w hSw => ?hy73) (by assumption) ?_
              case hy73 => ((try dsimp only at hSw); go_simp; (try with_reducible rfl))
              try simp only [Act.put, List.setIfInBounds_toArray, List.set_cons_zero, List.set_cons_succ]
              refine heldVal (v := ?v74) 7 rfl rfl (by kernel_rfl) (by kernel_rfl) (by kernel_rfl) (fun _ _ _ h => h) (by rfl) (fun w hSw => ?hy74) (by assumption) ?_
              case hy74 => ((try dsimp only at hSw); go_simp; (try with_reducible rfl))
              try simp only [Act.put, List.setIfInBounds_toArray, List.set_cons_zero, List.set_cons_succ]
              refine heldVal (v := ?v75) 8 rfl rfl (by kernel_rfl) (by kernel_rfl) (by kernel_rfl) (fun _ _ _ h => h) (by rfl) (fun w hSw => ?hy75) (by assumption) ?_
              case hy75 => ((try dsimp only at hSw); go_simp; (try with_reducible rfl))
              try simp only [Act.put, List.setIfInBounds_toArray, List.set_cons_zero, List.set_cons_succ]
              refine heldVal (v := ?v76) 9 rfl rfl (by kernel_rfl) (by kernel_rfl) (by kernel_rfl) (fun _ _ _ h => h) (by rfl) (fun w hSw => ?hy76) (by assumption) ?_
              case hy76 => ((try dsimp only at hSw); go_simp; (try with_reducible rfl))
              try simp only [Act.put, List.setIfInBounds_toArray, List.set_cons_zero, List.set_cons_succ]
              refine heldVal (v := ?v77) 10 rfl rfl (by kernel_rfl) (by kernel_rfl) (by kernel_rfl) (fun _ _ _ h => h) (by rfl) (fun w hSw => ?hy77) (by assumption) ?_
              case hy77 => ((try dsimp only at hSw); go_simp; (try with_reducible rfl))
              try simp only [Act.put, List.setIfInBounds_toArray, List.set_cons_zero, List.set_cons_succ]
              refine heldVal (v := ?v78) 11 rfl rfl (by kernel_rfl) (by kernel_rfl) (by kernel_rfl) (fun _ _ _ h => h) (by rfl) (fun w hSw => ?hy78) (by assumption) ?_
              case hy78 => ((try dsimp only at hSw); go_simp; (try with_reducible rfl))
              try simp only [Act.put, List.setIfInBounds_toArray, List.set_cons_zero, List.set_cons_succ]
              refine heldVal (v := ?v79) 12 rfl rfl (by kernel_rfl) (by kernel_rfl) (by kernel_rfl) (fun _ _ _ h => h) (by rfl) (fun w hSw => ?hy79) (by assumption) ?_
              case hy79 => ((try dsimp only at hSw); go_simp; (try with_reducible rfl))
              try simp only [Act.put, List.setIfInBounds_toArray, List.set_cons_zero, List.set_cons_succ]
              refine heldVal (v := ?v80) 13 rfl rfl (by kernel_rfl) (by kernel_rfl) (by kernel_rfl) (fun _ _ _ h => h) (by rfl) (fun w hSw => ?hy80) (by assumption) ?_
              case hy80 => ((try dsimp only at hSw); go_simp; (try with_reducible rfl))
              try simp only [Act.put, List.setIfInBounds_toArray, List.set_cons_zero, List.set_cons_succ]
              refine heldVal (v := ?v81) 14 rfl rfl (by kernel_rfl) (by kernel_rfl) (by kernel_rfl) (fun _ _ _ h => h) (by rfl) (fun w hSw => ?hy81) (by assumption) ?_
              case hy81 => ((try dsimp only at hSw); go_simp; (try with_reducible rfl))
              try simp only [Act.put, List.setIfInBounds_toArray, List.set_cons_zero, List.set_cons_succ]
              refine heldVal (v := ?v82) 15 rfl rfl (by kernel_rfl) (by kernel_rfl) (by kernel_rfl) (fun _ _ _ h => h) (by rfl) (fun w hSw => ?hy82) (by assumption) ?_
              case hy82 => ((try dsimp only at hSw); go_simp; (try with_reducible rfl))
              try simp only [Act.put, List.setIfInBounds_toArray, List.set_cons_zero, List.set_cons_succ]
              refine heldVal (v := ?v83) 16 rfl rfl (by kernel_rfl) (by kernel_rfl) (by kernel_rfl) (fun _ _ _ h => h) (by rfl) (fun w hSw => ?hy83) (by assumption) ?_
              case hy83 => ((try dsimp only at hSw); go_simp; (try with_reducible rfl))
              try simp only [Act.put, List.setIfInBounds_toArray, List.set_cons_zero, List.set_cons_succ]
              refine heldVal (v := ?v84) 17 rfl rfl (by kernel_rfl) (by kernel_rfl) (by kernel_rfl) (fun _ _ _ h => h) (by rfl) (fun w hSw => ?hy84) (by assumption) ?_
              case hy84 => ((try dsimp only at hSw); go_simp; (try with_reducible rfl))
              try simp only [Act.put, List.setIfInBounds_toArray, List.set_cons_zero, List.set_cons_succ]
              refine heldVal (v := ?v85) 18 rfl rfl (by kernel_rfl) (by kernel_rfl) (by kernel_rfl) (fun _ _ _ h => h) (by rfl) (fun w hSw => ?hy85) (by assumption) ?_
              case hy85 => ((try dsimp only at hSw); go_simp; (try with_reducible rfl))
              try simp only [Act.put, List.setIfInBounds_toArray, List.set_cons_zero, List.set_cons_succ]
              refine heldVal (v := ?v86) 19 rfl rfl (by kernel_rfl) (by kernel_rfl) (by kernel_rfl) (fun _ _ _ h => h) (by rfl) (fun w hSw => ?hy86) (by assumption) ?_
              case hy86 => ((try dsimp only at hSw); go_simp; (try with_reducible rfl))
              try simp only [Act.put, List.setIfInBounds_toArray, List.set_cons_zero, List.set_cons_succ]
              refine heldVal (v := ?v87) 20 rfl rfl (by kernel_rfl) (by kernel_rfl) (by kernel_rfl) (fun _ _ _ h => h) (by rfl) (fun w hSw => ?hy87) (by assumption) ?_
              case hy87 => ((try dsimp only at hSw); go_simp; (try with_reducible rfl))
              try simp only [Act.put, List.setIfInBounds_toArray, List.set_cons_zero, List.set_cons_succ]
              refine heldVal 21 rfl rfl (by kernel_rfl) (by kernel_rfl) (by kernel_rfl) (fun _ _ _ h => h) (by rfl) (fun w hSw => exec_loadRow hSw.2.1 rfl rfl Tryd.underlying28 rfl (by unfold clC; kernel_rfl)) (by assumption) ?_
              try simp only [Act.put, List.setIfInBounds_toArray, List.set_cons_zero, List.set_cons_succ]
              refine heldVal (v := ?v88) 22 rfl rfl (by kernel_rfl) (by kernel_rfl) (by kernel_rfl) (fun _ _ _ h => h) (by rfl) (fun w hSw => ?hy88) (by assumption) ?_
              case hy88 => ((try dsimp only at hSw); go_simp; (try with_reducible rfl))
              try simp only [Act.put, List.setIfInBounds_toArray, List.set_cons_zero, List.set_cons_succ]
              refine heldVal (v := ?v89) 23 rfl rfl (by kernel_rfl) (by kernel_rfl) (by kernel_rfl) (fun _ _ _ h => h) (by rfl) (fun w hSw => ?hy89) (by assumption) ?_
              case hy89 => ((try dsimp only at hSw); go_simp; (try with_reducible rfl))
              try simp only [Act.put, List.setIfInBounds_toArray, List.set_cons_zero, List.set_cons_succ]
              refine heldCall 24 rfl rfl (by kernel_rfl) (by rfl) (fun K hK => ?_)
              go_simp
              refine (KS.out _).mono ?_
              rintro e w2 ⟨rfl, hb⟩
              have hB2 : Below W0.heap.size W0 w2 := hB1.trans (hb.mono hB1.size)
              have hS2 := HMK.out w2 hB2
              clear hb
              go_wp2_with fail
              refine hK.out _ _ ?hS (fun hHeld => ?_)
              case hS => (exact hS2)
              clear hK K
              try simp only [Act.put, List.setIfInBounds_toArray, List.set_cons_zero, List.set_cons_succ]
              refine heldCall 25 rfl rfl (by kernel_rfl) (by rfl) (fun K hK => ?_)
              go_simp
              refine (KD.out _).mono ?_
              rintro e w3 ⟨rfl, hb⟩
              have hB3 : Below W0.heap.size W0 w3 := hB2.trans (hb.mono hB2.size)
              have hS3 := HMK.out w3 hB3
              clear hb
              go_wp2_with fail
              refine hK.out _ _ ?hS (fun hHeld => ?_)
              case hS => (exact hS3)
              clear hK K
              try simp only [Act.put, List.setIfInBounds_toArray, List.set_cons_zero, List.set_cons_succ]
              refine heldVal (v := ?v90) 26 rfl rfl (by kernel_rfl) (by kernel_rfl) (by kernel_rfl) (fun _ _ _ h => h) (by rfl) (fun w hSw => ?hy90) (by assumption) ?_
              case hy90 => ((try dsimp only at hSw); go_simp; (try with_reducible rfl))
              try simp only [Act.put, List.setIfInBounds_toArray, List.set_cons_zero, List.set_cons_succ]
              refine heldVal (v := ?v91) 27 rfl rfl (by kernel_rfl) (by kernel_rfl) (by kernel_rfl) (fun _ _ _ h => h) (by rfl) (fun w hSw => ?hy91) (by assumption) ?_
              case hy91 => ((try dsimp only at hSw); go_simp; (try with_reducible rfl))
              try simp only [Act.put, List.setIfInBounds_toArray, List.set_cons_zero, List.set_cons_succ]
              refine heldVal (v := ?v92) 28 rfl rfl (by kernel_rfl) (by kernel_rfl) (by kernel_rfl) (fun _ _ _ h => h) (by rfl) (fun w hSw => ?hy92) (by assumption) ?_
              case hy92 => ((try dsimp only at hSw); go_simp; (try with_reducible rfl))
              try simp only [Act.put, List.setIfInBounds_toArray, List.set_cons_zero, List.set_cons_succ]
              refine heldVal (v := ?v93) 29 rfl rfl (by kernel_rfl) (by kernel_rfl) (by kernel_rfl) (fun _ _ _ h => h) (by rfl) (fun w hSw => ?hy93) (by assumption) ?_
              case hy93 => ((try dsimp only at hSw); go_simp; (try with_reducible rfl))
              try simp only [Act.put, List.setIfInBounds_toArray, List.set_cons_zero, List.set_cons_succ]
              refine heldVal (v := ?v94) 30 rfl rfl (by kernel_rfl) (by kernel_rfl) (by kernel_rfl) (fun _ _ _ h => h) (by rfl) (fun w hSw => ?hy94) (by assumption) ?_
              case hy94 => ((try dsimp only at hSw); go_simp; (try with_reducible rfl))
              try simp only [Act.put, List.setIfInBounds_toArray, List.set_cons_zero, List.set_cons_succ]
              refine heldVal (v := ?v95) 31 rfl rfl (by kernel_rfl) (by kernel_rfl) (by kernel_rfl) (fun _ _ _ h => h) (by rfl) (fun w hSw => ?hy95) (by assumption) ?_
              case hy95 => ((try dsimp only at hSw); go_simp; (try with_reducible rfl))
              try simp only [Act.put, List.setIfInBounds_toArray, List.set_cons_zero, List.set_cons_succ]
              refine heldVal (v := ?v96) 32 rfl rfl (by kernel_rfl) (by kernel_rfl) (by kernel_rfl) (fun _ _ _ h => h) (by rfl) (fun w hSw => ?hy96) (by assumption) ?_
              case hy96 => ((try dsimp only at hSw); go_simp; (try with_reducible rfl))
              try simp only [Act.put, List.setIfInBounds_toArray, List.set_cons_zero, List.set_cons_succ]
              refine heldVal (v := ?v97) 33 rfl rfl (by kernel_rfl) (by kernel_rfl) (by kernel_rfl) (fun _ _ _ h => h) (by rfl) (fun w hSw => ?hy97) (by assumption) ?_
              case hy97 => ((try dsimp only at hSw); go_simp; (try with_reducible rfl))
              try simp only [Act.put, List.setIfInBounds_toArray, List.set_cons_zero, List.set_cons_succ]
              refine heldVal (v := ?v98) 34 rfl rfl (by kernel_rfl) (by kernel_rfl) (by kernel_rfl) (fun _ _ _ h => h) (by rfl) (fun w hSw => ?hy98) (by assumption) ?_
              case hy98 => ((try dsimp only at hSw); go_simp; (try with_reducible rfl))
              try simp only [Act.put, List.setIfInBounds_toArray, List.set_cons_zero, List.set_cons_succ]
              refine heldVal (v := ?v99) 35 rfl rfl (by kernel_rfl) (by kernel_rfl) (by kernel_rfl) (fun _ _ _ h => h) (by rfl) (fun w hSw => ?hy99) (by assumption) ?_
              case hy99 => ((try dsimp only at hSw); go_simp; (try with_reducible rfl))
              try simp only [Act.put, List.setIfInBounds_toArray, List.set_cons_zero, List.set_cons_succ]
              refine heldCall 36 rfl rfl (by kernel_rfl) (by rfl) (fun K hK => ?_)
              go_simp
              refine (KON.out _).mono ?_
              rintro e w4 ⟨rfl, hb⟩
              have hB4 : Below W0.heap.size W0 w4 := hB3.trans (hb.mono hB3.size)
              have hS4 := HMK.out w4 hB4
              clear hb
              go_wp2_with fail
              refine hK.out _ _ ?hS (fun hHeld => ?_)
              case hS => (exact hS4)
              clear hK K
              try simp only [Act.put, List.setIfInBounds_toArray, List.set_cons_zero, List.set_cons_succ]
              refine heldVal (v := ?v100) 37 rfl rfl (by kernel_rfl) (by kernel_rfl) (by kernel_rfl) (fun _ _ _ h => h) (by rfl) (fun w hSw => ?hy100) (by assumption) ?_
              case hy100 => ((try dsimp only at hSw); go_simp; (try with_reducible rfl))
              try simp only [Act.put, List.setIfInBounds_toArray, List.set_cons_zero, List.set_cons_succ]
              refine heldVal (v := ?v101) 38 rfl rfl (by kernel_rfl) (by kernel_rfl) (by kernel_rfl) (fun _ _ _ h => h) (by rfl) (fun w hSw => ?hy101) (by assumption) ?_
              case hy101 => ((try dsimp only at hSw); go_simp; (try with_reducible rfl))
              try simp only [Act.put, List.setIfInBounds_toArray, List.set_cons_zero, List.set_cons_succ]
              refine wpAnyH_done (by kernel_rfl) ?_ _
              have HC3 := Lib.hid (HC0.out.below hB4)
              have HBX := Lib.hid (HB0.out.trans (hB4.mono HB0.out.size))
              clear hS1 hS2 hS3 hS4
              obtain ⟨x0, x1, x2, x3, x4, x5, x6⟩ := HC3.out.masks
              clear x3 x4 x5 x6
              go_wp2_with fail
              refine (KA1.out _).mono ?_
              rintro e wy ⟨rfl, rfl⟩
              cases g1
              · go_wp2
                go_ret
                exact ⟨rfl, HBX.out⟩
              go_wp2_with fail
              refine (KA2.out _).mono ?_
              rintro e wy ⟨rfl, rfl⟩
              cases g2
              · go_wp2
                go_ret
                exact ⟨rfl, HBX.out⟩
              go_wp2_with fail
              refine (KA3.out _).mono ?_
              rintro e wy ⟨rfl, rfl⟩
              go_wp2
              go_ret
              exact ⟨rfl, HBX.out⟩
        · have d2 : decide (c.un < t) = true := dec_t (by omega)
          rw [dec_n hu]
          clear hu KON KH1 KH2 KH3 KS KD
          unfold clV clC
          unfold clC at hW0
          go_enter Tryd.func13, Tryd.ntmps13
          go_wp2_with fail
          try rw [hW0]
          clear hW0
          refine wp_region_held_drew (S := fun X => Below W0.heap.size W0 X ∧ X.heap[w.heap.size]? = some (.cells (clC c) 28 (0, 0)) ∧ X.cell? ⟨w.heap.size, 25, none⟩ = some (.int .i64 c.u) ∧ X.cell? ⟨w.heap.size, 26, none⟩ = some (.int .i64 c.st) ∧ X.cell? ⟨w.heap.size, 27, none⟩ = some (.int .i64 c.an) ∧ X.cell? ⟨w.heap.size, 28, none⟩ = some (.int .i64 c.fr) ∧ X.cell? ⟨w.heap.size, 29, none⟩ = some (.int .i64 c.un)) (by kernel_rfl) HS (fun hHeld => ?_)
          refine heldVal (v := ?v102) 0 rfl rfl (by kernel_rfl) (by kernel_rfl) (by kernel_rfl) (fun _ _ _ h => h) (by rfl) (fun w hSw => ?hy102) (by assumption) ?_
          case hy102 => ((try dsimp only at hSw); go_simp; (try with_reducible rfl))
          try simp only [Act.put, List.setIfInBounds_toArray, List.set_cons_zero, List.set_cons_succ]
          refine heldCall 1 rfl rfl (by kernel_rfl) (by rfl) (fun K hK => ?_)
          go_simp
          refine (KI.out _).mono ?_
          rintro e wx ⟨rfl, rfl⟩
          go_wp2_with fail
          refine hK.out _ _ ?hS (fun hHeld => ?_)
          case hS => (exact HMK.out _ hB0)
          clear hK K
          try simp only [Act.put, List.setIfInBounds_toArray, List.set_cons_zero, List.set_cons_succ]
          refine heldVal (v := ?v103) 2 rfl rfl (by kernel_rfl) (by kernel_rfl) (by kernel_rfl) (fun _ _ _ h => h) (by rfl) (fun w hSw => ?hy103) (by assumption) ?_
          case hy103 => ((try dsimp only at hSw); go_simp; (try with_reducible rfl))
          try simp only [Act.put, List.setIfInBounds_toArray, List.set_cons_zero, List.set_cons_succ]
          refine heldVal (v := ?v104) 3 rfl rfl (by kernel_rfl) (by kernel_rfl) (by kernel_rfl) (fun _ _ _ h => h) (by rfl) (fun w hSw => ?hy104) (by assumption) ?_
          case hy104 => ((try dsimp only at hSw); go_simp; (try with_reducible rfl))
          try simp only [Act.put, List.setIfInBounds_toArray, List.set_cons_zero, List.set_cons_succ]
          refine heldVal 4 rfl rfl (by kernel_rfl) (by kernel_rfl) (by kernel_rfl) (fun _ _ _ h => h) (by rfl) (fun w hSw => exec_loadRow hSw.2.1 rfl rfl Tryd.underlying28 rfl (by unfold clC; kernel_rfl)) (by assumption) ?_
          try simp only [Act.put, List.setIfInBounds_toArray, List.set_cons_zero, List.set_cons_succ]
          refine heldCall 5 rfl rfl (by kernel_rfl) (by rfl) (fun K hK => ?_)
          go_simp
          refine (KM.out _).mono ?_
          rintro e w1 ⟨rfl, hb⟩
          have hB1 : Below W0.heap.size W0 w1 := hB0.trans (hb.mono hB0.size)
          have hS1 := HMK.out w1 hB1
          clear hb
          go_wp2_with fail
          refine hK.out _ _ ?hS (fun hHeld => ?_)
          case hS => (exact hS1)
          clear hK K
          try simp only [Act.put, List.setIfInBounds_toArray, List.set_cons_zero, List.set_cons_succ]
          refine heldVal (v := ?v105) 6 rfl rfl (by kernel_rfl) (by kernel_rfl) (by kernel_rfl) (fun _ _ _ h => h) (by rfl) (fun w hSw => ?hy105) (by assumption) ?_
          case hy105 => ((try dsimp only at hSw); go_simp; (try with_reducible rfl))
          try simp only [Act.put, List.setIfInBounds_toArray, List.set_cons_zero, List.set_cons_succ]
          refine heldVal (v := ?v106) 7 rfl rfl (by kernel_rfl) (by kernel_rfl) (by kernel_rfl) (fun _ _ _ h => h) (by rfl) (fun w hSw => ?hy106) (by assumption) ?_
          case hy106 => ((try dsimp only at hSw); go_simp; (try with_reducible rfl))
          try simp only [Act.put, List.setIfInBounds_toArray, List.set_cons_zero, List.set_cons_succ]
          refine heldVal (v := ?v107) 8 rfl rfl (by kernel_rfl) (by kernel_rfl) (by kernel_rfl) (fun _ _ _ h => h) (by rfl) (fun w hSw => ?hy107) (by assumption) ?_
          case hy107 => ((try dsimp only at hSw); go_simp; (try with_reducible rfl))
          try simp only [Act.put, List.setIfInBounds_toArray, List.set_cons_zero, List.set_cons_succ]
          refine heldVal (v := ?v108) 9 rfl rfl (by kernel_rfl) (by kernel_rfl) (by kernel_rfl) (fun _ _ _ h => h) (by rfl) (fun w hSw => ?hy108) (by assumption) ?_
          case hy108 => ((try dsimp only at hSw); go_simp; (try with_reducible rfl))
          try simp only [Act.put, List.setIfInBounds_toArray, List.set_cons_zero, List.set_cons_succ]
          refine heldVal (v := ?v109) 10 rfl rfl (by kernel_rfl) (by kernel_rfl) (by kernel_rfl) (fun _ _ _ h => h) (by rfl) (fun w hSw => ?hy109) (by assumption) ?_
          case hy109 => ((try dsimp only at hSw); go_simp; (try with_reducible rfl))
          try simp only [Act.put, List.setIfInBounds_toArray, List.set_cons_zero, List.set_cons_succ]
          refine heldVal (v := ?v110) 11 rfl rfl (by kernel_rfl) (by kernel_rfl) (by kernel_rfl) (fun _ _ _ h => h) (by rfl) (fun w hSw => ?hy110) (by assumption) ?_
          case hy110 => ((try dsimp only at hSw); go_simp; (try with_reducible rfl))
          try simp only [Act.put, List.setIfInBounds_toArray, List.set_cons_zero, List.set_cons_succ]
          refine heldVal (v := ?v111) 12 rfl rfl (by kernel_rfl) (by kernel_rfl) (by kernel_rfl) (fun _ _ _ h => h) (by rfl) (fun w hSw => ?hy111) (by assumption) ?_
          case hy111 => ((try dsimp only at hSw); go_simp; (try with_reducible rfl))
          try simp only [Act.put, List.setIfInBounds_toArray, List.set_cons_zero, List.set_cons_succ]
          refine heldVal (v := ?v112) 13 rfl rfl (by kernel_rfl) (by kernel_rfl) (by kernel_rfl) (fun _ _ _ h => h) (by rfl) (fun w hSw => ?hy112) (by assumption) ?_
          case hy112 => ((try dsimp only at hSw); go_simp; (try with_reducible rfl))
          try simp only [Act.put, List.setIfInBounds_toArray, List.set_cons_zero, List.set_cons_succ]
          refine heldVal (v := ?v113) 14 rfl rfl (by kernel_rfl) (by kernel_rfl) (by kernel_rfl) (fun _ _ _ h => h) (by rfl) (fun w hSw => ?hy113) (by assumption) ?_
          case hy113 => ((try dsimp only at hSw); go_simp; (try with_reducible rfl))
          try simp only [Act.put, List.setIfInBounds_toArray, List.set_cons_zero, List.set_cons_succ]
          refine heldVal (v := ?v114) 15 rfl rfl (by kernel_rfl) (by kernel_rfl) (by kernel_rfl) (fun _ _ _ h => h) (by rfl) (fun w hSw => ?hy114) (by assumption) ?_
          case hy114 => ((try dsimp only at hSw); go_simp; (try with_reducible rfl))
          try simp only [Act.put, List.setIfInBounds_toArray, List.set_cons_zero, List.set_cons_succ]
          refine heldVal (v := ?v115) 16 rfl rfl (by kernel_rfl) (by kernel_rfl) (by kernel_rfl) (fun _ _ _ h => h) (by rfl) (fun w hSw => ?hy115) (by assumption) ?_
          case hy115 => ((try dsimp only at hSw); go_simp; (try with_reducible rfl))
          try simp only [Act.put, List.setIfInBounds_toArray, List.set_cons_zero, List.set_cons_succ]
          refine heldVal (v := ?v116) 17 rfl rfl (by kernel_rfl) (by kernel_rfl) (by kernel_rfl) (fun _ _ _ h => h) (by rfl) (fun w hSw => ?hy116) (by assumption) ?_
          case hy116 => ((try dsimp only at hSw); go_simp; (try with_reducible rfl))
          try simp only [Act.put, List.setIfInBounds_toArray, List.set_cons_zero, List.set_cons_succ]
          refine heldVal (v := ?v117) 18 rfl rfl (by kernel_rfl) (by kernel_rfl) (by kernel_rfl) (fun _ _ _ h => h) (by rfl) (fun w hSw => ?hy117) (by assumption) ?_
          case hy117 => ((try dsimp only at hSw); go_simp; (try with_reducible rfl))
          try simp only [Act.put, List.setIfInBounds_toArray, List.set_cons_zero, List.set_cons_succ]
          refine heldVal (v := ?v118) 19 rfl rfl (by kernel_rfl) (by kernel_rfl) (by kernel_rfl) (fun _ _ _ h => h) (by rfl) (fun w hSw => ?hy118) (by assumption) ?_
          case hy118 => ((try dsimp only at hSw); go_simp; (try with_reducible rfl))
          try simp only [Act.put, List.setIfInBounds_toArray, List.set_cons_zero, List.set_cons_succ]
          refine heldVal (v := ?v119) 20 rfl rfl (by kernel_rfl) (by kernel_rfl) (by kernel_rfl) (fun _ _ _ h => h) (by rfl) (fun w hSw => ?hy119) (by assumption) ?_
          case hy119 => ((try dsimp only at hSw); go_simp; (try with_reducible rfl))
          try simp only [Act.put, List.setIfInBounds_toArray, List.set_cons_zero, List.set_cons_succ]
          refine heldSkip 21 rfl rfl (by kernel_rfl) (by kernel_rfl) (by kernel_rfl) (fun _ _ _ h => h) (by rfl) (by assumption) ?_
          try simp only [Act.put, List.setIfInBounds_toArray, List.set_cons_zero, List.set_cons_succ]
          refine heldSkip 22 rfl rfl (by kernel_rfl) (by kernel_rfl) (by kernel_rfl) (fun _ _ _ h => h) (by rfl) (by assumption) ?_
          try simp only [Act.put, List.setIfInBounds_toArray, List.set_cons_zero, List.set_cons_succ]
          refine heldSkip 23 rfl rfl (by kernel_rfl) (by kernel_rfl) (by kernel_rfl) (fun _ _ _ h => h) (by rfl) (by assumption) ?_
          try simp only [Act.put, List.setIfInBounds_toArray, List.set_cons_zero, List.set_cons_succ]
          refine heldSkip 24 rfl rfl (by kernel_rfl) (by kernel_rfl) (by kernel_rfl) (fun _ _ _ h => h) (by rfl) (by assumption) ?_
          try simp only [Act.put, List.setIfInBounds_toArray, List.set_cons_zero, List.set_cons_succ]
          refine heldSkip 25 rfl rfl (by kernel_rfl) (by kernel_rfl) (by kernel_rfl) (fun _ _ _ h => h) (by rfl) (by assumption) ?_
          try simp only [Act.put, List.setIfInBounds_toArray, List.set_cons_zero, List.set_cons_succ]
          refine heldSkip 26 rfl rfl (by kernel_rfl) (by kernel_rfl) (by kernel_rfl) (fun _ _ _ h => h) (by rfl) (by assumption) ?_
          try simp only [Act.put, List.setIfInBounds_toArray, List.set_cons_zero, List.set_cons_succ]
          refine heldVal (v := ?v120) 27 rfl rfl (by kernel_rfl) (by kernel_rfl) (by kernel_rfl) (fun _ _ _ h => h) (by rfl) (fun w hSw => ?hy120) (by assumption) ?_
          case hy120 => ((try dsimp only at hSw); go_simp; (try with_reducible rfl))
          try simp only [Act.put, List.setIfInBounds_toArray, List.set_cons_zero, List.set_cons_succ]
          refine heldVal (v := ?v121) 28 rfl rfl (by kernel_rfl) (by kernel_rfl) (by kernel_rfl) (fun _ _ _ h => h) (by rfl) (fun w hSw => ?hy121) (by assumption) ?_
          case hy121 => ((try dsimp only at hSw); go_simp; (try with_reducible rfl))
          try simp only [Act.put, List.setIfInBounds_toArray, List.set_cons_zero, List.set_cons_succ]
          refine heldSkip 29 rfl rfl (by kernel_rfl) (by kernel_rfl) (by kernel_rfl) (fun _ _ _ h => h) (by rfl) (by assumption) ?_
          try simp only [Act.put, List.setIfInBounds_toArray, List.set_cons_zero, List.set_cons_succ]
          refine heldSkip 30 rfl rfl (by kernel_rfl) (by kernel_rfl) (by kernel_rfl) (fun _ _ _ h => h) (by rfl) (by assumption) ?_
          try simp only [Act.put, List.setIfInBounds_toArray, List.set_cons_zero, List.set_cons_succ]
          refine heldSkip 31 rfl rfl (by kernel_rfl) (by kernel_rfl) (by kernel_rfl) (fun _ _ _ h => h) (by rfl) (by assumption) ?_
          try simp only [Act.put, List.setIfInBounds_toArray, List.set_cons_zero, List.set_cons_succ]
          refine heldSkip 32 rfl rfl (by kernel_rfl) (by kernel_rfl) (by kernel_rfl) (fun _ _ _ h => h) (by rfl) (by assumption) ?_
          try simp only [Act.put, List.setIfInBounds_toArray, List.set_cons_zero, List.set_cons_succ]
          refine heldSkip 33 rfl rfl (by kernel_rfl) (by kernel_rfl) (by kernel_rfl) (fun _ _ _ h => h) (by rfl) (by assumption) ?_
          try simp only [Act.put, List.setIfInBounds_toArray, List.set_cons_zero, List.set_cons_succ]
          refine heldSkip 34 rfl rfl (by kernel_rfl) (by kernel_rfl) (by kernel_rfl) (fun _ _ _ h => h) (by rfl) (by assumption) ?_
          try simp only [Act.put, List.setIfInBounds_toArray, List.set_cons_zero, List.set_cons_succ]
          refine heldSkip 35 rfl rfl (by kernel_rfl) (by kernel_rfl) (by kernel_rfl) (fun _ _ _ h => h) (by rfl) (by assumption) ?_
          try simp only [Act.put, List.setIfInBounds_toArray, List.set_cons_zero, List.set_cons_succ]
          refine heldSkip 36 rfl rfl (by kernel_rfl) (by kernel_rfl) (by kernel_rfl) (fun _ _ _ h => h) (by rfl) (by assumption) ?_
          try simp only [Act.put, List.setIfInBounds_toArray, List.set_cons_zero, List.set_cons_succ]
          refine heldSkip 37 rfl rfl (by kernel_rfl) (by kernel_rfl) (by kernel_rfl) (fun _ _ _ h => h) (by rfl) (by assumption) ?_
          try simp only [Act.put, List.setIfInBounds_toArray, List.set_cons_zero, List.set_cons_succ]
          refine heldVal (v := ?v122) 38 rfl rfl (by kernel_rfl) (by kernel_rfl) (by kernel_rfl) (fun _ _ _ h => h) (by rfl) (fun w hSw => ?hy122) (by assumption) ?_
          case hy122 => ((try dsimp only at hSw); go_simp; (try with_reducible rfl))
          try simp only [Act.put, List.setIfInBounds_toArray, List.set_cons_zero, List.set_cons_succ]
          refine wpAnyH_done (by kernel_rfl) ?_ _
          have HBX := Lib.hid (HB0.out.trans (hB1.mono HB0.out.size))
          go_wp2
          go_ret
          exact ⟨rfl, HBX.out⟩
      · have d1 : decide (t < c.fr) = true := dec_t (by omega)
        rw [dec_n hf]
        clear hf KON KH1 KH2 KH3 KS KD
        unfold clV clC
        unfold clC at hW0
        go_enter Tryd.func13, Tryd.ntmps13
        go_wp2_with fail
        try rw [hW0]
        clear hW0
        refine wp_region_held_drew (S := fun X => Below W0.heap.size W0 X ∧ X.heap[w.heap.size]? = some (.cells (clC c) 28 (0, 0)) ∧ X.cell? ⟨w.heap.size, 25, none⟩ = some (.int .i64 c.u) ∧ X.cell? ⟨w.heap.size, 26, none⟩ = some (.int .i64 c.st) ∧ X.cell? ⟨w.heap.size, 27, none⟩ = some (.int .i64 c.an) ∧ X.cell? ⟨w.heap.size, 28, none⟩ = some (.int .i64 c.fr) ∧ X.cell? ⟨w.heap.size, 29, none⟩ = some (.int .i64 c.un)) (by kernel_rfl) HS (fun hHeld => ?_)
        refine heldVal (v := ?v123) 0 rfl rfl (by kernel_rfl) (by kernel_rfl) (by kernel_rfl) (fun _ _ _ h => h) (by rfl) (fun w hSw => ?hy123) (by assumption) ?_
        case hy123 => ((try dsimp only at hSw); go_simp; (try with_reducible rfl))
        try simp only [Act.put, List.setIfInBounds_toArray, List.set_cons_zero, List.set_cons_succ]
        refine heldCall 1 rfl rfl (by kernel_rfl) (by rfl) (fun K hK => ?_)
        go_simp
        refine (KI.out _).mono ?_
        rintro e wx ⟨rfl, rfl⟩
        go_wp2_with fail
        refine hK.out _ _ ?hS (fun hHeld => ?_)
        case hS => (exact HMK.out _ hB0)
        clear hK K
        try simp only [Act.put, List.setIfInBounds_toArray, List.set_cons_zero, List.set_cons_succ]
        refine heldVal (v := ?v124) 2 rfl rfl (by kernel_rfl) (by kernel_rfl) (by kernel_rfl) (fun _ _ _ h => h) (by rfl) (fun w hSw => ?hy124) (by assumption) ?_
        case hy124 => ((try dsimp only at hSw); go_simp; (try with_reducible rfl))
        try simp only [Act.put, List.setIfInBounds_toArray, List.set_cons_zero, List.set_cons_succ]
        refine heldVal (v := ?v125) 3 rfl rfl (by kernel_rfl) (by kernel_rfl) (by kernel_rfl) (fun _ _ _ h => h) (by rfl) (fun w hSw => ?hy125) (by assumption) ?_
        case hy125 => ((try dsimp only at hSw); go_simp; (try with_reducible rfl))
        try simp only [Act.put, List.setIfInBounds_toArray, List.set_cons_zero, List.set_cons_succ]
        refine heldVal 4 rfl rfl (by kernel_rfl) (by kernel_rfl) (by kernel_rfl) (fun _ _ _ h => h) (by rfl) (fun w hSw => exec_loadRow hSw.2.1 rfl rfl Tryd.underlying28 rfl (by unfold clC; kernel_rfl)) (by assumption) ?_
        try simp only [Act.put, List.setIfInBounds_toArray, List.set_cons_zero, List.set_cons_succ]
        refine heldCall 5 rfl rfl (by kernel_rfl) (by rfl) (fun K hK => ?_)
        go_simp
        refine (KM.out _).mono ?_
        rintro e w1 ⟨rfl, hb⟩
        have hB1 : Below W0.heap.size W0 w1 := hB0.trans (hb.mono hB0.size)
        have hS1 := HMK.out w1 hB1
        clear hb
        go_wp2_with fail
        refine hK.out _ _ ?hS (fun hHeld => ?_)
        case hS => (exact hS1)
        clear hK K
        try simp only [Act.put, List.setIfInBounds_toArray, List.set_cons_zero, List.set_cons_succ]
        refine heldVal (v := ?v126) 6 rfl rfl (by kernel_rfl) (by kernel_rfl) (by kernel_rfl) (fun _ _ _ h => h) (by rfl) (fun w hSw => ?hy126) (by assumption) ?_
        case hy126 => ((try dsimp only at hSw); go_simp; (try with_reducible rfl))
        try simp only [Act.put, List.setIfInBounds_toArray, List.set_cons_zero, List.set_cons_succ]
        refine heldVal (v := ?v127) 7 rfl rfl (by kernel_rfl) (by kernel_rfl) (by kernel_rfl) (fun _ _ _ h => h) (by rfl) (fun w hSw => ?hy127) (by assumption) ?_
        case hy127 => ((try dsimp only at hSw); go_simp; (try with_reducible rfl))
        try simp only [Act.put, List.setIfInBounds_toArray, List.set_cons_zero, List.set_cons_succ]
        refine heldVal (v := ?v128) 8 rfl rfl (by kernel_rfl) (by kernel_rfl) (by kernel_rfl) (fun _ _ _ h => h) (by rfl) (fun w hSw => ?hy128) (by assumption) ?_
        case hy128 => ((try dsimp only at hSw); go_simp; (try with_reducible rfl))
        try simp only [Act.put, List.setIfInBounds_toArray, List.set_cons_zero, List.set_cons_succ]
        refine heldVal (v := ?v129) 9 rfl rfl (by kernel_rfl) (by kernel_rfl) (by kernel_rfl) (fun _ _ _ h => h) (by rfl) (fun w hSw => ?hy129) (by assumption) ?_
        case hy129 => ((try dsimp only at hSw); go_simp; (try with_reducible rfl))
        try simp only [Act.put, List.setIfInBounds_toArray, List.set_cons_zero, List.set_cons_succ]
        refine heldVal (v := ?v130) 10 rfl rfl (by kernel_rfl) (by kernel_rfl) (by kernel_rfl) (fun _ _ _ h => h) (by rfl) (fun w hSw => ?hy130) (by assumption) ?_
        case hy130 => ((try dsimp only at hSw); go_simp; (try with_reducible rfl))
        try simp only [Act.put, List.setIfInBounds_toArray, List.set_cons_zero, List.set_cons_succ]
        refine heldVal (v := ?v131) 11 rfl rfl (by kernel_rfl) (by kernel_rfl) (by kernel_rfl) (fun _ _ _ h => h) (by rfl) (fun w hSw => ?hy131) (by assumption) ?_
        case hy131 => ((try dsimp only at hSw); go_simp; (try with_reducible rfl))
        try simp only [Act.put, List.setIfInBounds_toArray, List.set_cons_zero, List.set_cons_succ]
        refine heldVal (v := ?v132) 12 rfl rfl (by kernel_rfl) (by kernel_rfl) (by kernel_rfl) (fun _ _ _ h => h) (by rfl) (fun w hSw => ?hy132) (by assumption) ?_
        case hy132 => ((try dsimp only at hSw); go_simp; (try with_reducible rfl))
        try simp only [Act.put, List.setIfInBounds_toArray, List.set_cons_zero, List.set_cons_succ]
        refine heldVal (v := ?v133) 13 rfl rfl (by kernel_rfl) (by kernel_rfl) (by kernel_rfl) (fun _ _ _ h => h) (by rfl) (fun w hSw => ?hy133) (by assumption) ?_
        case hy133 => ((try dsimp only at hSw); go_simp; (try with_reducible rfl))
        try simp only [Act.put, List.setIfInBounds_toArray, List.set_cons_zero, List.set_cons_succ]
        refine heldVal (v := ?v134) 14 rfl rfl (by kernel_rfl) (by kernel_rfl) (by kernel_rfl) (fun _ _ _ h => h) (by rfl) (fun w hSw => ?hy134) (by assumption) ?_
        case hy134 => ((try dsimp only at hSw); go_simp; (try with_reducible rfl))
        try simp only [Act.put, List.setIfInBounds_toArray, List.set_cons_zero, List.set_cons_succ]
        refine heldSkip 15 rfl rfl (by kernel_rfl) (by kernel_rfl) (by kernel_rfl) (fun _ _ _ h => h) (by rfl) (by assumption) ?_
        try simp only [Act.put, List.setIfInBounds_toArray, List.set_cons_zero, List.set_cons_succ]
        refine heldSkip 16 rfl rfl (by kernel_rfl) (by kernel_rfl) (by kernel_rfl) (fun _ _ _ h => h) (by rfl) (by assumption) ?_
        try simp only [Act.put, List.setIfInBounds_toArray, List.set_cons_zero, List.set_cons_succ]
        refine heldSkip 17 rfl rfl (by kernel_rfl) (by kernel_rfl) (by kernel_rfl) (fun _ _ _ h => h) (by rfl) (by assumption) ?_
        try simp only [Act.put, List.setIfInBounds_toArray, List.set_cons_zero, List.set_cons_succ]
        refine heldSkip 18 rfl rfl (by kernel_rfl) (by kernel_rfl) (by kernel_rfl) (fun _ _ _ h => h) (by rfl) (by assumption) ?_
        try simp only [Act.put, List.setIfInBounds_toArray, List.set_cons_zero, List.set_cons_succ]
        refine heldVal (v := ?v135) 19 rfl rfl (by kernel_rfl) (by kernel_rfl) (by kernel_rfl) (fun _ _ _ h => h) (by rfl) (fun w hSw => ?hy135) (by assumption) ?_
        case hy135 => ((try dsimp only at hSw); go_simp; (try with_reducible rfl))
        try simp only [Act.put, List.setIfInBounds_toArray, List.set_cons_zero, List.set_cons_succ]
        refine heldVal (v := ?v136) 20 rfl rfl (by kernel_rfl) (by kernel_rfl) (by kernel_rfl) (fun _ _ _ h => h) (by rfl) (fun w hSw => ?hy136) (by assumption) ?_
        case hy136 => ((try dsimp only at hSw); go_simp; (try with_reducible rfl))
        try simp only [Act.put, List.setIfInBounds_toArray, List.set_cons_zero, List.set_cons_succ]
        refine heldSkip 21 rfl rfl (by kernel_rfl) (by kernel_rfl) (by kernel_rfl) (fun _ _ _ h => h) (by rfl) (by assumption) ?_
        try simp only [Act.put, List.setIfInBounds_toArray, List.set_cons_zero, List.set_cons_succ]
        refine heldSkip 22 rfl rfl (by kernel_rfl) (by kernel_rfl) (by kernel_rfl) (fun _ _ _ h => h) (by rfl) (by assumption) ?_
        try simp only [Act.put, List.setIfInBounds_toArray, List.set_cons_zero, List.set_cons_succ]
        refine heldSkip 23 rfl rfl (by kernel_rfl) (by kernel_rfl) (by kernel_rfl) (fun _ _ _ h => h) (by rfl) (by assumption) ?_
        try simp only [Act.put, List.setIfInBounds_toArray, List.set_cons_zero, List.set_cons_succ]
        refine heldSkip 24 rfl rfl (by kernel_rfl) (by kernel_rfl) (by kernel_rfl) (fun _ _ _ h => h) (by rfl) (by assumption) ?_
        try simp only [Act.put, List.setIfInBounds_toArray, List.set_cons_zero, List.set_cons_succ]
        refine heldSkip 25 rfl rfl (by kernel_rfl) (by kernel_rfl) (by kernel_rfl) (fun _ _ _ h => h) (by rfl) (by assumption) ?_
        try simp only [Act.put, List.setIfInBounds_toArray, List.set_cons_zero, List.set_cons_succ]
        refine heldSkip 26 rfl rfl (by kernel_rfl) (by kernel_rfl) (by kernel_rfl) (fun _ _ _ h => h) (by rfl) (by assumption) ?_
        try simp only [Act.put, List.setIfInBounds_toArray, List.set_cons_zero, List.set_cons_succ]
        refine heldVal (v := ?v137) 27 rfl rfl (by kernel_rfl) (by kernel_rfl) (by kernel_rfl) (fun _ _ _ h => h) (by rfl) (fun w hSw => ?hy137) (by assumption) ?_
        case hy137 => ((try dsimp only at hSw); go_simp; (try with_reducible rfl))
        try simp only [Act.put, List.setIfInBounds_toArray, List.set_cons_zero, List.set_cons_succ]
        refine heldVal (v := ?v138) 28 rfl rfl (by kernel_rfl) (by kernel_rfl) (by kernel_rfl) (fun _ _ _ h => h) (by rfl) (fun w hSw => ?hy138) (by assumption) ?_
        case hy138 => ((try dsimp only at hSw); go_simp; (try with_reducible rfl))
        try simp only [Act.put, List.setIfInBounds_toArray, List.set_cons_zero, List.set_cons_succ]
        refine heldSkip 29 rfl rfl (by kernel_rfl) (by kernel_rfl) (by kernel_rfl) (fun _ _ _ h => h) (by rfl) (by assumption) ?_
        try simp only [Act.put, List.setIfInBounds_toArray, List.set_cons_zero, List.set_cons_succ]
        refine heldSkip 30 rfl rfl (by kernel_rfl) (by kernel_rfl) (by kernel_rfl) (fun _ _ _ h => h) (by rfl) (by assumption) ?_
        try simp only [Act.put, List.setIfInBounds_toArray, List.set_cons_zero, List.set_cons_succ]
        refine heldSkip 31 rfl rfl (by kernel_rfl) (by kernel_rfl) (by kernel_rfl) (fun _ _ _ h => h) (by rfl) (by assumption) ?_
        try simp only [Act.put, List.setIfInBounds_toArray, List.set_cons_zero, List.set_cons_succ]
        refine heldSkip 32 rfl rfl (by kernel_rfl) (by kernel_rfl) (by kernel_rfl) (fun _ _ _ h => h) (by rfl) (by assumption) ?_
        try simp only [Act.put, List.setIfInBounds_toArray, List.set_cons_zero, List.set_cons_succ]
        refine heldSkip 33 rfl rfl (by kernel_rfl) (by kernel_rfl) (by kernel_rfl) (fun _ _ _ h => h) (by rfl) (by assumption) ?_
        try simp only [Act.put, List.setIfInBounds_toArray, List.set_cons_zero, List.set_cons_succ]
        refine heldSkip 34 rfl rfl (by kernel_rfl) (by kernel_rfl) (by kernel_rfl) (fun _ _ _ h => h) (by rfl) (by assumption) ?_
        try simp only [Act.put, List.setIfInBounds_toArray, List.set_cons_zero, List.set_cons_succ]
        refine heldSkip 35 rfl rfl (by kernel_rfl) (by kernel_rfl) (by kernel_rfl) (fun _ _ _ h => h) (by rfl) (by assumption) ?_
        try simp only [Act.put, List.setIfInBounds_toArray, List.set_cons_zero, List.set_cons_succ]
        refine heldSkip 36 rfl rfl (by kernel_rfl) (by kernel_rfl) (by kernel_rfl) (fun _ _ _ h => h) (by rfl) (by assumption) ?_
        try simp only [Act.put, List.setIfInBounds_toArray, List.set_cons_zero, List.set_cons_succ]
        refine heldSkip 37 rfl rfl (by kernel_rfl) (by kernel_rfl) (by kernel_rfl) (fun _ _ _ h => h) (by rfl) (by assumption) ?_
        try simp only [Act.put, List.setIfInBounds_toArray, List.set_cons_zero, List.set_cons_succ]
        refine heldVal (v := ?v139) 38 rfl rfl (by kernel_rfl) (by kernel_rfl) (by kernel_rfl) (fun _ _ _ h => h) (by rfl) (fun w hSw => ?hy139) (by assumption) ?_
        case hy139 => ((try dsimp only at hSw); go_simp; (try with_reducible rfl))
        try simp only [Act.put, List.setIfInBounds_toArray, List.set_cons_zero, List.set_cons_succ]
        refine wpAnyH_done (by kernel_rfl) ?_ _
        have HBX := Lib.hid (HB0.out.trans (hB1.mono HB0.out.size))
        go_wp2
        go_ret
        exact ⟨rfl, HBX.out⟩
  · rw [dec_n ht] at KI ⊢
    clear KSH KDT KM KON KH1 KH2 KH3 ht
    unfold clV clC
    unfold clC at hW0
    go_enter Tryd.func13, Tryd.ntmps13
    go_wp2_with fail
    try rw [hW0]
    clear hW0
    refine wp_region_held_drew (S := fun X => Below W0.heap.size W0 X ∧ X.heap[w.heap.size]? = some (.cells (clC c) 28 (0, 0)) ∧ X.cell? ⟨w.heap.size, 25, none⟩ = some (.int .i64 c.u) ∧ X.cell? ⟨w.heap.size, 26, none⟩ = some (.int .i64 c.st) ∧ X.cell? ⟨w.heap.size, 27, none⟩ = some (.int .i64 c.an) ∧ X.cell? ⟨w.heap.size, 28, none⟩ = some (.int .i64 c.fr) ∧ X.cell? ⟨w.heap.size, 29, none⟩ = some (.int .i64 c.un)) (by kernel_rfl) HS (fun hHeld => ?_)
    refine heldVal (v := ?v140) 0 rfl rfl (by kernel_rfl) (by kernel_rfl) (by kernel_rfl) (fun _ _ _ h => h) (by rfl) (fun w hSw => ?hy140) (by assumption) ?_
    case hy140 => ((try dsimp only at hSw); go_simp; (try with_reducible rfl))
    try simp only [Act.put, List.setIfInBounds_toArray, List.set_cons_zero, List.set_cons_succ]
    refine heldCall 1 rfl rfl (by kernel_rfl) (by rfl) (fun K hK => ?_)
    go_simp
    refine (KI.out _).mono ?_
    rintro e wx ⟨rfl, rfl⟩
    go_wp2_with fail
    refine hK.out _ _ ?hS (fun hHeld => ?_)
    case hS => (exact HMK.out _ hB0)
    clear hK K
    try simp only [Act.put, List.setIfInBounds_toArray, List.set_cons_zero, List.set_cons_succ]
    refine heldVal (v := ?v141) 2 rfl rfl (by kernel_rfl) (by kernel_rfl) (by kernel_rfl) (fun _ _ _ h => h) (by rfl) (fun w hSw => ?hy141) (by assumption) ?_
    case hy141 => ((try dsimp only at hSw); go_simp; (try with_reducible rfl))
    try simp only [Act.put, List.setIfInBounds_toArray, List.set_cons_zero, List.set_cons_succ]
    refine heldVal (v := ?v142) 3 rfl rfl (by kernel_rfl) (by kernel_rfl) (by kernel_rfl) (fun _ _ _ h => h) (by rfl) (fun w hSw => ?hy142) (by assumption) ?_
    case hy142 => ((try dsimp only at hSw); go_simp; (try with_reducible rfl))
    try simp only [Act.put, List.setIfInBounds_toArray, List.set_cons_zero, List.set_cons_succ]
    refine heldSkip 4 rfl rfl (by kernel_rfl) (by kernel_rfl) (by kernel_rfl) (fun _ _ _ h => h) (by rfl) (by assumption) ?_
    try simp only [Act.put, List.setIfInBounds_toArray, List.set_cons_zero, List.set_cons_succ]
    refine heldSkip 5 rfl rfl (by kernel_rfl) (by kernel_rfl) (by kernel_rfl) (fun _ _ _ h => h) (by rfl) (by assumption) ?_
    try simp only [Act.put, List.setIfInBounds_toArray, List.set_cons_zero, List.set_cons_succ]
    refine heldSkip 6 rfl rfl (by kernel_rfl) (by kernel_rfl) (by kernel_rfl) (fun _ _ _ h => h) (by rfl) (by assumption) ?_
    try simp only [Act.put, List.setIfInBounds_toArray, List.set_cons_zero, List.set_cons_succ]
    refine heldVal (v := ?v143) 7 rfl rfl (by kernel_rfl) (by kernel_rfl) (by kernel_rfl) (fun _ _ _ h => h) (by rfl) (fun w hSw => ?hy143) (by assumption) ?_
    case hy143 => ((try dsimp only at hSw); go_simp; (try with_reducible rfl))
    try simp only [Act.put, List.setIfInBounds_toArray, List.set_cons_zero, List.set_cons_succ]
    refine heldVal (v := ?v144) 8 rfl rfl (by kernel_rfl) (by kernel_rfl) (by kernel_rfl) (fun _ _ _ h => h) (by rfl) (fun w hSw => ?hy144) (by assumption) ?_
    case hy144 => ((try dsimp only at hSw); go_simp; (try with_reducible rfl))
    try simp only [Act.put, List.setIfInBounds_toArray, List.set_cons_zero, List.set_cons_succ]
    refine heldSkip 9 rfl rfl (by kernel_rfl) (by kernel_rfl) (by kernel_rfl) (fun _ _ _ h => h) (by rfl) (by assumption) ?_
    try simp only [Act.put, List.setIfInBounds_toArray, List.set_cons_zero, List.set_cons_succ]
    refine heldSkip 10 rfl rfl (by kernel_rfl) (by kernel_rfl) (by kernel_rfl) (fun _ _ _ h => h) (by rfl) (by assumption) ?_
    try simp only [Act.put, List.setIfInBounds_toArray, List.set_cons_zero, List.set_cons_succ]
    refine heldSkip 11 rfl rfl (by kernel_rfl) (by kernel_rfl) (by kernel_rfl) (fun _ _ _ h => h) (by rfl) (by assumption) ?_
    try simp only [Act.put, List.setIfInBounds_toArray, List.set_cons_zero, List.set_cons_succ]
    refine heldSkip 12 rfl rfl (by kernel_rfl) (by kernel_rfl) (by kernel_rfl) (fun _ _ _ h => h) (by rfl) (by assumption) ?_
    try simp only [Act.put, List.setIfInBounds_toArray, List.set_cons_zero, List.set_cons_succ]
    refine heldVal (v := ?v145) 13 rfl rfl (by kernel_rfl) (by kernel_rfl) (by kernel_rfl) (fun _ _ _ h => h) (by rfl) (fun w hSw => ?hy145) (by assumption) ?_
    case hy145 => ((try dsimp only at hSw); go_simp; (try with_reducible rfl))
    try simp only [Act.put, List.setIfInBounds_toArray, List.set_cons_zero, List.set_cons_succ]
    refine heldVal (v := ?v146) 14 rfl rfl (by kernel_rfl) (by kernel_rfl) (by kernel_rfl) (fun _ _ _ h => h) (by rfl) (fun w hSw => ?hy146) (by assumption) ?_
    case hy146 => ((try dsimp only at hSw); go_simp; (try with_reducible rfl))
    try simp only [Act.put, List.setIfInBounds_toArray, List.set_cons_zero, List.set_cons_succ]
    refine heldSkip 15 rfl rfl (by kernel_rfl) (by kernel_rfl) (by kernel_rfl) (fun _ _ _ h => h) (by rfl) (by assumption) ?_
    try simp only [Act.put, List.setIfInBounds_toArray, List.set_cons_zero, List.set_cons_succ]
    refine heldSkip 16 rfl rfl (by kernel_rfl) (by kernel_rfl) (by kernel_rfl) (fun _ _ _ h => h) (by rfl) (by assumption) ?_
    try simp only [Act.put, List.setIfInBounds_toArray, List.set_cons_zero, List.set_cons_succ]
    refine heldSkip 17 rfl rfl (by kernel_rfl) (by kernel_rfl) (by kernel_rfl) (fun _ _ _ h => h) (by rfl) (by assumption) ?_
    try simp only [Act.put, List.setIfInBounds_toArray, List.set_cons_zero, List.set_cons_succ]
    refine heldSkip 18 rfl rfl (by kernel_rfl) (by kernel_rfl) (by kernel_rfl) (fun _ _ _ h => h) (by rfl) (by assumption) ?_
    try simp only [Act.put, List.setIfInBounds_toArray, List.set_cons_zero, List.set_cons_succ]
    refine heldVal (v := ?v147) 19 rfl rfl (by kernel_rfl) (by kernel_rfl) (by kernel_rfl) (fun _ _ _ h => h) (by rfl) (fun w hSw => ?hy147) (by assumption) ?_
    case hy147 => ((try dsimp only at hSw); go_simp; (try with_reducible rfl))
    try simp only [Act.put, List.setIfInBounds_toArray, List.set_cons_zero, List.set_cons_succ]
    refine heldVal (v := ?v148) 20 rfl rfl (by kernel_rfl) (by kernel_rfl) (by kernel_rfl) (fun _ _ _ h => h) (by rfl) (fun w hSw => ?hy148) (by assumption) ?_
    case hy148 => ((try dsimp only at hSw); go_simp; (try with_reducible rfl))
    try simp only [Act.put, List.setIfInBounds_toArray, List.set_cons_zero, List.set_cons_succ]
    refine heldSkip 21 rfl rfl (by kernel_rfl) (by kernel_rfl) (by kernel_rfl) (fun _ _ _ h => h) (by rfl) (by assumption) ?_
    try simp only [Act.put, List.setIfInBounds_toArray, List.set_cons_zero, List.set_cons_succ]
    refine heldSkip 22 rfl rfl (by kernel_rfl) (by kernel_rfl) (by kernel_rfl) (fun _ _ _ h => h) (by rfl) (by assumption) ?_
    try simp only [Act.put, List.setIfInBounds_toArray, List.set_cons_zero, List.set_cons_succ]
    refine heldSkip 23 rfl rfl (by kernel_rfl) (by kernel_rfl) (by kernel_rfl) (fun _ _ _ h => h) (by rfl) (by assumption) ?_
    try simp only [Act.put, List.setIfInBounds_toArray, List.set_cons_zero, List.set_cons_succ]
    refine heldSkip 24 rfl rfl (by kernel_rfl) (by kernel_rfl) (by kernel_rfl) (fun _ _ _ h => h) (by rfl) (by assumption) ?_
    try simp only [Act.put, List.setIfInBounds_toArray, List.set_cons_zero, List.set_cons_succ]
    refine heldSkip 25 rfl rfl (by kernel_rfl) (by kernel_rfl) (by kernel_rfl) (fun _ _ _ h => h) (by rfl) (by assumption) ?_
    try simp only [Act.put, List.setIfInBounds_toArray, List.set_cons_zero, List.set_cons_succ]
    refine heldSkip 26 rfl rfl (by kernel_rfl) (by kernel_rfl) (by kernel_rfl) (fun _ _ _ h => h) (by rfl) (by assumption) ?_
    try simp only [Act.put, List.setIfInBounds_toArray, List.set_cons_zero, List.set_cons_succ]
    refine heldVal (v := ?v149) 27 rfl rfl (by kernel_rfl) (by kernel_rfl) (by kernel_rfl) (fun _ _ _ h => h) (by rfl) (fun w hSw => ?hy149) (by assumption) ?_
    case hy149 => ((try dsimp only at hSw); go_simp; (try with_reducible rfl))
    try simp only [Act.put, List.setIfInBounds_toArray, List.set_cons_zero, List.set_cons_succ]
    refine heldVal (v := ?v150) 28 rfl rfl (by kernel_rfl) (by kernel_rfl) (by kernel_rfl) (fun _ _ _ h => h) (by rfl) (fun w hSw => ?hy150) (by assumption) ?_
    case hy150 => ((try dsimp only at hSw); go_simp; (try with_reducible rfl))
    try simp only [Act.put, List.setIfInBounds_toArray, List.set_cons_zero, List.set_cons_succ]
    refine heldSkip 29 rfl rfl (by kernel_rfl) (by kernel_rfl) (by kernel_rfl) (fun _ _ _ h => h) (by rfl) (by assumption) ?_
    try simp only [Act.put, List.setIfInBounds_toArray, List.set_cons_zero, List.set_cons_succ]
    refine heldSkip 30 rfl rfl (by kernel_rfl) (by kernel_rfl) (by kernel_rfl) (fun _ _ _ h => h) (by rfl) (by assumption) ?_
    try simp only [Act.put, List.setIfInBounds_toArray, List.set_cons_zero, List.set_cons_succ]
    refine heldSkip 31 rfl rfl (by kernel_rfl) (by kernel_rfl) (by kernel_rfl) (fun _ _ _ h => h) (by rfl) (by assumption) ?_
    try simp only [Act.put, List.setIfInBounds_toArray, List.set_cons_zero, List.set_cons_succ]
    refine heldSkip 32 rfl rfl (by kernel_rfl) (by kernel_rfl) (by kernel_rfl) (fun _ _ _ h => h) (by rfl) (by assumption) ?_
    try simp only [Act.put, List.setIfInBounds_toArray, List.set_cons_zero, List.set_cons_succ]
    refine heldSkip 33 rfl rfl (by kernel_rfl) (by kernel_rfl) (by kernel_rfl) (fun _ _ _ h => h) (by rfl) (by assumption) ?_
    try simp only [Act.put, List.setIfInBounds_toArray, List.set_cons_zero, List.set_cons_succ]
    refine heldSkip 34 rfl rfl (by kernel_rfl) (by kernel_rfl) (by kernel_rfl) (fun _ _ _ h => h) (by rfl) (by assumption) ?_
    try simp only [Act.put, List.setIfInBounds_toArray, List.set_cons_zero, List.set_cons_succ]
    refine heldSkip 35 rfl rfl (by kernel_rfl) (by kernel_rfl) (by kernel_rfl) (fun _ _ _ h => h) (by rfl) (by assumption) ?_
    try simp only [Act.put, List.setIfInBounds_toArray, List.set_cons_zero, List.set_cons_succ]
    refine heldSkip 36 rfl rfl (by kernel_rfl) (by kernel_rfl) (by kernel_rfl) (fun _ _ _ h => h) (by rfl) (by assumption) ?_
    try simp only [Act.put, List.setIfInBounds_toArray, List.set_cons_zero, List.set_cons_succ]
    refine heldSkip 37 rfl rfl (by kernel_rfl) (by kernel_rfl) (by kernel_rfl) (fun _ _ _ h => h) (by rfl) (by assumption) ?_
    try simp only [Act.put, List.setIfInBounds_toArray, List.set_cons_zero, List.set_cons_succ]
    refine heldVal (v := ?v151) 38 rfl rfl (by kernel_rfl) (by kernel_rfl) (by kernel_rfl) (fun _ _ _ h => h) (by rfl) (fun w hSw => ?hy151) (by assumption) ?_
    case hy151 => ((try dsimp only at hSw); go_simp; (try with_reducible rfl))
    try simp only [Act.put, List.setIfInBounds_toArray, List.set_cons_zero, List.set_cons_succ]
    refine wpAnyH_done (by kernel_rfl) ?_ _
    have HBX := Lib.hid HBD.out
    go_wp2
    go_ret
    exact ⟨rfl, HBX.out⟩
end Go.Proofs.YtbfndcogieiejaaDoor
namespace Go.Proofs.YtbfndcogieiejaaDoor
open Go.RowKit Civ
set_option linter.unusedVariables false

set_option maxRecDepth 20000 in
theorem csame_any (a b : Cl) (w : World) : Calls Tryd.prog 14 #[clV a, clV b] w fun e w' => e = .returned (.bool (eqCl a b)) ∧ Below w.heap.size w w' := by
  have HB0 := Lib.hid (show Below w.heap.size w ((w.alloc (.cells (clC a) 28)).alloc (.cells (clC b) 28)) from ((Below.refl _ _).alloc (Nat.le_refl _) _).alloc (by simp) _)
  have HC0 := Lib.hid (blk_more (blk_new w (.cells (clC a) 28)) (.cells (clC b) 28))
  have HP0 := Lib.hid (blk_new (w.alloc (.cells (clC a) 28)) (.cells (clC b) 28))
  rw [size_allocD] at HP0
  have he := fun W => eq_cl a b W
  have hgd := guard_cl
  obtain ⟨W0, hW0⟩ : ∃ W0, (w.alloc (.cells (clC a) 28)).alloc (.cells (clC b) 28) = W0 := ⟨_, rfl⟩
  rw [hW0] at HB0 HC0 HP0
  unfold clV clC
  unfold clC at hW0
  generalize eqCl a b = z at he ⊢
  go_enter Tryd.func14, Tryd.ntmps14
  go_wp2_with (first | (refine wpList_loadRow HC0.out rfl _ _ rfl rfl _ Tryd.underlying28 rfl (by unfold clC; kernel_rfl) ?_) | (refine wpList_loadRow HP0.out rfl _ _ rfl rfl _ Tryd.underlying28 rfl (by unfold clC; kernel_rfl) ?_))
  go_ret
  exact ⟨rfl, HB0.out⟩
theorem cdays_ex (c : Cl) (hc : ClIn c) (n : Int) (hn1 : 0 ≤ n) (hn2 : n < 146097) (w : World) (hT : TabUn w) :
    Calls Tryd.prog 17 #[clV c] w fun e w' => ∃ F caps, e = .returned (.func (.func F) #[] caps) ∧ (∀ (args : Array Value) (w : World), Sem.run Tryd.prog (callFunc F args) w = .ok (.enter F args) w) ∧ Steps1 w' F caps (shD n) (dayB c n) ∧ Below w.heap.size w w' := by
  unfold dayB
  cases hm : mayB c
  · refine (cdays_no c hc hm w hT).mono ?_
    rintro e w' ⟨rfl, hb⟩
    exact ⟨47, #[], rfl, entersD Tryd.func47 (by kernel_rfl) rfl, fun Z _ => cdays1_any (shD n) Z, hb⟩
  · obtain ⟨f1, f2, _, _⟩ := shD_facts n hn1 hn2
    refine (cdays_any c hc (shD n) f1 f2 (stepB c n) hm (makes_any c n hn1 hn2 (may_facts c hm).2.2) w hT).mono ?_
    rintro e w' ⟨gC, gS, rfl, hZ, hb⟩
    exact ⟨49, #[.pointer (some ⟨gC, 0, none⟩), .pointer (some ⟨gS, 0, none⟩)], rfl, entersD Tryd.func49 (by kernel_rfl) rfl, fun Z h => hZ Z h, hb⟩
theorem eq_nilD (F : Fn) (x y : Array Value) (w : World) : (Op.equal 42 (.func F x y) .nilFunc).run Tryd.prog w = .ok false w := by
  unfold Op.equal Op.maxDepth
  unfold Op.equalIn
  rw [Sem.run_bind, run_underlying Tryd.underlying42]
  rfl
theorem neq_funcD (F : Fn) (x y : Array Value) (w : World) : Sem.run Tryd.prog (binOp BinOp.neq 42 (.func F x y) .nilFunc) w = .ok (.bool true) w := by
  have h : binOp BinOp.neq 42 (.func F x y) .nilFunc = (do pure (.bool (!(← Op.equal 42 (.func F x y) .nilFunc)))) := by simp only [binOp]
  rw [h, Sem.run_bind, eq_nilD, Result.andThen_ok, Sem.run_pure]
  rfl
set_option maxRecDepth 100000 in
theorem eq_span (A B : Int) (w : World) : (Op.equalIn 10000 34 (.agg #[.int .i64 A, .int .i64 B]) (.agg #[.int .i64 A, .int .i64 B])).run Tryd.prog w = .ok true w := by
  have u2 := Tryd.underlying2
  have hS : Tryd.prog.underlying 34 = some (.struct (Tryd.prog.fieldsOf 34)) := by kernel_rfl
  have hp : Tryd.prog.stoodInHeld 34 = false := by kernel_rfl
  rw [show (10000 : Nat) = 9999 + 1 from rfl, run_equalIn_agg w 9999 34 _ _ hS hp]
  simp only [Program.fieldsOf, Tryd.underlying34]
  go_simp
theorem guard_span : Tryd.prog.eqGuardType Tryd.prog.depth 34 = false := by kernel_rfl
set_option maxRecDepth 20000 in
theorem cspan_any (c : Cl) (w : World) : Calls Tryd.prog 10 #[clV c] w fun e w' => e = .returned (heldV c.fr c.un) ∧ Below w.heap.size w w' := by
  have HB0 := Lib.hid (show Below w.heap.size w ((w.alloc (.cells (clC c) 28)).alloc (.cells #[.int .i64 0, .int .i64 0] 32)) from ((Below.refl _ _).alloc (Nat.le_refl _) _).alloc (by simp) _)
  have HC0 := Lib.hid (show ClAt ((w.alloc (.cells (clC c) 28)).alloc (.cells #[.int .i64 0, .int .i64 0] 32)) w.heap.size c from blk_more (blk_new w (.cells (clC c) 28)) _)
  have HP0 := Lib.hid (blk_new (w.alloc (.cells (clC c) 28)) (.cells #[.int .i64 0, .int .i64 0] 32))
  rw [size_allocD] at HP0
  have KH := fun W => sheld_any c.fr c.un W
  obtain ⟨A, B, hv⟩ : ∃ A B : Int, heldV c.fr c.un = .agg #[.int .i64 A, .int .i64 B] := by
    unfold heldV; split
    · exact ⟨_, _, rfl⟩
    · exact ⟨_, _, rfl⟩
  rw [hv] at KH ⊢
  clear hv
  obtain ⟨W0, hW0⟩ : ∃ W0, (w.alloc (.cells (clC c) 28)).alloc (.cells #[.int .i64 0, .int .i64 0] 32) = W0 := ⟨_, rfl⟩
  rw [hW0] at HB0 HC0 HP0
  obtain ⟨x28, x29⟩ := HC0.out.ends
  unfold clV clC
  unfold clC at hW0
  go_enter Tryd.func10, Tryd.ntmps10
  go_wp2_with fail
  refine (KH _).mono ?_
  rintro e w1 ⟨rfl, hb⟩
  have HB1 := Lib.hid (HB0.out.trans (hb.mono HB0.out.size))
  have HP1 := Lib.hid ((hb.block _ (lt_of_block HP0.out)).trans HP0.out)
  clear hb KH HB0 HC0 HP0 x28 x29 hW0
  go_wp2_with (refine wpList_storeRow HP1.out _ rfl _ _ _ rfl rfl rfl (by kernel_rfl) (by kernel_rfl) (by kernel_rfl) ?_)
  exact bodyPost_ret (results_cell_row rfl _ _ _ _ _ (0, 0) _ rfl (row_set HP1.out) Tryd.underlying32 rfl (by kernel_rfl)) rfl ⟨rfl, Below.but HB1.out (row_but _ _ _) (fun i hi hx => by omega)⟩
end Go.Proofs.YtbfndcogieiejaaDoor
