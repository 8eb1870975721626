/- What a set's iterator does with the function of WideAll (layer 4). -/
import Derived.Test.YtjpdfbljhbgbcaaDoorWdM
namespace Go.Proofs.YtjpdfbljhbgbcaaDoor
open Go.RowKit Go.Shelf
set_option linter.unusedVariables false
attribute [local go_sem] Oper.semAt_some

theorem leaves_marks {F : Fence} {n : Nat} {P : Program} {fn : Func} {tmps : Array Value} {R : Ending → World → Prop} {lo : Nat} (Z : World → Prop) (hput : ∀ W D, Z W → lo ≤ D → W.heap[D]? = some (.deferred (some [])) → Z (W.putObj D (.deferred none)))
    (hend : ∀ W, Z W → ∃ v, (results fn tmps).run P W = .ok v W ∧ R (.returned v) W) : ∀ ds hi W, Marks lo hi ds W → Z W → LeavesInM F n P fn tmps R ds .returning W
  | [], _, W, _, hZ => hend W hZ
  | d :: ds, hi, W, ⟨D, h1, h2, h3, h4, h5⟩, hZ => by
    subst h1
    refine ⟨by simp, .inl ⟨D, _, rfl, run_takeDeferred h4, ?_⟩⟩
    exact leaves_marks Z hput hend ds D _ (h5.upto fun D' hD' => World.putObj_heap_other (by omega)) (hput W D hZ h2 h4)
/-- what has been told, at the end -/
def Fin (mo : Nat) (Q : Nat → Bool) (zs : List Int) : Prop := (zs = numsP Q 448 ∧ (mo = 0 ∨ zs.length < mo)) ∨ (zs <+: numsP Q 448 ∧ mo ≠ 0 ∧ zs.length = mo)
def Told (w : World) (g mo : Nat) (Q : Nat → Bool) (W : World) : Prop := ∃ v zs, W.heap[g]? = some (.cells #[v] 26 (0, 0)) ∧ OwnI W (w.heap.size + 1) v zs ∧ But (fun k => k = g) w W ∧ Fin mo Q zs
theorem Told.put {w : World} {g mo : Nat} {Q : Nat → Bool} {W : World} {D : Nat} (h : Told w g mo Q W) (hD : w.heap.size ≤ D) (hd : W.heap[D]? = some (.deferred (some []))) : Told w g mo Q (W.putObj D (.deferred none)) := by
  obtain ⟨v, zs, h1, h2, h3, h4⟩ := h
  have hg := grownBy_putObj' W D (.deferred none)
  have hr : ∀ r, some D = some r → ∃ o : Obj, W.heap[r]? = some o ∧ o.isCells = false := fun r e => by cases e; exact ⟨_, hd, rfl⟩
  exact ⟨v, zs, cells_kept h1 hg hr, own_kept h2 hg hr, ⟨hg.os.trans h3.os, hg.tape.trans h3.tape, hg.output.trans h3.output, Nat.le_trans h3.size hg.size, fun k hk hx => (hg.block k (Nat.lt_of_lt_of_le hk h3.size) (fun e => by cases e; omega)).trans (h3.block k hk hx)⟩, h4⟩
theorem Core.alloc {Fv : Value} {w : World} {g : Nat} {v : Value} {zs : List Int} {hi : Nat} {ds : List Deferred} {W : World} {o : Obj} (h : Core Fv w g v zs hi ds W) (hW : hi ≤ W.heap.size) : Core Fv w g v zs hi ds (W.alloc o) :=
  h.kept (B := max hi w.heap.size) (Nat.le_max_left _ _) (Nat.le_max_right _ _) hW (World.grownBy_alloc W o none) (fun r e => by cases e)
theorem Core.below {Fv : Value} {w : World} {g : Nat} {v : Value} {zs : List Int} {hi : Nat} {ds : List Deferred} {W W' : World} (h : Core Fv w g v zs hi ds W) (hW : hi ≤ W.heap.size) (hb : Below W.heap.size W W') : Core Fv w g v zs hi ds W' :=
  h.kept (B := max hi w.heap.size) (Nat.le_max_left _ _) (Nat.le_max_right _ _) hW (row := none) ⟨hb.os, hb.tape, hb.output, hb.size, fun k hk _ => hb.block k hk⟩ (fun r e => by cases e)
/-- mask.All of one word -/
theorem mask_one (m g : Nat) (w : World) (hm : m < 18446744073709551616) (h : w.heap[g]? = some (.cells #[.int .u64 (m : Nat)] 22 (0, 0))) : Calls Tryd.prog 36 #[.slice (some ⟨g, 0, none⟩) 1 1] w fun e w' => e = .returned (.func (.func 57) #[] #[.pointer (some ⟨w.heap.size, 0, none⟩)]) ∧
      w'.heap[w.heap.size]? = some (.cells #[.int .u64 (m : Nat)] 22 (0, 0)) ∧ Below w.heap.size w w' := by
  have q := all_any (some ⟨g, 0, none⟩) 1 [(m : Int)] w (by simp) (fun k hk => by
    obtain rfl : k = 0 := by simp at hk; omega
    exact ⟨g, 0, rfl, lt_of_block h, by rw [blk_cell h]; rfl⟩) (fun k hk => by
    obtain rfl : k = 0 := by simp at hk; omega
    exact ⟨m, rfl, hm⟩)
  rw [show [(m : Int)].length = 1 from rfl, bothM_first [(m : Int)] m hm rfl] at q
  exact q
/-- within a round: so many of the word's numbers have been told -/
def Rnd (Fv : Value) (w : World) (g mo j ib hi : Nat) (ds : List Deferred) (zs pre : List Int) (X : World) : Prop :=
  ∃ v, Core Fv w g v (zs ++ pre.map fun x => wrap64 (64 * (j : Int) + x)) hi ds X ∧ X.heap[ib]? = some (.cells #[.int .i64 j] 3 (0, 0)) ∧ v.ownBlock ≠ some ib ∧ hi ≤ X.heap.size
theorem Rnd.kept {Fv : Value} {w : World} {g mo j ib hi : Nat} {ds : List Deferred} {zs pre : List Int} {B : Nat} {X X' : World} {row : Option Nat} (h : Rnd Fv w g mo j ib hi ds zs pre X) (hB : hi ≤ B) (hw : w.heap.size ≤ B) (hg : X.grownBy X' row) (hr : ∀ r, row = some r → B ≤ r ∧ ∃ o : Obj, X.heap[r]? = some o ∧ o.isCells = false) : Rnd Fv w g mo j ib hi ds zs pre X' := by
  obtain ⟨v, h1, h2, h3, h4⟩ := h
  exact ⟨v, h1.kept hB hw h4 hg hr, cells_kept h2 hg (fun r e => (hr r e).2), h3, Nat.le_trans h4 hg.size⟩
theorem Rnd.own {Fv : Value} {w : World} {g mo j ib hi : Nat} {ds : List Deferred} {zs : List Int} {B : Nat} (hB : hi ≤ B) (hw : w.heap.size ≤ B) (_h : ib < B) : OwnFrom B (fun (pre : List Int) X => Rnd Fv w g mo j ib hi ds zs pre X) := fun pre X X' row h hg hr => h.kept hB hw hg hr
theorem Rnd.ownx {c : Code} {Fv : Value} {w : World} {g mo j ib hi : Nat} {ds : List Deferred} {zs : List Int} {B : Nat} (hB : hi ≤ B) (hw : w.heap.size ≤ B) (_h : ib < B) : OwnFrom B (fun (pre : List Int) X => c = Code.exit 0 ∧ Rnd Fv w g mo j ib hi ds zs pre X ∧ mo ≠ 0 ∧ zs.length + pre.length = mo) := fun pre X X' row h hg hr => ⟨h.1, h.2.1.kept hB hw hg hr, h.2.2⟩
set_option maxHeartbeats 3200000 in
set_option maxRecDepth 100000 in
theorem witer_in (n : Nat) (hn : 5 ≤ n) (Q : Nat → Bool) (s g q mo : Nat) (w : World) (hs : Sev w s (wv Q)) (hg : w.heap[g]? = some (.cells #[.slice none 0 0] 26 (0, 0))) (hq : w.cell? ⟨q, 0, none⟩ = some (.int .u16 mo)) (hqg : q ≠ g) (hmo : mo ≤ 65535) (hT : Tab w) (hTg : 1 < g) :
    CallsIn Fence.wide n Tryd.prog 44 #[.func (.func 26) #[] #[.pointer (some ⟨g, 0, none⟩), .pointer (some ⟨q, 0, none⟩)], .pointer (some ⟨s, 0, none⟩)] w fun e W' => (∃ v, e = .returned v) ∧ Told w g mo Q W' := by
  refine callsIn_of_wp_marks Tryd.func44 rfl trivial ?_ rfl
  simp only [Tryd.ntmps44, List.size_toArray, List.length_cons, List.length_nil, Nat.reduceAdd, Nat.reduceSub, Array.replicate_succ, Array.replicate_zero, List.push_toArray, List.append_toArray, List.nil_append, List.cons_append]
  have hgw := lt_of_block hg
  have hqw := World.block_lt_of_cell? w _ hq
  obtain ⟨Fv, hFv⟩ : ∃ Fv, Fv = Value.func (.func 26) #[] #[.pointer (some ⟨g, 0, none⟩), .pointer (some ⟨q, 0, none⟩)] := ⟨_, rfl⟩
  have HC0 := Lib.hid (show Core Fv w g (.slice none 0 0) [] 0 [] (w.alloc (.cells #[Fv] 31)) from ⟨blk_more hg _, OwnI.nil _ _, blk_new w _, (But.refl _ w).alloc _, trivial⟩)
  have HS := Lib.hid (hs.alloc (.cells #[Fv] 31))
  obtain ⟨W0, hW0⟩ : ∃ W0, w.alloc (.cells #[Fv] 31) = W0 := ⟨_, rfl⟩
  rw [hW0] at HC0 HS
  have HIX := Lib.hid (fun j (h : j < 7) W => idx7 (wv Q) j h W)
  obtain ⟨x0, x1, x2, x3, x4, x5, x6⟩ := HS.out.cells
  have HN0 := Lib.hid (show numsP Q (64 * 0) = [] from rfl)
  have HQ := Lib.hid hq
  have HT := Lib.hid hT
  clear hs hg hq hT
  rw [← hFv]
  have HF := Lib.hid hFv
  clear hFv
  gi_wp2
  try rw [hW0]
  clear hW0
  refine wpIn_scope_wide ?_
  refine wpIn_seq (wpIn_label ?_)
  gi_wp2
  change Code.wpIn _ _ _ _ _ { tmps := #[Fv, .pointer (some ⟨s, 0, none⟩), .pointer (some ⟨w.heap.size, 0, none⟩), undef, undef, undef, .agg (c7 (wv Q)), .int .i64 0, undef, undef, undef, undef, undef, undef, undef, undef, undef, undef, undef, undef, undef, undef, undef], defers := [] } _
  generalize c7 (wv Q) = L at HIX ⊢
  clear x0 x1 x2 x3 x4 x5 x6 HS
  refine wpIn_loop (fun a' W => ∃ (j : Nat) (u3 u4 u5 u8 u9 u10 u11 u12 u13 u14 u15 u16 u17 u18 u19 u20 u21 u22 : Value) (ds : List Deferred) (hi : Nat) (v : Value), a' = { tmps := #[Fv, .pointer (some ⟨s, 0, none⟩), .pointer (some ⟨w.heap.size, 0, none⟩), u3, u4, u5, .agg L, .int .i64 j, u8, u9, u10, u11, u12, u13, u14, u15, u16, u17, u18, u19, u20, u21, u22], defers := ds } ∧ j ≤ 7 ∧ hi ≤ W.heap.size ∧ Core Fv w g v (numsP Q (64 * j)) hi ds W ∧ (mo = 0 ∨ (numsP Q (64 * j)).length < mo)) (fun a' _ => 7 - (intOf (a'.tmps.getD 7 undef)).toNat) ?start ?round
  case start =>
    exact ⟨0, _, _, _, _, _, _, _, _, _, _, _, _, _, _, _, _, _, _, [], 0, _, rfl, by omega, by omega, by rw [HN0.out]; exact HC0.out, by rw [HN0.out]; show mo = 0 ∨ 0 < mo; omega⟩
  case round =>
    rintro a W ⟨j, u3, u4, u5, u8, u9, u10, u11, u12, u13, u14, u15, u16, u17, u18, u19, u20, u21, u22, ds, hi, v, rfl, hj, hhi, hcore, hgo⟩
    have HCR := Lib.hid hcore
    have HGO := Lib.hid hgo
    clear hcore hgo
    by_cases hjl : j < 7
    · have hg := HIX.out j hjl
      have hml := wv_lt Q j
      have d4 : decide ((j : Int) < 7) = true := decide_eq_true (by omega)
      have HK := Lib.hid (fun (W1 : World) (g1 : Nat) (h : W1.heap[g1]? = some (.cells #[.int .u64 (wv Q j : Nat)] 22 (0, 0))) => mask_one (wv Q j) g1 W1 hml h)
      generalize hm : wv Q j = m at hg HK hml
      have HM := Lib.hid hm
      have HB1 := Lib.hid (blk_new (W.alloc (.cells #[.int .i64 j] 3)) (.cells #[.int .u64 (m : Nat)] 22))
      rw [World.size_alloc] at HB1
      have HI1 := Lib.hid (blk_more (blk_new W (.cells #[.int .i64 j] 3)) (.cells #[.int .u64 (m : Nat)] 22))
      have HC1 := Lib.hid (show Core Fv w g v (numsP Q (64 * j)) hi ds ((W.alloc (.cells #[.int .i64 j] 3)).alloc (.cells #[.int .u64 (m : Nat)] 22)) from (HCR.out.alloc hhi).alloc (by simp; omega))
      obtain ⟨W1, hW1⟩ : ∃ W1, (W.alloc (.cells #[.int .i64 j] 3)).alloc (.cells #[.int .u64 (m : Nat)] 22) = W1 := ⟨_, rfl⟩
      rw [hW1] at HB1 HI1 HC1
      have hs1 : W1.heap.size = W.heap.size + 2 := by rw [← hW1]; simp
      clear hm
      gi_wp2_with fail
      refine ⟨trivial, fun h => by omega, (callsIn_wide.2 (HK.out W1 _ HB1.out)).mono ?_⟩
      rintro e w2 ⟨rfl, hbx, hb2⟩
      have hs2 := hb2.size
      have hwW : w.heap.size ≤ W.heap.size := HCR.out.2.2.2.1.size
      rw [hs1] at hbx
      have hbx1 := lt_of_block hbx
      have HC2 := Lib.hid (HC1.out.below (by omega) hb2)
      have HI2 := Lib.hid ((hb2.block _ (lt_of_block HI1.out)).trans HI1.out)
      have HBX := Lib.hid hbx
      clear hbx hb2
      gi_wp2
      refine wpIn_rangeFunc_ownG rfl (by omega) (gf := 57) (lb := #[.pointer (some ⟨W.heap.size + 2, 0, none⟩)]) rfl trivial (enters_of Tryd.func57 (by kernel_rfl) rfl)
        (mseq_stops (n - 1) (by omega) (fun i => m.testBit i) (W.heap.size + 2) g w2 hbx1 (by omega) (by rw [mk_self m hml, blk_cell HBX.out]; rfl) (HT.out.but HC2.out.2.2.2.1 (by omega)) hTg) belowK_t (belowK_b (by omega)) (Below.refl _ _) (fun _ => rfl)
        (fun pre X => Rnd Fv w g mo j W.heap.size hi ds (numsP Q (64 * j)) pre X ∧ (mo = 0 ∨ (numsP Q (64 * j)).length + pre.length < mo))
        (fun c pre X => c = Code.exit 0 ∧ Rnd Fv w g mo j W.heap.size hi ds (numsP Q (64 * j)) pre X ∧ mo ≠ 0 ∧ (numsP Q (64 * j)).length + pre.length = mo)
        (OwnFrom.and (Rnd.own (by omega) (by omega) (by omega)) (ownFrom_pure _ _))
        (fun c => Rnd.ownx (by omega) (by omega) (by omega))
        ⟨⟨v, by simpa using HC2.out, HI2.out, fun e => by have := own_block HCR.out.2.1 _ e; have := (World.ownsRow.lt HCR.out.2.1 _ e).2; omega, by omega⟩, by simpa using HGO.out⟩
        (fun x => { tmps := #[Fv, .pointer (some ⟨s, 0, none⟩), .pointer (some ⟨w.heap.size, 0, none⟩), .pointer (some ⟨W.heap.size, 0, none⟩), .int .u64 (m : Nat), .int .i64 x, .agg L, .int .i64 j, .bool true, .int .i64 j, .int .u64 (m : Nat), .int .u64 (m : Nat), .slice (some ⟨W.heap.size + 1, 0, none⟩) 1 1, .func (.func 57) #[] #[.pointer (some ⟨W.heap.size + 2, 0, none⟩)], .int .i64 x, u15, u16, u17, u18, u19, u20, u21, u22], defers := [] }) ?assign ?body ?done ?stop
      case assign =>
        intro l x X K hK
        gi_wp2
        exact hK
      case body =>
        rintro l pre x X ⟨⟨v1, hc1, hi1, hne1, hh1⟩, hgo1⟩ hlt
        have hF := HF.out
        subst hF
        have cY := blk_cell hc1.2.2.1 0
        have cI := blk_cell hi1 0
        have hlz := numsP_le Q (64 * j)
        have hXs : w.heap.size + 1 ≤ X.heap.size := lt_of_block hc1.2.2.1
        have cq : X.cell? ⟨q, 0, none⟩ = some (.int .u16 mo) := (World.cell?_of_block (hc1.2.2.2.1.block q hqw hqg)).trans HQ.out
        have HKL := Lib.hid (wcl_any g (w.heap.size + 1) q mo v1 _ (wrap64 (64 * (j : Int) + x)) X hc1.1 cq hmo hqg (by omega) (by omega) hXs hc1.2.1 (by simp; omega))
        have HC3 := Lib.hid hc1
        have HI3 := Lib.hid hi1
        have HNE := Lib.hid hne1
        have HGO3 := Lib.hid hgo1
        have HLN := Lib.hid (show (numsP Q (64 * j) ++ pre.map fun x => wrap64 (64 * (j : Int) + x)).length = (numsP Q (64 * j)).length + pre.length by simp)
        clear hc1 hi1 hne1 hgo1 cq
        gi_wp2_with fail
        refine ⟨trivial, fun h => by omega, ((callsIn_wide.2 HKL.out).inRound l).mono ?_⟩
        rintro e X' ⟨rfl, v2, hg2, ho2, hG⟩
        have HR := Lib.hid (show Rnd _ w g mo j W.heap.size hi ds (numsP Q (64 * j)) (pre ++ [x]) X' from ⟨v2, by rw [List.map_append, ← List.append_assoc]; exact HC3.out.grew hgw hg2 ho2 hG, hG.1.blk HI3.out (fun hx => by
          rcases hx with e | e
          · omega
          · exact HNE.out e), fun e => by
          rcases hG.2 with e2 | ⟨k, e2, hk⟩
          · exact HNE.out (e2.symm.trans e)
          · rw [e2] at e; cases e; have := lt_of_block HI3.out; omega, Nat.le_trans hh1 hG.1.size⟩)
        have HKF := Lib.hid (hG.keeps (B0 := w2.heap.size) HC3.out.1 HC3.out.2.1)
        have HBE := Lib.hid (show Below g X X' from ⟨hG.1.os, hG.1.tape, hG.1.output, hG.1.size, fun k hk => hG.1.block k (by omega) (fun hx => by
          rcases hx with e | e
          · omega
          · have := own_block HC3.out.2.1 _ e; omega)⟩)
        clear hg2 ho2 hG
        by_cases hst : (numsP Q (64 * j) ++ pre.map fun x => wrap64 (64 * (j : Int) + x)).length + 1 = mo
        · rw [decide_eq_true hst]
          rw [HLN.out] at hst
          gi_wp2
          exact ⟨HKF.out, rfl, HR.out, by omega, by simp; omega⟩
        · rw [decide_eq_false hst]
          rw [HLN.out] at hst
          gi_wp2
          refine ⟨HKF.out, HBE.out, HR.out, ?_⟩
          have := HGO3.out
          simp
          omega
      case done =>
        rintro D xs X hD rfl ⟨⟨v1, hc1, hi1, hne1, hh1⟩, hgo1⟩ hd
        have HC3 := Lib.hid hc1
        have HD3 := Lib.hid hd
        have HGO3 := Lib.hid hgo1
        have hDX := lt_of_block hd
        clear hc1 hi1 hne1 hd hgo1
        gi_wp2
        have hcore : Core Fv w g v1 (numsP Q (64 * (j + 1))) (D + 1) ({ target := .collected D, args := #[] } :: ds) X := by
          rw [word_list Q j hjl, HM.out]
          obtain ⟨c1, c2, c3, c4, c5⟩ := HC3.out
          exact ⟨c1, c2, c3, c4, ⟨D, rfl, by omega, by omega, HD3.out, c5.wide (by omega)⟩⟩
        have hgo : mo = 0 ∨ (numsP Q (64 * (j + 1))).length < mo := by
          rw [word_list Q j hjl, HM.out, List.length_append, List.length_map]
          exact HGO3.out
        refine ⟨⟨j + 1, _, _, _, _, _, _, _, _, _, _, _, _, _, _, _, _, _, _, _, D + 1, v1, rfl, by omega, by omega, hcore, hgo⟩, ?_⟩
        show 7 - (intOf (Value.int .i64 ((j : Int) + 1))).toNat < 7 - (intOf (Value.int .i64 (j : Int))).toNat
        simp [intOf]
        omega
      case stop =>
        rintro D c pre X hD hpre ⟨rfl, ⟨v1, hc1, hi1, hne1, hh1⟩, hm0, hlen⟩ hd
        refine wpIn_exit ?_
        obtain ⟨c1, c2, c3, c4, c5⟩ := hc1
        refine leaves_marks (lo := w.heap.size) (Told w g mo Q) (fun W D h h1 h2 => h.put h1 h2) (fun W h => ⟨_, results_none rfl _ _ _, ⟨_, rfl⟩, h⟩) ({ target := .collected D, args := #[] } :: ds) (D + 1) X ⟨D, rfl, by omega, by omega, hd, c5.wide (by omega)⟩ ⟨v1, _, c1, c2, c4, .inr ⟨?_, hm0, by simpa using hlen⟩⟩
        obtain ⟨t1, ht1⟩ := hpre
        obtain ⟨t2, ht2⟩ := numsP_grow Q (64 * (j + 1)) 448 (by omega)
        refine ⟨(t1.map fun x => wrap64 (64 * (j : Int) + x)) ++ t2, ?_⟩
        rw [ht2, word_list Q j hjl, HM.out, show (numsP m.testBit 64) = pre ++ t1 from ht1.symm, List.map_append]
        simp [List.append_assoc]
    · obtain rfl : j = 7 := by omega
      gi_wp2
      obtain ⟨c1, c2, c3, c4, c5⟩ := HCR.out
      exact leaves_marks (lo := w.heap.size) (Told w g mo Q) (fun W D h h1 h2 => h.put h1 h2) (fun W h => ⟨_, results_none rfl _ _ _, ⟨_, rfl⟩, h⟩) ds hi W c5 ⟨v, _, c1, c2, c4, .inl ⟨rfl, HGO.out⟩⟩
end Go.Proofs.YtjpdfbljhbgbcaaDoor
