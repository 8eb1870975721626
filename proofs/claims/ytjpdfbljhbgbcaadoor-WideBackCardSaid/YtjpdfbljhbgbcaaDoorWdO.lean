/- What a set's iterator does with the function of WideBack (layer 4). -/
import Derived.Test.YtjpdfbljhbgbcaaDoorWdN
namespace Go.Proofs.YtjpdfbljhbgbcaaDoor
open Go.RowKit Go.Shelf
set_option linter.unusedVariables false
attribute [local go_sem] Oper.semAt_some

set_option maxHeartbeats 3200000 in
set_option maxRecDepth 100000 in
theorem witerb_in (n : Nat) (hn : 5 ≤ n) (Q : Nat → Bool) (s g mo : Nat) (hmo0 : mo = 0) (w : World) (hs : Sev w s (wv Q)) (hg : w.heap[g]? = some (.cells #[.slice none 0 0] 26 (0, 0))) (hT : Tab w) (hTg : 1 < g) :
    CallsIn Fence.wide n Tryd.prog 44 #[.func (.func 28) #[] #[.pointer (some ⟨g, 0, none⟩)], .pointer (some ⟨s, 0, none⟩)] w fun e W' => (∃ v, e = .returned v) ∧ Told w g mo Q W' := by
  refine callsIn_of_wp_marks Tryd.func44 rfl trivial ?_ rfl
  simp only [Tryd.ntmps44, List.size_toArray, List.length_cons, List.length_nil, Nat.reduceAdd, Nat.reduceSub, Array.replicate_succ, Array.replicate_zero, List.push_toArray, List.append_toArray, List.nil_append, List.cons_append]
  have hgw := lt_of_block hg
  have HM0 := Lib.hid hmo0
  clear hmo0
  obtain ⟨Fv, hFv⟩ : ∃ Fv, Fv = Value.func (.func 28) #[] #[.pointer (some ⟨g, 0, none⟩)] := ⟨_, rfl⟩
  have HC0 := Lib.hid (show Core Fv w g (.slice none 0 0) [] 0 [] (w.alloc (.cells #[Fv] 31)) from ⟨blk_more hg _, OwnI.nil _ _, blk_new w _, (But.refl _ w).alloc _, trivial⟩)
  have HS := Lib.hid (hs.alloc (.cells #[Fv] 31))
  obtain ⟨W0, hW0⟩ : ∃ W0, w.alloc (.cells #[Fv] 31) = W0 := ⟨_, rfl⟩
  rw [hW0] at HC0 HS
  have HIX := Lib.hid (fun j (h : j < 7) W => idx7 (wv Q) j h W)
  obtain ⟨x0, x1, x2, x3, x4, x5, x6⟩ := HS.out.cells
  have HN0 := Lib.hid (show numsP Q (64 * 0) = [] from rfl)
  have HT := Lib.hid hT
  clear hs hg hT
  rw [← hFv]
  have HF := Lib.hid hFv
  clear hFv
  gi_wp2
  try rw [hW0]
  clear hW0
  refine wpIn_scope_wide ?_
  refine wpIn_seq (wpIn_label ?_)
  gi_wp2
  change Code.wpIn _ _ _ _ _ { tmps := #[Fv, .pointer (some ⟨s, 0, none⟩), .pointer (some ⟨w.heap.size, 0, none⟩), undef, undef, undef, .agg (c7 (wv Q)), .int .i64 0, undef, undef, undef, undef, undef, undef, undef, undef, undef, undef, undef, undef, undef, undef, undef], defers := [] } _
  generalize c7 (wv Q) = L at HIX ⊢
  clear x0 x1 x2 x3 x4 x5 x6 HS
  refine wpIn_loop (fun a' W => ∃ (j : Nat) (u3 u4 u5 u8 u9 u10 u11 u12 u13 u14 u15 u16 u17 u18 u19 u20 u21 u22 : Value) (ds : List Deferred) (hi : Nat) (v : Value), a' = { tmps := #[Fv, .pointer (some ⟨s, 0, none⟩), .pointer (some ⟨w.heap.size, 0, none⟩), u3, u4, u5, .agg L, .int .i64 j, u8, u9, u10, u11, u12, u13, u14, u15, u16, u17, u18, u19, u20, u21, u22], defers := ds } ∧ j ≤ 7 ∧ hi ≤ W.heap.size ∧ Core Fv w g v (numsP Q (64 * j)) hi ds W ∧ (mo = 0 ∨ (numsP Q (64 * j)).length < mo)) (fun a' _ => 7 - (intOf (a'.tmps.getD 7 undef)).toNat) ?start ?round
  case start =>
    exact ⟨0, _, _, _, _, _, _, _, _, _, _, _, _, _, _, _, _, _, _, [], 0, _, rfl, by omega, by omega, by rw [HN0.out]; exact HC0.out, by rw [HN0.out]; exact .inl HM0.out⟩
  case round =>
    rintro a W ⟨j, u3, u4, u5, u8, u9, u10, u11, u12, u13, u14, u15, u16, u17, u18, u19, u20, u21, u22, ds, hi, v, rfl, hj, hhi, hcore, hgo⟩
    have HCR := Lib.hid hcore
    have HGO := Lib.hid hgo
    clear hcore hgo
    by_cases hjl : j < 7
    · have hg := HIX.out j hjl
      have hml := wv_lt Q j
      have d4 : decide ((j : Int) < 7) = true := decide_eq_true (by omega)
      have HK := Lib.hid (fun (W1 : World) (g1 : Nat) (h : W1.heap[g1]? = some (.cells #[.int .u64 (wv Q j : Nat)] 22 (0, 0))) => mask_one (wv Q j) g1 W1 hml h)
      generalize hm : wv Q j = m at hg HK hml
      have HM := Lib.hid hm
      have HB1 := Lib.hid (blk_new (W.alloc (.cells #[.int .i64 j] 3)) (.cells #[.int .u64 (m : Nat)] 22))
      rw [World.size_alloc] at HB1
      have HI1 := Lib.hid (blk_more (blk_new W (.cells #[.int .i64 j] 3)) (.cells #[.int .u64 (m : Nat)] 22))
      have HC1 := Lib.hid (show Core Fv w g v (numsP Q (64 * j)) hi ds ((W.alloc (.cells #[.int .i64 j] 3)).alloc (.cells #[.int .u64 (m : Nat)] 22)) from (HCR.out.alloc hhi).alloc (by simp; omega))
      obtain ⟨W1, hW1⟩ : ∃ W1, (W.alloc (.cells #[.int .i64 j] 3)).alloc (.cells #[.int .u64 (m : Nat)] 22) = W1 := ⟨_, rfl⟩
      rw [hW1] at HB1 HI1 HC1
      have hs1 : W1.heap.size = W.heap.size + 2 := by rw [← hW1]; simp
      clear hm
      gi_wp2_with fail
      refine ⟨trivial, fun h => by omega, (callsIn_wide.2 (HK.out W1 _ HB1.out)).mono ?_⟩
      rintro e w2 ⟨rfl, hbx, hb2⟩
      have hs2 := hb2.size
      have hwW : w.heap.size ≤ W.heap.size := HCR.out.2.2.2.1.size
      rw [hs1] at hbx
      have hbx1 := lt_of_block hbx
      have HC2 := Lib.hid (HC1.out.below (by omega) hb2)
      have HI2 := Lib.hid ((hb2.block _ (lt_of_block HI1.out)).trans HI1.out)
      have HBX := Lib.hid hbx
      clear hbx hb2
      gi_wp2
      refine wpIn_rangeFunc_ownG rfl (by omega) (gf := 57) (lb := #[.pointer (some ⟨W.heap.size + 2, 0, none⟩)]) rfl trivial (enters_of Tryd.func57 (by kernel_rfl) rfl)
        (mseq_stops (n - 1) (by omega) (fun i => m.testBit i) (W.heap.size + 2) g w2 hbx1 (by omega) (by rw [mk_self m hml, blk_cell HBX.out]; rfl) (HT.out.but HC2.out.2.2.2.1 (by omega)) hTg) belowK_t (belowK_b (by omega)) (Below.refl _ _) (fun _ => rfl)
        (fun pre X => Rnd Fv w g mo j W.heap.size hi ds (numsP Q (64 * j)) pre X ∧ (mo = 0 ∨ (numsP Q (64 * j)).length + pre.length < mo))
        (fun c pre X => c = Code.exit 0 ∧ Rnd Fv w g mo j W.heap.size hi ds (numsP Q (64 * j)) pre X ∧ mo ≠ 0 ∧ (numsP Q (64 * j)).length + pre.length = mo)
        (OwnFrom.and (Rnd.own (by omega) (by omega) (by omega)) (ownFrom_pure _ _))
        (fun c => Rnd.ownx (by omega) (by omega) (by omega))
        ⟨⟨v, by simpa using HC2.out, HI2.out, fun e => by have := own_block HCR.out.2.1 _ e; have := (World.ownsRow.lt HCR.out.2.1 _ e).2; omega, by omega⟩, by simpa using HGO.out⟩
        (fun x => { tmps := #[Fv, .pointer (some ⟨s, 0, none⟩), .pointer (some ⟨w.heap.size, 0, none⟩), .pointer (some ⟨W.heap.size, 0, none⟩), .int .u64 (m : Nat), .int .i64 x, .agg L, .int .i64 j, .bool true, .int .i64 j, .int .u64 (m : Nat), .int .u64 (m : Nat), .slice (some ⟨W.heap.size + 1, 0, none⟩) 1 1, .func (.func 57) #[] #[.pointer (some ⟨W.heap.size + 2, 0, none⟩)], .int .i64 x, u15, u16, u17, u18, u19, u20, u21, u22], defers := [] }) ?assign ?body ?done ?stop
      case assign =>
        intro l x X K hK
        gi_wp2
        exact hK
      case body =>
        rintro l pre x X ⟨⟨v1, hc1, hi1, hne1, hh1⟩, hgo1⟩ hlt
        have hF := HF.out
        subst hF
        have cY := blk_cell hc1.2.2.1 0
        have cI := blk_cell hi1 0
        have hlz := numsP_le Q (64 * j)
        have hXs : w.heap.size + 1 ≤ X.heap.size := lt_of_block hc1.2.2.1
        have HKL := Lib.hid (wcb_any g (w.heap.size + 1) v1 _ (wrap64 (64 * (j : Int) + x)) X hc1.1 (by omega) hXs hc1.2.1 (by simp; omega))
        have HC3 := Lib.hid hc1
        have HI3 := Lib.hid hi1
        have HNE := Lib.hid hne1
        have HGO3 := Lib.hid hgo1
        have HLN := Lib.hid (show (numsP Q (64 * j) ++ pre.map fun x => wrap64 (64 * (j : Int) + x)).length = (numsP Q (64 * j)).length + pre.length by simp)
        clear hc1 hi1 hne1 hgo1
        gi_wp2_with fail
        refine ⟨trivial, fun h => by omega, ((callsIn_wide.2 HKL.out).inRound l).mono ?_⟩
        rintro e X' ⟨rfl, v2, hg2, ho2, hG⟩
        have HR := Lib.hid (show Rnd _ w g mo j W.heap.size hi ds (numsP Q (64 * j)) (pre ++ [x]) X' from ⟨v2, by rw [List.map_append, ← List.append_assoc]; exact HC3.out.grew hgw hg2 ho2 hG, hG.1.blk HI3.out (fun hx => by
          rcases hx with e | e
          · omega
          · exact HNE.out e), fun e => by
          rcases hG.2 with e2 | ⟨k, e2, hk⟩
          · exact HNE.out (e2.symm.trans e)
          · rw [e2] at e; cases e; have := lt_of_block HI3.out; omega, Nat.le_trans hh1 hG.1.size⟩)
        have HKF := Lib.hid (hG.keeps (B0 := w2.heap.size) HC3.out.1 HC3.out.2.1)
        have HBE := Lib.hid (show Below g X X' from ⟨hG.1.os, hG.1.tape, hG.1.output, hG.1.size, fun k hk => hG.1.block k (by omega) (fun hx => by
          rcases hx with e | e
          · omega
          · have := own_block HC3.out.2.1 _ e; omega)⟩)
        clear hg2 ho2 hG
        gi_wp2
        exact ⟨HKF.out, HBE.out, HR.out, .inl HM0.out⟩
      case done =>
        rintro D xs X hD rfl ⟨⟨v1, hc1, hi1, hne1, hh1⟩, hgo1⟩ hd
        have HC3 := Lib.hid hc1
        have HD3 := Lib.hid hd
        have HGO3 := Lib.hid hgo1
        have hDX := lt_of_block hd
        clear hc1 hi1 hne1 hd hgo1
        gi_wp2
        have hcore : Core Fv w g v1 (numsP Q (64 * (j + 1))) (D + 1) ({ target := .collected D, args := #[] } :: ds) X := by
          rw [word_list Q j hjl, HM.out]
          obtain ⟨c1, c2, c3, c4, c5⟩ := HC3.out
          exact ⟨c1, c2, c3, c4, ⟨D, rfl, by omega, by omega, HD3.out, c5.wide (by omega)⟩⟩
        have hgo : mo = 0 ∨ (numsP Q (64 * (j + 1))).length < mo := by
          rw [word_list Q j hjl, HM.out, List.length_append, List.length_map]
          exact HGO3.out
        refine ⟨⟨j + 1, _, _, _, _, _, _, _, _, _, _, _, _, _, _, _, _, _, _, _, D + 1, v1, rfl, by omega, by omega, hcore, hgo⟩, ?_⟩
        show 7 - (intOf (Value.int .i64 ((j : Int) + 1))).toNat < 7 - (intOf (Value.int .i64 (j : Int))).toNat
        simp [intOf]
        omega
      case stop =>
        rintro D c pre X hD hpre ⟨rfl, ⟨v1, hc1, hi1, hne1, hh1⟩, hm0, hlen⟩ hd
        exact absurd HM0.out hm0
    · obtain rfl : j = 7 := by omega
      gi_wp2
      obtain ⟨c1, c2, c3, c4, c5⟩ := HCR.out
      exact leaves_marks (lo := w.heap.size) (Told w g mo Q) (fun W D h h1 h2 => h.put h1 h2) (fun W h => ⟨_, results_none rfl _ _ _, ⟨_, rfl⟩, h⟩) ds hi W c5 ⟨v, _, c1, c2, c4, .inl ⟨rfl, HGO.out⟩⟩
end Go.Proofs.YtjpdfbljhbgbcaaDoor
