/- clause.Meet (layer 13). -/
import Derived.Test.YtbfndcogieiejaaDoorCmU
namespace Go.Proofs.YtbfndcogieiejaaDoor
open Go.RowKit Go.Deep
set_option linter.unusedVariables false

theorem results30b {fn : Func} {p u : Tmp} {tmps : Array Value} {w : World} {g : Nat} {c : Cl} {v : Value} (h : fn.results = #[.cell p 28, .tmp u]) (hp : tmps.getD p undef = .pointer (some ⟨g, 0, none⟩)) (hg : w.heap[g]? = some (.cells (clC c) 28 (0, 0))) (hv : tmps.getD u undef = v) : (results fn tmps).run Tryd.prog w = .ok (.tuple #[clV c, v]) w := by
  have hp' : tmps[p]?.getD undef = .pointer (some ⟨g, 0, none⟩) := by simpa using hp
  have hv' : tmps[u]?.getD undef = v := by simpa using hv
  simp [results, h, hp', hv', asAddr, run_loadVar_row w g _ _ (clC c) (0, 0) _ hg Tryd.underlying28 rfl (by unfold clC; kernel_rfl), clV]
theorem results30z {fn : Func} {p u : Tmp} {tmps : Array Value} {w : World} {g : Nat} {v : Value} (h : fn.results = #[.cell p 28, .tmp u]) (hp : tmps.getD p undef = .pointer (some ⟨g, 0, none⟩)) (hg : w.heap[g]? = some (.cells clZ 28 (0, 0))) (hv : tmps.getD u undef = v) : (results fn tmps).run Tryd.prog w = .ok (.tuple #[.agg clZ, v]) w := by
  have hp' : tmps[p]?.getD undef = .pointer (some ⟨g, 0, none⟩) := by simpa using hp
  have hv' : tmps[u]?.getD undef = v := by simpa using hv
  simp [results, h, hp', hv', asAddr, run_loadVar_row w g _ _ clZ (0, 0) _ hg Tryd.underlying28 rfl (by unfold clZ; kernel_rfl)]
/-- the answer of clause.Meet -/
def meetV (o : Option Cl) : Value := match o with
  | some m => .tuple #[clV m, .bool true]
  | none => .tuple #[.agg clZ, .bool false]
set_option maxHeartbeats 3200000 in
set_option maxRecDepth 20000 in
theorem cmeet_any (A : Option Addr) (d : Nat) (cs : List Cl) (w : World) (hl : cs.length ≤ 1000) (hc : ClsAt w A cs) (hin : ∀ k, k < cs.length → ClIn (nthC cs k)) (hT : TabUn w) :
    Calls Tryd.prog 20 #[.slice A cs.length d] w fun e w' => e = .returned (meetV (meetO cs fullC)) ∧ Below w.heap.size w w' := by
  have HC := Lib.hid hc
  have HIN := Lib.hid hin
  have HT := Lib.hid hT
  have HL := Lib.hid hl
  have KF := Lib.hid (fun W => cfull_any W)
  have KM := Lib.hid (fun c h W t => cmay_any c h W t)
  have KO := Lib.hid (fun a c g W h => joinOrd_any a c g W h)
  have KS := Lib.hid (fun a c g W h => joinStep_any a c g W h)
  have HNO := Lib.hid (fun a k hk h => meetO_none cs a k hk h)
  have HST := Lib.hid (fun a k hk h => meetO_step cs a k hk h)
  have HEN := Lib.hid (fun a => meetO_end cs a)
  have HI := Lib.hid (show meetO (cs.drop 0) fullC = meetO cs fullC from rfl)
  have hf : ClIn fullC := by
    refine ⟨by decide, by decide, by decide, by decide, by decide, by decide, by decide, fun i => ?_⟩
    show (0 : Nat) < 18446744073709551616
    decide
  have HF := Lib.hid (And.intro hf (show mayB fullC = true by decide +kernel))
  have HR0 := Lib.hid (blk_new w (.cells clZ 28))
  have HB0 := Lib.hid (show Below w.heap.size w (w.alloc (.cells clZ 28)) from (Below.refl _ _).alloc (Nat.le_refl _) _)
  generalize meetO cs fullC = mo at HI ⊢
  have K1 := KF.out (w.alloc (.cells clZ 28))
  unfold clV at K1
  generalize fullC = a0 at K1 HI HF
  clear hc hin hT hl hf KF
  unfold clZ at K1
  go_enter Tryd.func20, Tryd.ntmps20
  go_wp2_with fail
  refine K1.mono ?_
  rintro e w1 ⟨rfl, hb1⟩
  have HR1 := Lib.hid ((hb1.block _ (lt_of_block HR0.out)).trans HR0.out)
  have HB1 := Lib.hid (HB0.out.trans (hb1.mono HB0.out.size))
  clear hb1 HR0 HB0 K1
  have HN := Lib.hid (blk_new w1 (.cells clZ 28))
  go_wp2_with (refine wpList_storeRow HN.out (clC a0) rfl _ _ _ rfl rfl rfl (by kernel_rfl) (by unfold clC; kernel_rfl) (by unfold clC; kernel_rfl) ?_)
  have HG2 := Lib.hid (show ClAt ((w1.alloc (.cells clZ 28)).setRow w1.heap.size (clC a0)) w1.heap.size a0 from row_set HN.out)
  have HR2 := Lib.hid ((row_but (w1.alloc (.cells clZ 28)) w1.heap.size (clC a0)).blk (blk_more HR1.out (.cells clZ 28)) (by have := lt_of_block HR1.out; omega))
  have HB2 := Lib.hid (Below.but (HB1.out.alloc HB1.out.size (.cells clZ 28)) (row_but (w1.alloc (.cells clZ 28)) w1.heap.size (clC a0)) (fun i hi hx => by have := HB1.out.size; have := lt_of_block HR1.out; omega))
  have HWG := Lib.hid (lt_of_block HR1.out)
  clear HN HR1 HB1
  generalize w1.heap.size = G at *
  go_loopw [10] (fun i wr => ∃ (k : Nat) (a : Cl), k ≤ cs.length ∧ i = .int .i64 k ∧ ClAt wr G a ∧ wr.heap[w.heap.size]? = some (.cells clZ 28 (0, 0)) ∧ Below w.heap.size w wr ∧ Hid (ClIn a ∧ mayB a = true ∧ meetO (cs.drop k) a = mo)) (fun i _ => cs.length - (intOf i).toNat)
  case atStart => exact ⟨0, a0, by omega, rfl, HG2.out, HR2.out, HB2.out, Lib.hid ⟨HF.out.1, HF.out.2, HI.out⟩⟩
  case round =>
    obtain ⟨k, a, hk, rfl, hg, hr, hb, HA⟩ := hrel
    have HG := Lib.hid hg
    have HR := Lib.hid hr
    have HB := Lib.hid hb
    by_cases hlt : k < cs.length
    · obtain ⟨b, off, rfl, hbl, hr1, hr2, x7, x26⟩ := (HC.out.below hb).at k hlt
      have d0 : decide (k < cs.length) = true := dec_t hlt
      have ik0 : (0 : Int) ≤ (k : Int) := by omega
      have ik1 : (k : Int) < (cs.length : Int) := by omega
      have hcin := HIN.out k hlt
      have HST1 := Lib.hid (fun h => HST.out a k hlt h)
      have HNO1 := Lib.hid (fun h => HNO.out a k hlt h)
      have HK := Lib.hid (And.intro hk hlt)
      generalize nthC cs k = c at hr1 hr2 x7 x26 hcin HST1 HNO1
      have HR1 := Lib.hid hr1
      have HCI := Lib.hid hcin
      have HN := Lib.hid (blk_new wr (.cells clZ 28))
      have hGl := lt_of_block hg
      have hRl := lt_of_block hr
      have HC6 := Lib.hid (show ClAt ((wr.alloc (.cells clZ 28)).setRow wr.heap.size (clC c)) wr.heap.size c from row_set HN.out)
      have HG6 := Lib.hid (show ClAt ((wr.alloc (.cells clZ 28)).setRow wr.heap.size (clC c)) G a from (row_but _ wr.heap.size (clC c)).blk (blk_more HG.out (.cells clZ 28)) (by omega))
      have HR6 := Lib.hid ((row_but (wr.alloc (.cells clZ 28)) wr.heap.size (clC c)).blk (blk_more HR.out (.cells clZ 28)) (by omega))
      have HB6 := Lib.hid (Below.but (HB.out.alloc HB.out.size (.cells clZ 28)) (row_but (wr.alloc (.cells clZ 28)) wr.heap.size (clC c)) (fun i hi hx => by have := HB.out.size; omega))
      have HNG := Lib.hid (show G < wr.heap.size ∧ w.heap.size < wr.heap.size from ⟨hGl, hRl⟩)
      have KM1 := KM.out c hcin ((wr.alloc (.cells clZ 28)).setRow wr.heap.size (clC c)) (HT.out.bel HB6.out)
      unfold clV at KM1
      clear hg hr hb hk hlt hbl hr1 hr2 x7 x26 hcin hGl hRl HG HR HB
      go_wp2_with (first | (refine wpList_loadMidA _ _ _ HR1.out rfl _ _ rfl rfl _ Tryd.underlying28 rfl (by unfold clC; kernel_rfl) ?_) | (refine wpList_storeRow HN.out (clC c) rfl _ _ _ rfl rfl rfl (by kernel_rfl) (by unfold clC; kernel_rfl) (by unfold clC; kernel_rfl) ?_) | (refine wpList_loadRow HC6.out rfl _ _ rfl rfl _ Tryd.underlying28 rfl (by unfold clC; kernel_rfl) ?_))
      refine KM1.mono ?_
      rintro e w2 ⟨rfl, hb2⟩
      have HC7 := Lib.hid (HC6.out.below hb2)
      have HG7 := Lib.hid (HG6.out.below hb2)
      have HR7 := Lib.hid ((hb2.block _ (lt_of_block HR6.out)).trans HR6.out)
      have HB7 := Lib.hid (HB6.out.trans (hb2.mono HB6.out.size))
      clear hb2 KM1 HC6 HG6 HR6 HB6 HN HR1
      have hok : okJ a c = ((mayB c && !c.orr) && (ordOk a c && stepOk (ordJ a c) c)) := rfl
      have y7 : w2.cell? ⟨wr.heap.size, 7, none⟩ = some (.bool c.orr) := blk_cell HC7.out 7
      cases hm : mayB c
      · have HE := Lib.hid (show mo = none from by rw [← HA.out.2.2]; exact HNO1.out (by rw [hok, hm]; rfl))
        clear hok hm HNO1 HST1 y7
        go_wp2_with (first | (refine wpList_buildIs clZ rfl _ _ rfl (by kernel_rfl) ?_) | (refine wpList_storeRow HR7.out clZ rfl _ _ _ rfl rfl rfl (by kernel_rfl) (by kernel_rfl) (by kernel_rfl) ?_))
        refine bodyPost_ret (results30z rfl rfl (row_set HR7.out) rfl) rfl ⟨by rw [HE.out]; rfl, Below.but HB7.out (row_but _ _ _) (fun i hi hx => by omega)⟩
      · cases hor : c.orr
        · rw [hor] at y7
          have KO1 := KO.out a c G w2 HG7.out
          unfold clV at KO1
          go_wp2_with (refine wpList_loadRowG HC7.out rfl _ _ rfl rfl _ Tryd.underlying28 rfl (by unfold clC; kernel_rfl) ?_)
          refine KO1.mono ?_
          rintro e w3 ⟨rfl, hj, hbt⟩
          have hng := HNG.out
          have hwg := HWG.out
          have HC8 := Lib.hid (show ClAt w3 wr.heap.size c from hbt.blk HC7.out (by omega))
          have HR8 := Lib.hid (hbt.blk HR7.out (by omega))
          have HB8 := Lib.hid (Below.but HB7.out hbt (fun i hi hx => by omega))
          have HJ := Lib.hid hj
          clear hj hbt KO1 y7 HC7 HG7 HR7 HB7
          cases hoo : ordOk a c
          · have HE := Lib.hid (show mo = none from by rw [← HA.out.2.2]; exact HNO1.out (by rw [hok, hm, hor, hoo]; rfl))
            clear hok hm hor hoo HNO1 HST1 HJ hng hwg
            go_wp2_with (first | (refine wpList_buildIs clZ rfl _ _ rfl (by kernel_rfl) ?_) | (refine wpList_storeRow HR8.out clZ rfl _ _ _ rfl rfl rfl (by kernel_rfl) (by kernel_rfl) (by kernel_rfl) ?_))
            refine bodyPost_ret (results30z rfl rfl (row_set HR8.out) rfl) rfl ⟨by rw [HE.out]; rfl, Below.but HB8.out (row_but _ _ _) (fun i hi hx => by omega)⟩
          · have HG8 := Lib.hid (HJ.out hoo)
            have KS1 := KS.out (ordJ a c) c G w3 HG8.out
            unfold clV at KS1
            clear hng hwg
            go_wp2_with (refine wpList_loadRowG HC8.out rfl _ _ rfl rfl _ Tryd.underlying28 rfl (by unfold clC; kernel_rfl) ?_)
            refine KS1.mono ?_
            rintro e w4 ⟨rfl, hj, hbt⟩
            have hng := HNG.out
            have hwg := HWG.out
            have HC9 := Lib.hid (show ClAt w4 wr.heap.size c from hbt.blk HC8.out (by omega))
            have HR9 := Lib.hid (hbt.blk HR8.out (by omega))
            have HB9 := Lib.hid (Below.but HB8.out hbt (fun i hi hx => by omega))
            have HJ2 := Lib.hid hj
            clear hj hbt KS1 HC8 HG8 HR8 HB8 HJ
            cases hss : stepOk (ordJ a c) c
            · have HE := Lib.hid (show mo = none from by rw [← HA.out.2.2]; exact HNO1.out (by rw [hok, hm, hor, hoo, hss]; rfl))
              clear hok hm hor hoo HNO1 HST1 HJ2 hng hwg hss
              go_wp2_with (first | (refine wpList_buildIs clZ rfl _ _ rfl (by kernel_rfl) ?_) | (refine wpList_storeRow HR9.out clZ rfl _ _ _ rfl rfl rfl (by kernel_rfl) (by kernel_rfl) (by kernel_rfl) ?_))
              refine bodyPost_ret (results30z rfl rfl (row_set HR9.out) rfl) rfl ⟨by rw [HE.out]; rfl, Below.but HB9.out (row_but _ _ _) (fun i hi hx => by omega)⟩
            · have HG9 := Lib.hid (show ClAt w4 G (joinC a c) from HJ2.out hss)
              have HJM := Lib.hid (join_masks a c)
              have hji := in_join a c HA.out.1 HCI.out
              have HMG := Lib.hid (show mergeC a c = { joinC a c with s := a.s &&& c.s, m := a.m &&& c.m, h := a.h &&& c.h, mo := a.mo &&& c.mo, d := a.d &&& c.d, e := a.e &&& c.e, wk := a.wk &&& c.wk, P := andP [a.P, c.P], fr := if c.fr > a.fr then c.fr else a.fr, un := if c.un < a.un then c.un else a.un } from rfl)
              have HME := Lib.hid (show meetO (cs.drop (k + 1)) (mergeC a c) = mo from by rw [← HA.out.2.2]; exact (HST1.out (by rw [hok, hm, hor, hoo, hss]; rfl)).symm)
              have HMI := Lib.hid (in_merge a c HA.out.1 HCI.out)
              have HMM := Lib.hid (may_merge a c HA.out.2.1 hm)
              generalize joinC a c = j at HG9 HJM hji HMG
              have hci := HCI.out
              have o0 := and_natC j.s c.s hji.1 hci.1
              have o1 := and_natC j.m c.m hji.2.1 hci.2.1
              have o2 := and_natC j.h c.h hji.2.2.1 hci.2.2.1
              have o3 := and_natC j.mo c.mo hji.2.2.2.1 hci.2.2.2.1
              have o4 := and_natC j.d c.d hji.2.2.2.2.1 hci.2.2.2.2.1
              have o5 := and_natC j.e c.e hji.2.2.2.2.2.1 hci.2.2.2.2.2.1
              have o6 := and_natC j.wk c.wk hji.2.2.2.2.2.2.1 hci.2.2.2.2.2.2.1
              obtain ⟨x0, x1, x2, x3, x4, x5, x6⟩ := HC9.out.masks
              obtain ⟨y0, y1, y2, y3, y4, y5, y6⟩ := HG9.out.masks
              obtain ⟨xa, xb, xc, xd, xe, xf, xg⟩ := HC9.out.years
              obtain ⟨ya, yb, yc, yd, ye, yf, yg⟩ := HG9.out.years
              have z0 := blk_free HG9.out 0
              have z1 := blk_free HG9.out 1
              have z2 := blk_free HG9.out 2
              have z3 := blk_free HG9.out 3
              have z4 := blk_free HG9.out 4
              have z5 := blk_free HG9.out 5
              have z6 := blk_free HG9.out 6
              have hne : G ≠ wr.heap.size := by omega
              have hne' : wr.heap.size ≠ G := by omega
              clear hok hm hor hoo hss HNO1 HST1 HJ2 hng hwg hji hci
              go_wp2_with fail
              have HGM := Lib.hid (HG9.out.put7m c)
              have HBT := Lib.hid ((((((((But.refl (fun i => i = G) w4).setCell (p := ⟨G, 0, none⟩) (.inr rfl) (.int .u64 (j.s &&& c.s : Nat))).setCell (p := ⟨G, 1, none⟩) (.inr rfl) (.int .u64 (j.m &&& c.m : Nat))).setCell (p := ⟨G, 2, none⟩) (.inr rfl) (.int .u64 (j.h &&& c.h : Nat))).setCell (p := ⟨G, 3, none⟩) (.inr rfl) (.int .u64 (j.mo &&& c.mo : Nat))).setCell (p := ⟨G, 4, none⟩) (.inr rfl) (.int .u64 (j.d &&& c.d : Nat))).setCell (p := ⟨G, 5, none⟩) (.inr rfl) (.int .u64 (j.e &&& c.e : Nat))).setCell (p := ⟨G, 6, none⟩) (.inr rfl) (.int .u64 (j.wk &&& c.wk : Nat)))
              have HCM := Lib.hid (show ClAt _ wr.heap.size c from HBT.out.blk HC9.out (by omega))
              have HRM := Lib.hid (HBT.out.blk HR9.out (by have := HWG.out; omega))
              have HBM := Lib.hid (Below.but HB9.out HBT.out (fun i hi hx => by have := HWG.out; omega))
              clear o0 o1 o2 o3 o4 o5 o6 x0 x1 x2 x3 x4 x5 x6 y0 y1 y2 y3 y4 y5 y6 z0 z1 z2 z3 z4 z5 z6 xa xb xc xd xe xf xg ya yb yc yd ye yf yg
              obtain ⟨W7, hW7⟩ : ∃ W7, W7 = (((((((w4.setCell ⟨G, 0, none⟩ (.int .u64 (j.s &&& c.s : Nat))).setCell ⟨G, 1, none⟩ (.int .u64 (j.m &&& c.m : Nat))).setCell ⟨G, 2, none⟩ (.int .u64 (j.h &&& c.h : Nat))).setCell ⟨G, 3, none⟩ (.int .u64 (j.mo &&& c.mo : Nat))).setCell ⟨G, 4, none⟩ (.int .u64 (j.d &&& c.d : Nat))).setCell ⟨G, 5, none⟩ (.int .u64 (j.e &&& c.e : Nat))).setCell ⟨G, 6, none⟩ (.int .u64 (j.wk &&& c.wk : Nat))) := ⟨_, rfl⟩
              obtain ⟨j2, hj2⟩ : ∃ x : Cl, x = { j with s := j.s &&& c.s, m := j.m &&& c.m, h := j.h &&& c.h, mo := j.mo &&& c.mo, d := j.d &&& c.d, e := j.e &&& c.e, wk := j.wk &&& c.wk } := ⟨_, rfl⟩
              have hz7 : W7.heap.size = w4.heap.size := by rw [hW7]; simp only [World.size_setCell]
              rw [← hW7, ← hj2] at HGM
              rw [← hW7] at HCM HRM HBM
              have e7 : j2.P = j.P ∧ j2.fr = j.fr ∧ j2.un = j.un := by rw [hj2]; exact ⟨rfl, rfl, rfl⟩
              have HMG2 := Lib.hid (show mergeC a c = { j2 with P := andP [j.P, c.P], fr := if c.fr > j.fr then c.fr else j.fr, un := if c.un < j.un then c.un else j.un } from by
                obtain ⟨e0, e1, e2, e3, e4, e5, e6, e8, e9, e10⟩ := HJM.out
                rw [HMG.out, hj2, e0, e1, e2, e3, e4, e5, e6, e8, e9, e10])
              rw [← hW7]
              have KB : Calls Tryd.prog 56 #[.slice (some ⟨w4.heap.size, 0, none⟩) 2 2] (W7.alloc (.cells #[.int .u64 (wv j.P 0 : Nat), .int .u64 (wv j.P 1 : Nat), .int .u64 (wv j.P 2 : Nat), .int .u64 (wv j.P 3 : Nat), .int .u64 (wv j.P 4 : Nat), .int .u64 (wv j.P 5 : Nat), .int .u64 (wv j.P 6 : Nat), .int .u64 (wv c.P 0 : Nat), .int .u64 (wv c.P 1 : Nat), .int .u64 (wv c.P 2 : Nat), .int .u64 (wv c.P 3 : Nat), .int .u64 (wv c.P 4 : Nat), .int .u64 (wv c.P 5 : Nat), .int .u64 (wv c.P 6 : Nat)] 26)) fun e w' => e = .returned (S7 (andP [j.P, c.P])) ∧ Below (W7.alloc (.cells #[.int .u64 (wv j.P 0 : Nat), .int .u64 (wv j.P 1 : Nat), .int .u64 (wv j.P 2 : Nat), .int .u64 (wv j.P 3 : Nat), .int .u64 (wv j.P 4 : Nat), .int .u64 (wv j.P 5 : Nat), .int .u64 (wv j.P 6 : Nat), .int .u64 (wv c.P 0 : Nat), .int .u64 (wv c.P 1 : Nat), .int .u64 (wv c.P 2 : Nat), .int .u64 (wv c.P 3 : Nat), .int .u64 (wv c.P 4 : Nat), .int .u64 (wv c.P 5 : Nat), .int .u64 (wv c.P 6 : Nat)] 26)).heap.size (W7.alloc (.cells #[.int .u64 (wv j.P 0 : Nat), .int .u64 (wv j.P 1 : Nat), .int .u64 (wv j.P 2 : Nat), .int .u64 (wv j.P 3 : Nat), .int .u64 (wv j.P 4 : Nat), .int .u64 (wv j.P 5 : Nat), .int .u64 (wv j.P 6 : Nat), .int .u64 (wv c.P 0 : Nat), .int .u64 (wv c.P 1 : Nat), .int .u64 (wv c.P 2 : Nat), .int .u64 (wv c.P 3 : Nat), .int .u64 (wv c.P 4 : Nat), .int .u64 (wv c.P 5 : Nat), .int .u64 (wv c.P 6 : Nat)] 26)) w' := both_any (some ⟨w4.heap.size, 0, none⟩) 2 [j.P, c.P] _ (show 2 ≤ 1000000 by omega) (by rw [← hz7]; exact sets_two W7 j.P c.P _ _ rfl)
              clear HMG HJM HBT hW7 hj2 hz7
              generalize andP [j.P, c.P] = Q at KB HMG2
              unfold S7 c7 at KB
              generalize (Obj.cells #[.int .u64 (wv j.P 0 : Nat), .int .u64 (wv j.P 1 : Nat), .int .u64 (wv j.P 2 : Nat), .int .u64 (wv j.P 3 : Nat), .int .u64 (wv j.P 4 : Nat), .int .u64 (wv j.P 5 : Nat), .int .u64 (wv j.P 6 : Nat), .int .u64 (wv c.P 0 : Nat), .int .u64 (wv c.P 1 : Nat), .int .u64 (wv c.P 2 : Nat), .int .u64 (wv c.P 3 : Nat), .int .u64 (wv c.P 4 : Nat), .int .u64 (wv c.P 5 : Nat), .int .u64 (wv c.P 6 : Nat)] 26) = ob at KB ⊢
              refine KB.mono ?_
              rintro e w5 ⟨rfl, hb5⟩
              have HG10 := Lib.hid ((show ClAt (W7.alloc ob) G j2 from blk_more HGM.out ob).below hb5)
              have HC10 := Lib.hid ((show ClAt (W7.alloc ob) wr.heap.size c from blk_more HCM.out ob).below hb5)
              have HR10 := Lib.hid ((hb5.block _ (lt_of_block (blk_more HRM.out ob))).trans (blk_more HRM.out ob))
              have HB10 := Lib.hid ((HBM.out.alloc HBM.out.size ob).trans (hb5.mono (HBM.out.alloc HBM.out.size ob).size))
              clear hb5 KB HGM HCM HRM HBM
              have z18 := blk_free HG10.out 18
              have z19 := blk_free HG10.out 19
              have z20 := blk_free HG10.out 20
              have z21 := blk_free HG10.out 21
              have z22 := blk_free HG10.out 22
              have z23 := blk_free HG10.out 23
              have z24 := blk_free HG10.out 24
              obtain ⟨ya, yb, yc, yd, ye, yf, yg⟩ := HG10.out.years
              have HG11 := Lib.hid (HG10.out.putY Q)
              have HBT2 := Lib.hid ((((((((But.refl (fun i => i = G) w5).setCell (p := ⟨G, 18, none⟩) (.inr rfl) (.int .u64 (wv Q 0 : Nat))).setCell (p := ⟨G, 19, none⟩) (.inr rfl) (.int .u64 (wv Q 1 : Nat))).setCell (p := ⟨G, 20, none⟩) (.inr rfl) (.int .u64 (wv Q 2 : Nat))).setCell (p := ⟨G, 21, none⟩) (.inr rfl) (.int .u64 (wv Q 3 : Nat))).setCell (p := ⟨G, 22, none⟩) (.inr rfl) (.int .u64 (wv Q 4 : Nat))).setCell (p := ⟨G, 23, none⟩) (.inr rfl) (.int .u64 (wv Q 5 : Nat))).setCell (p := ⟨G, 24, none⟩) (.inr rfl) (.int .u64 (wv Q 6 : Nat)))
              have HC11 := Lib.hid (show ClAt _ wr.heap.size c from HBT2.out.blk HC10.out (by have := HWG.out; have := HNG.out; omega))
              have HR11 := Lib.hid (HBT2.out.blk HR10.out (by have := HWG.out; omega))
              have HB11 := Lib.hid (Below.but HB10.out HBT2.out (fun i hi hx => by have := HWG.out; omega))
              clear HG10 HBT2 HC10 HR10 HB10
              go_wp2_with fail
              obtain ⟨W8, hW8⟩ : ∃ W8, W8 = (((((((w5.setCell ⟨G, 18, none⟩ (.int .u64 (wv Q 0 : Nat))).setCell ⟨G, 19, none⟩ (.int .u64 (wv Q 1 : Nat))).setCell ⟨G, 20, none⟩ (.int .u64 (wv Q 2 : Nat))).setCell ⟨G, 21, none⟩ (.int .u64 (wv Q 3 : Nat))).setCell ⟨G, 22, none⟩ (.int .u64 (wv Q 4 : Nat))).setCell ⟨G, 23, none⟩ (.int .u64 (wv Q 5 : Nat))).setCell ⟨G, 24, none⟩ (.int .u64 (wv Q 6 : Nat))) := ⟨_, rfl⟩
              rw [← hW8] at HG11 HC11 HR11 HB11
              rw [← hW8]
              clear hW8
              obtain ⟨X, hX⟩ : ∃ X, (if c.fr > j.fr then c.fr else j.fr) = X := ⟨_, rfl⟩
              obtain ⟨Y, hY⟩ : ∃ Y, (if c.un < j.un then c.un else j.un) = Y := ⟨_, rfl⟩
              rw [hX, hY] at HMG2
              have y28 : W8.cell? ⟨G, 28, none⟩ = some (.int .i64 j.fr) := by rw [← e7.2.1]; exact blk_cell HG11.out 28
              have y29 : W8.cell? ⟨G, 29, none⟩ = some (.int .i64 j.un) := by rw [← e7.2.2]; exact blk_cell HG11.out 29
              have x28 : W8.cell? ⟨wr.heap.size, 28, none⟩ = some (.int .i64 c.fr) := blk_cell HC11.out 28
              have x29 : W8.cell? ⟨wr.heap.size, 29, none⟩ = some (.int .i64 c.un) := blk_cell HC11.out 29
              have z28 := blk_free HG11.out 28
              have z29 := blk_free HG11.out 29
              have HG12 := Lib.hid (show ClAt _ G (mergeC a c) from by rw [HMG2.out]; exact (HG11.out.putS X Y).drew)
              have HBT3 := Lib.hid (((But.refl (fun i => i = G) W8).setCell (p := ⟨G, 28, none⟩) (.inr rfl) (.int .i64 X)).setCell (p := ⟨G, 29, none⟩) (.inr rfl) (.int .i64 Y)).drew
              have HR12 := Lib.hid (HBT3.out.blk HR11.out (by have := HWG.out; omega))
              have HB12 := Lib.hid (Below.but HB11.out HBT3.out (fun i hi hx => by have := HWG.out; omega))
              generalize mergeC a c = mm at HG12 HME HMI HMM
              clear HMG2 HG11 HBT3 HC11 HR11 HB11 e7 z18 z19 z20 z21 z22 z23 z24 ya yb yc yd ye yf yg
              go_region
              have k2 : k < 1000 := by have := HK.out; have := HL.out; omega
              clear y28 y29 x28 x29 z28 z29 hX hY
              go_wp2_with fail
              go_roundw
              case rel => exact ⟨k + 1, mm, by have := HK.out; omega, by go_num, HG12.out, HR12.out, HB12.out, Lib.hid ⟨HMI.out, HMM.out, HME.out⟩⟩
              case measure =>
                have := HK.out
                simp [intOf]; omega
        · rw [hor] at y7
          have HE := Lib.hid (show mo = none from by rw [← HA.out.2.2]; exact HNO1.out (by rw [hok, hm, hor]; rfl))
          clear hok hm hor HNO1 HST1
          go_wp2_with (first | (refine wpList_buildIs clZ rfl _ _ rfl (by kernel_rfl) ?_) | (refine wpList_storeRow HR7.out clZ rfl _ _ _ rfl rfl rfl (by kernel_rfl) (by kernel_rfl) (by kernel_rfl) ?_))
          refine bodyPost_ret (results30z rfl rfl (row_set HR7.out) rfl) rfl ⟨by rw [HE.out]; rfl, Below.but HB7.out (row_but _ _ _) (fun i hi hx => by omega)⟩
    · obtain rfl : k = cs.length := by omega
      have d0 : decide (cs.length < cs.length) = false := dec_n (by omega)
      have HE := Lib.hid (show mo = some a by rw [← HA.out.2.2, HEN.out])
      clear hg hr hb hk hlt
      go_wp2_with (first | (refine wpList_loadRow HG.out rfl _ _ rfl rfl _ Tryd.underlying28 rfl (by unfold clC; kernel_rfl) ?_) | (refine wpList_storeRow HR.out (clC a) rfl _ _ _ rfl rfl rfl (by kernel_rfl) (by unfold clC; kernel_rfl) (by unfold clC; kernel_rfl) ?_))
      refine bodyPost_ret (results30b rfl rfl (row_set HR.out) rfl) rfl ⟨by rw [HE.out]; rfl, Below.but HB.out (row_but _ _ _) (fun i hi hx => by omega)⟩
end Go.Proofs.YtbfndcogieiejaaDoor
