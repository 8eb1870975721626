/- The walk of ClauseMeets (layer 13). -/
import Derived.Test.YtbfndcogieiejaaDoorCmX
import Derived.Test.YtbfndcogieiejaaDoorWalk13F
namespace Go.Proofs.YtbfndcogieiejaaDoor
open Go.RowKit Go.Deep Civ
set_option linter.unusedVariables false

theorem full_inn (t : Int) : hasB fullC t = decide (0 ≤ t ∧ t < 12622780800) := by
  by_cases h : 0 ≤ t ∧ t < 12622780800
  · rw [full_has t h.1 h.2, dec_t h]
  · unfold hasB; rw [dec_n h]; rfl
theorem meetO_in : ∀ (cs : List Cl) (a m : Cl), ClIn a → (∀ c ∈ cs, ClIn c) → meetO cs a = some m → ClIn m
  | [], a, m, ha, _, h => by cases h; exact ha
  | c :: cs, a, m, ha, hin, h => by
    unfold meetO at h
    split at h
    · exact meetO_in cs (mergeC a c) m (in_merge a c ha (hin c (List.mem_cons_self ..))) (fun x hx => hin x (List.mem_cons_of_mem _ hx)) h
    · cases h
theorem nthC_mem {cs : List Cl} {P : Cl → Prop} (h : ∀ k, k < cs.length → P (nthC cs k)) : ∀ c ∈ cs, P c := fun c hc => by
  obtain ⟨j, hj, rfl⟩ := List.getElem_of_mem hc
  have := h j hj
  unfold nthC at this
  rwa [List.getElem?_eq_getElem hj] at this
theorem wv_none (j : Nat) : wv (fun _ => false) j = 0 := Nat.eq_of_testBit_eq fun i => by rw [wv_test]; simp
theorem clD_Z : clC clD = clZ := by
  unfold clC clD clZ
  simp only [wv_none]
  rfl
/-- have the first k clauses the instant, it being one of the window? -/
noncomputable def allK (cs : List Cl) (t : Int) (b : Bool) (k : Nat) : Bool := b && (cs.take k).all fun c => hasB c t
theorem allK_step (cs : List Cl) (t : Int) (b : Bool) (k : Nat) (h : k < cs.length) : allK cs t b (k + 1) = (allK cs t b k && hasB (nthC cs k) t) := by
  unfold allK nthC
  have e : cs.take (k + 1) = cs.take k ++ [cs[k]] := by rw [List.take_add_one, List.getElem?_eq_getElem h]; rfl
  rw [e, List.all_append, List.getElem?_eq_getElem h]
  simp [Bool.and_assoc]
theorem wpList_loadMidG {ops : Array Oper} {rest : List Oper} {op : Oper} {a : Act} {w : World} {Q : Exit → Act → World → Prop} (cs : Array Value) (b o : Nat) (hc : w.rangeAt b o cs.toList) (hw : Region.wanted op (yielded ops a.tmps) = true) (ty : TypeId) (x : Operand) (ho : op.op = .load ty x)
    (hx : a.eval x = .pointer (some ⟨b, o, none⟩)) (d : TypeDesc) (hu : Tryd.prog.underlying ty = some d) (hd : d.isRow = true) (hi : (Tryd.prog.info? ty).map (·.size) = some cs.toList.length)
    (h : wpList Tryd.prog ops Q rest (a.put op.dst (.agg cs)) w) : wpList Tryd.prog ops Q (op :: rest) a w :=
  BigFrame.wpList_want hw fun _ hK => wp_load_mid ty x ho b o hx cs.toList d hc hu hd hi (hK _ _ (by rw [Array.toArray_toList]; exact h))
set_option maxHeartbeats 6400000 in
set_option maxRecDepth 20000 in
theorem clauseMeets_any (A : Option Addr) (d : Nat) (cs : List Cl) (t : Int) (w : World) (hc : ClsAt w A cs) (hin : ∀ k, k < cs.length → ClIn (nthC cs k)) (wt : (Lit.int .i64 t).wf = true) (hT : TabUn w) : Calls Tryd.prog 5 #[.slice A cs.length d, .int .i64 t] w fun e w' => e = .returned (.bool true) ∧ Below w.heap.size w w' := by
  have hti : I64 t := wf_i64 wt
  have HC := Lib.hid hc
  have HT := Lib.hid hT
  have KL := Lib.hid (fun W h => lives13_any W h)
  have HBR := Lib.hid (Below.refl w.heap.size w)
  by_cases hn : 10 < cs.length
  · have d0 : decide (10 < cs.length) = true := dec_t hn
    have d1 : decide ((10 : Int) < (cs.length : Int)) = true := dec_t (by omega)
    have KL0 := KL.out w hT
    clear hc hin wt hT hti hn
    go_enter Tryd.func5, Tryd.ntmps5
    go_wp2_with fail
    refine KL0.mono ?_
    rintro e w1 ⟨rfl, hb⟩
    go_wp2
    go_ret
    exact ⟨rfl, hb⟩
  have d0 : decide (10 < cs.length) = false := dec_n hn
  have d1 : decide ((10 : Int) < (cs.length : Int)) = false := dec_n (by omega)
  have HN := Lib.hid hn
  have KME := cmeet_any A d cs w (by omega) hc hin hT
  have KF := Lib.hid (fun W => cfull_any W)
  have KH := Lib.hid (fun W h => chas_any fullC full_in t W h)
  rw [full_inn] at KH
  have KIN := Lib.hid (fun W => rin08_any t W)
  have KRM := Lib.hid (fun W h => rmeet_any A d cs W (by omega) h hin)
  rw [← meet_ok] at KRM
  have KRH := Lib.hid (fun k hk W => rhas13_any (nthC cs k) (hin k hk) t hti W)
  have HM := Lib.hid (fun m (h : meetO cs fullC = some m) => show mayB m = true ∧ hasB m t = (hasB fullC t && cs.all fun c => hasB c t) from ⟨(meetO_has cs fullC m full_may rfl h).1, (meetO_has cs fullC m full_may rfl h).2 t⟩)
  have HI := Lib.hid (fun m h => meetO_in cs fullC m full_in (nthC_mem hin) h)
  have HF := Lib.hid (full_inn t)
  have HAS := Lib.hid (fun b k h => allK_step cs t b k h)
  have HAE := Lib.hid (fun b => show allK cs t b cs.length = (b && cs.all fun c => hasB c t) from by unfold allK; rw [List.take_length])
  have HA0 := Lib.hid (fun b => show allK cs t b 0 = b from by unfold allK; simp)
  generalize fullC = cf at KME KF KH HM HI HF KRM
  generalize decide (0 ≤ t ∧ t < 12622780800) = inn at KH KIN HF
  generalize hmo : meetO cs cf = mo at KME KRM
  have HMO := Lib.hid hmo
  have HZ := eq_cl clD clD
  rw [clD_Z, eqCl_self] at HZ
  have hgd := guard_cl
  clear hc hin hT wt hn hmo
  unfold clV at KF KH
  go_enter Tryd.func5, Tryd.ntmps5
  cases mo with

  | none =>
    unfold meetV clZ at KME
    go_wp2_with fail
    refine KME.mono ?_
    rintro e w0 ⟨rfl, hb0⟩
    have HN0 := Lib.hid (blk_new w0 (.cells clZ 28))
    have HW0 := Lib.hid (show w.heap.size ≤ w0.heap.size from hb0.size)
    have HR1 := Lib.hid (show ((w0.alloc (.cells clZ 28)).setRow w0.heap.size clZ).heap[w0.heap.size]? = some (.cells clZ 28 (0, 0)) from row_set HN0.out)
    have HB1 := Lib.hid (Below.but (hb0.alloc hb0.size (.cells clZ 28)) (row_but (w0.alloc (.cells clZ 28)) w0.heap.size (clZ)) (fun i hi hx => by have := HW0.out; omega))
    clear hb0 KME
    go_wp2_with (refine wpList_storeRow HN0.out (clZ) rfl _ _ _ rfl rfl rfl (by kernel_rfl) (by unfold clZ; kernel_rfl) (by unfold clZ; kernel_rfl) ?_)
    obtain ⟨W1, hW1⟩ : ∃ W1, (w0.alloc (.cells clZ 28)).setRow w0.heap.size (clZ) = W1 := ⟨_, rfl⟩
    rw [hW1] at HR1 HB1
    unfold clZ at hW1
    try unfold clZ
    rw [hW1]
    clear hW1 HN0
    generalize w0.heap.size = g at *
    have HT1 := Lib.hid (HT.out.bel HB1.out)
    have HC1 := Lib.hid (HC.out.below HB1.out)
    refine (KF.out _).mono ?_
    rintro e w2 ⟨rfl, hb2⟩
    have hB2 : Below W1.heap.size W1 w2 := hb2
    clear hb2
    go_wp2_with fail
    refine (KH.out _ (HT1.out.bel hB2)).mono ?_
    rintro e w3 ⟨rfl, hb3⟩
    have hB3 : Below W1.heap.size W1 w3 := hB2.trans (hb3.mono hB2.size)
    clear hb3
    go_wp2_with fail
    refine (KIN.out _).mono ?_
    rintro e w4 ⟨rfl, rfl⟩
    go_wp2_with fail
    refine (KRM.out _ (HC1.out.below hB3)).mono ?_
    rintro e w5 ⟨rfl, hb5⟩
    have hB5 : Below W1.heap.size W1 w5 := hB3.trans (hb5.mono hB3.size)
    clear hb5
    have HR5 := Lib.hid ((hB5.block _ (lt_of_block HR1.out)).trans HR1.out)
    have HB5 := Lib.hid (HB1.out.trans (hB5.mono HB1.out.size))
    have HL5 := KL.out w5 (HT1.out.bel hB5)
    clear hB2 hB3 hB5
    go_wp2_with (first | (refine wpList_loadRow HR5.out rfl _ _ rfl rfl _ Tryd.underlying28 rfl (by unfold clZ; kernel_rfl) ?_) | (refine wpList_buildIs clZ rfl _ _ rfl (by kernel_rfl) ?_))
    refine HL5.mono ?_
    rintro e w6 ⟨rfl, hb6⟩
    have HB6 := Lib.hid (HB5.out.trans (hb6.mono HB5.out.size))
    clear hb6 HL5
    go_wp2
    go_ret
    exact ⟨rfl, HB6.out⟩
  | some m =>
    have hm := HM.out m HMO.out
    have hi := HI.out m HMO.out
    rw [HF.out] at hm
    unfold meetV clV at KME
    go_wp2_with fail
    refine KME.mono ?_
    rintro e w0 ⟨rfl, hb0⟩
    have HN0 := Lib.hid (blk_new w0 (.cells clZ 28))
    have HW0 := Lib.hid (show w.heap.size ≤ w0.heap.size from hb0.size)
    have HR1 := Lib.hid (show ClAt ((w0.alloc (.cells clZ 28)).setRow w0.heap.size (clC m)) w0.heap.size m from row_set HN0.out)
    have HB1 := Lib.hid (Below.but (hb0.alloc hb0.size (.cells clZ 28)) (row_but (w0.alloc (.cells clZ 28)) w0.heap.size (clC m)) (fun i hi hx => by have := HW0.out; omega))
    clear hb0 KME
    go_wp2_with (refine wpList_storeRow HN0.out (clC m) rfl _ _ _ rfl rfl rfl (by kernel_rfl) (by unfold clC; kernel_rfl) (by unfold clC; kernel_rfl) ?_)
    obtain ⟨W1, hW1⟩ : ∃ W1, (w0.alloc (.cells clZ 28)).setRow w0.heap.size (clC m) = W1 := ⟨_, rfl⟩
    rw [hW1] at HR1 HB1
    unfold clZ at hW1
    try unfold clZ
    rw [hW1]
    clear hW1 HN0
    generalize w0.heap.size = g at *
    have HT1 := Lib.hid (HT.out.bel HB1.out)
    have HC1 := Lib.hid (HC.out.below HB1.out)
    refine (KF.out _).mono ?_
    rintro e w2 ⟨rfl, hb2⟩
    have hB2 : Below W1.heap.size W1 w2 := hb2
    clear hb2
    go_wp2_with fail
    refine (KH.out _ (HT1.out.bel hB2)).mono ?_
    rintro e w3 ⟨rfl, hb3⟩
    have hB3 : Below W1.heap.size W1 w3 := hB2.trans (hb3.mono hB2.size)
    clear hb3
    go_wp2_with fail
    refine (KIN.out _).mono ?_
    rintro e w4 ⟨rfl, rfl⟩
    go_wp2_with fail
    refine (KRM.out _ (HC1.out.below hB3)).mono ?_
    rintro e w5 ⟨rfl, hb5⟩
    have hB5 : Below W1.heap.size W1 w5 := hB3.trans (hb5.mono hB3.size)
    clear hb5
    have HR5 := Lib.hid (show ClAt w5 g m from (hB5.block _ (lt_of_block HR1.out)).trans HR1.out)
    have HB5 := Lib.hid (HB1.out.trans (hB5.mono HB1.out.size))
    have HT5 := Lib.hid (HT1.out.bel hB5)
    have HC5 := Lib.hid (HC1.out.below hB5)
    have KMM := Lib.hid (fun W h => cmay_any m hi W h)
    rw [hm.1] at KMM
    have KHM := Lib.hid (fun W h => chas_any m hi t W h)
    have KRM2 := Lib.hid (fun W => rhas13_any m hi t hti W)
    have HEE := Lib.hid (show allK cs t inn cs.length = hasB m t from by rw [HAE.out, hm.2])
    generalize hasB m t = hb at KHM KRM2 HEE
    clear hB2 hB3 hB5 hm HM HI HF HR1 HB1 HT1 HC1 KRM KH KF HMO
    unfold clV at KMM KHM KRM2
    clear hi hti
    go_wp2_with fail
    refine (KIN.out _).mono ?_
    rintro e w6 ⟨rfl, rfl⟩
    go_wp2_with fail
    go_loopw [7, 8] (fun q i wr => ∃ k : Nat, k ≤ cs.length ∧ i = .int .i64 k ∧ q = .bool (allK cs t inn k) ∧ ClAt wr g m ∧ Below w.heap.size w wr) (fun _ i _ => cs.length - (intOf i).toNat)
    case atStart => exact ⟨0, by omega, rfl, by rw [HA0.out], HR5.out, HB5.out⟩
    case round =>
      obtain ⟨k, hk, rfl, rfl, hr, hb0⟩ := hrel
      have HR := Lib.hid hr
      have HB := Lib.hid hb0
      by_cases hlt : k < cs.length
      · have d2 : decide (k < cs.length) = true := dec_t hlt
        obtain ⟨b, off, rfl, hbl, hr1, hr2, x7, x26⟩ := (HC.out.below hb0).at k hlt
        have HR1 := Lib.hid hr1
        have ik0 : (0 : Int) ≤ (k : Int) := by omega
        have ik1 : (k : Int) < (cs.length : Int) := by omega
        have hn := HN.out
        have hw0 : IntKind.i64.wrap ((k : Int) + 1) = (k : Int) + 1 := IntWalk.i64_in _ ⟨by omega, by omega⟩
        have K := KRH.out k hlt wr
        have HS := Lib.hid (HAS.out inn k hlt)
        have HK := Lib.hid (And.intro hk hlt)
        unfold clV at K
        generalize nthC cs k = c at HR1 K HS
        generalize hasB c t = hq at K HS
        generalize allK cs t inn k = q at HS ⊢
        clear hr hb0 hk hlt hbl hr1 hr2 x7 x26 hn
        cases q
        · have HS2 := Lib.hid (show allK cs t inn (k + 1) = false from HS.out)
          go_wp2_with fail
          go_roundw
          case rel => exact ⟨k + 1, by have := HK.out; omega, by go_num, by rw [HS2.out], HR.out, HB.out⟩
          case measure =>
            have := HK.out
            simp [intOf]; omega
        · have HS2 := Lib.hid (show allK cs t inn (k + 1) = hq from HS.out)
          go_wp2_with (refine wpList_loadMidG _ _ _ HR1.out rfl _ _ rfl rfl _ Tryd.underlying28 rfl (by unfold clC; kernel_rfl) ?_)
          refine K.mono ?_
          rintro e w7 ⟨rfl, hb7⟩
          have HR7 := Lib.hid (HR.out.below hb7)
          have HB7 := Lib.hid (HB.out.trans (hb7.mono HB.out.size))
          clear hb7 K
          go_wp2_with fail
          go_roundw
          case rel => exact ⟨k + 1, by have := HK.out; omega, by go_num, by rw [HS2.out], HR7.out, HB7.out⟩
          case measure =>
            have := HK.out
            simp [intOf]; omega
      · obtain rfl : k = cs.length := by omega
        have d2 : decide (cs.length < cs.length) = false := dec_n (by omega)
        rw [HEE.out]
        have K1 := KMM.out wr (HT.out.bel hb0)
        clear hr hb0 hk hlt
        cases hb
        · go_wp2_with (first | (refine wpList_loadRow HR.out rfl _ _ rfl rfl _ Tryd.underlying28 rfl (by unfold clC; kernel_rfl) ?_) | (refine wpList_loadRowG HR.out rfl _ _ rfl rfl _ Tryd.underlying28 rfl (by unfold clC; kernel_rfl) ?_))
          refine K1.mono ?_
          rintro e v1 ⟨rfl, hb1⟩
          have HR1 := Lib.hid (HR.out.below hb1)
          have HB1 := Lib.hid (HB.out.trans (hb1.mono HB.out.size))
          have K2 := KHM.out v1 (HT.out.bel HB1.out)
          clear hb1 K1
          go_wp2_with (first | (refine wpList_loadRow HR1.out rfl _ _ rfl rfl _ Tryd.underlying28 rfl (by unfold clC; kernel_rfl) ?_) | (refine wpList_loadRowG HR1.out rfl _ _ rfl rfl _ Tryd.underlying28 rfl (by unfold clC; kernel_rfl) ?_))
          refine K2.mono ?_
          rintro e v2 ⟨rfl, hb2⟩
          have HR2 := Lib.hid (HR1.out.below hb2)
          have HB2 := Lib.hid (HB1.out.trans (hb2.mono HB1.out.size))
          have K3 := KRM2.out v2
          clear hb2 K2
          go_wp2_with (first | (refine wpList_loadRow HR2.out rfl _ _ rfl rfl _ Tryd.underlying28 rfl (by unfold clC; kernel_rfl) ?_) | (refine wpList_loadRowG HR2.out rfl _ _ rfl rfl _ Tryd.underlying28 rfl (by unfold clC; kernel_rfl) ?_))
          refine K3.mono ?_
          rintro e v3 ⟨rfl, hb3⟩
          have HB3 := Lib.hid (HB2.out.trans (hb3.mono HB2.out.size))
          have K4 := KL.out v3 (HT.out.bel HB3.out)
          clear hb3 K3
          go_wp2_with fail
          refine K4.mono ?_
          rintro e v4 ⟨rfl, hb4⟩
          have HB4 := Lib.hid (HB3.out.trans (hb4.mono HB3.out.size))
          clear hb4 K4
          go_wp2
          go_ret
          exact ⟨rfl, HB4.out⟩
        · go_wp2_with (first | (refine wpList_loadRow HR.out rfl _ _ rfl rfl _ Tryd.underlying28 rfl (by unfold clC; kernel_rfl) ?_) | (refine wpList_loadRowG HR.out rfl _ _ rfl rfl _ Tryd.underlying28 rfl (by unfold clC; kernel_rfl) ?_))
          refine K1.mono ?_
          rintro e v1 ⟨rfl, hb1⟩
          have HR1 := Lib.hid (HR.out.below hb1)
          have HB1 := Lib.hid (HB.out.trans (hb1.mono HB.out.size))
          have K2 := KHM.out v1 (HT.out.bel HB1.out)
          clear hb1 K1
          go_wp2_with (first | (refine wpList_loadRow HR1.out rfl _ _ rfl rfl _ Tryd.underlying28 rfl (by unfold clC; kernel_rfl) ?_) | (refine wpList_loadRowG HR1.out rfl _ _ rfl rfl _ Tryd.underlying28 rfl (by unfold clC; kernel_rfl) ?_))
          refine K2.mono ?_
          rintro e v2 ⟨rfl, hb2⟩
          have HR2 := Lib.hid (HR1.out.below hb2)
          have HB2 := Lib.hid (HB1.out.trans (hb2.mono HB1.out.size))
          have K3 := KRM2.out v2
          clear hb2 K2
          go_wp2_with (first | (refine wpList_loadRow HR2.out rfl _ _ rfl rfl _ Tryd.underlying28 rfl (by unfold clC; kernel_rfl) ?_) | (refine wpList_loadRowG HR2.out rfl _ _ rfl rfl _ Tryd.underlying28 rfl (by unfold clC; kernel_rfl) ?_))
          refine K3.mono ?_
          rintro e v3 ⟨rfl, hb3⟩
          have HB3 := Lib.hid (HB2.out.trans (hb3.mono HB2.out.size))
          have K4 := KL.out v3 (HT.out.bel HB3.out)
          clear hb3 K3
          go_wp2_with fail
          refine K4.mono ?_
          rintro e v4 ⟨rfl, hb4⟩
          have HB4 := Lib.hid (HB3.out.trans (hb4.mono HB3.out.size))
          clear hb4 K4
          go_wp2
          go_ret
          exact ⟨rfl, HB4.out⟩
end Go.Proofs.YtbfndcogieiejaaDoor
