/- Whether clauses may meet, by the document (layer 13). -/
import Derived.Test.YtbfndcogieiejaaDoorCmK
import Derived.Test.YtbfndcogieiejaaDoorCmL
import Derived.Test.YtbfndcogieiejaaDoorCmF
import Derived.LoopN
import Derived.LoopTactic
namespace Go.Proofs.YtbfndcogieiejaaDoor
open Go.RowKit Go.Deep
set_option linter.unusedVariables false

theorem wpList_loadMidA {ops : Array Oper} {rest : List Oper} {op : Oper} {a : Act} {w : World} {Q : Exit → Act → World → Prop} (cs : Array Value) (b o : Nat) (hc : w.rangeAt b o cs.toList) (hgd : op.guard = none) (ty : TypeId) (x : Operand) (ho : op.op = .load ty x)
    (hx : a.eval x = .pointer (some ⟨b, o, none⟩)) (d : TypeDesc) (hu : Tryd.prog.underlying ty = some d) (hd : d.isRow = true) (hi : (Tryd.prog.info? ty).map (·.size) = some cs.toList.length)
    (h : wpList Tryd.prog ops Q rest (a.put op.dst (.agg cs)) w) : wpList Tryd.prog ops Q (op :: rest) a w := by
  refine wpList_load_mid hgd ty x ho b o hx cs.toList d hc hu hd hi ?_
  rw [Array.toArray_toList]
  exact h
theorem ClsAt.at {w : World} {A : Option Addr} {cs : List Cl} (h : ClsAt w A cs) (k : Nat) (hk : k < cs.length) : ∃ b off, A = some ⟨b, off, none⟩ ∧ b < w.heap.size ∧ w.rangeAt b (off + k * 30) (clC (nthC cs k)).toList ∧ w.rangeAt b (off + k * 30 + 8) (ordC (nthC cs k).n (nthC cs k).b (nthC cs k).D).toList ∧
    w.cell? ⟨b, off + k * 30 + 7, none⟩ = some (.bool (nthC cs k).orr) ∧ w.cell? ⟨b, off + k * 30 + 26, none⟩ = some (.int .i64 (nthC cs k).st) := by
  obtain ⟨b, off, hA, hl, hc⟩ := h k hk
  refine ⟨b, off, hA, hl, ?_, ?_, hc 7 (by decide), hc 26 (by decide)⟩
  · intro j v hv
    have hj : j < 30 := by
      have := (List.getElem?_eq_some_iff.1 hv).1
      simpa [clC] using this
    rw [hc j hj, ← hv, Array.getElem?_toList]
  · intro j v hv
    have hj : j < 10 := by
      have := (List.getElem?_eq_some_iff.1 hv).1
      simpa [ordC] using this
    rw [Nat.add_assoc, hc (8 + j) (by omega), ← hv, Array.getElem?_toList]
    match j, hj with
    | 0, _ => rfl
    | 1, _ => rfl
    | 2, _ => rfl
    | 3, _ => rfl
    | 4, _ => rfl
    | 5, _ => rfl
    | 6, _ => rfl
    | 7, _ => rfl
    | 8, _ => rfl
    | 9, _ => rfl
def hasOrd (c : Cl) : Bool := !noO c.n c.b c.D
def hasStep (c : Cl) : Bool := decide (1 < c.st)
def goodC (c : Cl) : Bool := mayB c && !c.orr
/-- how many of the first k clauses .. -/
def cntC (p : Cl → Bool) (cs : List Cl) (k : Nat) : Nat := ((cs.take k).filter p).length
theorem cntC_step (p : Cl → Bool) (cs : List Cl) (k : Nat) (h : k < cs.length) : cntC p cs (k + 1) = cntC p cs k + if p (nthC cs k) = true then 1 else 0 := by
  unfold cntC nthC
  have e : cs.take (k + 1) = cs.take k ++ [cs[k]] := by rw [List.take_add_one, List.getElem?_eq_getElem h]; rfl
  rw [e, List.filter_append, List.length_append, List.getElem?_eq_getElem h]
  simp only [Option.getD_some]
  by_cases hp : p cs[k] = true
  · simp [List.filter, hp]
  · simp [List.filter, hp]
theorem cntC_le (p : Cl → Bool) (cs : List Cl) (k : Nat) : cntC p cs k ≤ k := by
  unfold cntC
  have h1 := List.length_filter_le p (cs.take k)
  have h2 : (cs.take k).length ≤ k := by rw [List.length_take]; omega
  omega
/-- may clauses meet? -/
def meetB (cs : List Cl) : Bool := cs.all goodC && (decide (cntC hasOrd cs cs.length ≤ 1) && decide (cntC hasStep cs cs.length ≤ 1))
theorem good_all (cs : List Cl) (h : ∀ k, k < cs.length → goodC (nthC cs k) = true) : cs.all goodC = true := by
  rw [List.all_eq_true]
  intro c hc
  obtain ⟨j, hj, rfl⟩ := List.getElem_of_mem hc
  have := h j hj
  unfold nthC at this
  rwa [List.getElem?_eq_getElem hj] at this
theorem good_one (cs : List Cl) (k : Nat) (hk : k < cs.length) (h : goodC (nthC cs k) = false) : meetB cs = false := by
  unfold meetB
  have : cs.all goodC = false := by
    rw [List.all_eq_false]
    refine ⟨cs[k], List.getElem_mem hk, ?_⟩
    unfold nthC at h
    rw [List.getElem?_eq_getElem hk] at h
    simp at h
    simp [h]
  rw [this]; rfl
theorem eq_ordW (n : Int) (b : Bool) (D : Nat → Nat) (W : World) : (Op.equalIn 10000 25 (.agg (ordC n b D)) (.agg #[.int .i64 0, .bool false, .int .u64 0, .int .u64 0, .int .u64 0, .int .u64 0, .int .u64 0, .int .u64 0, .int .u64 0, .int .u64 0])).run Tryd.prog W = .ok (noO n b D) W := eq_ord n b D W
theorem range_bel {w w' : World} {b o : Nat} {cs : List Value} (hb : Below w.heap.size w w') (hl : b < w.heap.size) (h : w.rangeAt b o cs) : w'.rangeAt b o cs := fun j v hv => (hb.cell (p := ⟨b, o + j, none⟩) hl).trans (h j v hv)
set_option maxHeartbeats 3200000 in
set_option maxRecDepth 20000 in
theorem rmeet_any (A : Option Addr) (d : Nat) (cs : List Cl) (w : World) (hl : cs.length ≤ 1000) (hc : ClsAt w A cs) (hin : ∀ k, k < cs.length → ClIn (nthC cs k)) :
    Calls Tryd.prog 22 #[.slice A cs.length d] w fun e w' => e = .returned (.bool (meetB cs)) ∧ Below w.heap.size w w' := by
  have hgd := guard_ord
  have HC := Lib.hid hc
  have KM := Lib.hid (fun c h W => rmay_any c h W)
  have HIN := Lib.hid hin
  have HL := Lib.hid hl
  have HG1 := Lib.hid (fun k hk h => good_one cs k hk h)
  have HS1 := Lib.hid (fun k hk => cntC_step hasOrd cs k hk)
  have HS2 := Lib.hid (fun k hk => cntC_step hasStep cs k hk)
  have HL1 := Lib.hid (fun k => cntC_le hasOrd cs k)
  have HL2 := Lib.hid (fun k => cntC_le hasStep cs k)
  have HE := Lib.hid (show (∀ k, k < cs.length → goodC (nthC cs k) = true) → meetB cs = (decide (cntC hasOrd cs cs.length ≤ 1) && decide (cntC hasStep cs cs.length ≤ 1)) from fun h => by
    unfold meetB; rw [good_all cs h]; rfl)
  generalize meetB cs = bb at HG1 HE ⊢
  clear hc hin hl
  go_enter Tryd.func22, Tryd.ntmps22
  go_wp2
  go_loopw [3, 4, 5] (fun o s i wr => ∃ k : Nat, k ≤ cs.length ∧ i = .int .i64 k ∧ o = .int .i64 (cntC hasOrd cs k) ∧ s = .int .i64 (cntC hasStep cs k) ∧ Below w.heap.size w wr ∧ Hid (∀ j, j < k → goodC (nthC cs j) = true)) (fun _ _ i _ => cs.length - (intOf i).toNat)
  case atStart => exact ⟨0, by omega, rfl, rfl, rfl, Below.refl _ _, Lib.hid fun j hj => absurd hj (Nat.not_lt_zero j)⟩
  case round =>
    obtain ⟨k, hk, rfl, rfl, rfl, hb, HA⟩ := hrel
    have HB := Lib.hid hb
    by_cases hlt : k < cs.length
    · have d0 : decide (k < cs.length) = true := dec_t hlt
      obtain ⟨b, off, rfl, hbl, hr1, hr2, x7, x26⟩ := (HC.out.below hb).at k hlt
      have K := KM.out (nthC cs k) (HIN.out k hlt)
      have HN := Lib.hid (HG1.out k hlt)
      have hs1 := HS1.out k hlt
      have hs2 := HS2.out k hlt
      have l1 := HL1.out k
      have l2 := HL2.out k
      have hl := HL.out
      have HA1 := Lib.hid (show goodC (nthC cs k) = true → Hid (∀ j, j < k + 1 → goodC (nthC cs j) = true) from fun h => Lib.hid fun j hj => by
        rcases Nat.lt_or_ge j k with g | g
        · exact HA.out j g
        · obtain rfl : j = k := by omega
          exact h)
      have ik0 : (0 : Int) ≤ (k : Int) := by omega
      have ik1 : (k : Int) < (cs.length : Int) := by omega
      have hw0 : IntKind.i64.wrap ((k : Int) + 1) = (k : Int) + 1 := IntWalk.i64_in _ ⟨by omega, by omega⟩
      generalize nthC cs k = c at hr1 hr2 x7 x26 K HN hs1 hs2 HA1
      have gq : goodC c = (mayB c && !c.orr) := rfl
      have oq : hasOrd c = !noO c.n c.b c.D := rfl
      have sq : hasStep c = decide (1 < c.st) := rfl
      have e1 := fun W => eq_ordW c.n c.b c.D W
      have HR1 := Lib.hid hr1
      have HR2 := Lib.hid hr2
      have HBL := Lib.hid hbl
      generalize goodC c = gc at HN HA1 gq
      generalize hasOrd c = ho at hs1 oq
      generalize hasStep c = hst at hs2 sq
      generalize cntC hasOrd cs k = n1 at hs1 l1 ⊢
      generalize cntC hasStep cs k = n2 at hs2 l2 ⊢
      have hw1 : IntKind.i64.wrap ((n1 : Int) + 1) = (n1 : Int) + 1 := IntWalk.i64_in _ ⟨by omega, by omega⟩
      have hw2 : IntKind.i64.wrap ((n2 : Int) + 1) = (n2 : Int) + 1 := IntWalk.i64_in _ ⟨by omega, by omega⟩
      generalize noO c.n c.b c.D = no at oq e1
      have HK := Lib.hid (And.intro hk hlt)
      have HH1 := Lib.hid hs1
      have HH2 := Lib.hid hs2
      unfold clV at K
      clear hr1 hr2 hk hlt l1 l2 hl hb HA hbl hs1 hs2
      cases hm : mayB c
      · rw [hm] at K gq
        have HF := Lib.hid (show bb = false from HN.out gq)
        clear hm e1 oq sq HH1 HH2 HA1 gq x26
        go_wp2_with (first | (refine wpList_loadMidA _ _ _ HR1.out rfl _ _ rfl rfl _ Tryd.underlying28 rfl (by unfold clC; kernel_rfl) ?_) | (refine wpList_loadMidA _ _ _ HR2.out rfl _ _ rfl rfl _ Tryd.underlying25 rfl (by unfold ordC; kernel_rfl) ?_))
        refine (K _).mono ?_
        rintro e w1 ⟨rfl, hb1⟩
        have HB1 := Lib.hid (HB.out.trans (hb1.mono HB.out.size))
        clear hb1
        go_wp2
        go_ret
        exact ⟨by rw [HF.out]; rfl, HB1.out⟩
      · rw [hm] at K gq
        cases hor : c.orr
        · rw [hor] at gq x7
          have HA2 := Lib.hid (HA1.out gq)
          have dst : decide (1 < c.st) = hst := sq.symm
          clear hm HA1 gq HN hor
          cases no
          · cases hst
            · have T1 := Lib.hid (show cntC hasOrd cs (k + 1) = n1 + 1 by rw [HH1.out, oq]; rfl)
              have T2 := Lib.hid (show cntC hasStep cs (k + 1) = n2 by rw [HH2.out]; rfl)
              clear HH1 HH2 oq sq
              go_wp2_with (refine wpList_loadMidA _ _ _ HR1.out rfl _ _ rfl rfl _ Tryd.underlying28 rfl (by unfold clC; kernel_rfl) ?_)
              refine (K _).mono ?_
              rintro e w1 ⟨rfl, hb1⟩
              have HB1 := Lib.hid (HB.out.trans (hb1.mono HB.out.size))
              have y7 := (hb1.cell (p := ⟨b, off + k * 30 + 7, none⟩) HBL.out).trans x7
              have y26 := (hb1.cell (p := ⟨b, off + k * 30 + 26, none⟩) HBL.out).trans x26
              have HR3 := Lib.hid (range_bel hb1 HBL.out HR2.out)
              clear hb1 x7 x26 K
              go_wp2_with (refine wpList_loadMidA _ _ _ HR3.out rfl _ _ rfl rfl _ Tryd.underlying25 rfl (by unfold ordC; kernel_rfl) ?_)
              go_roundw
              case rel => exact ⟨k + 1, by have := HK.out; omega, by go_num, (by rw [T1.out]; try go_num), (by rw [T2.out]; try go_num), HB1.out, HA2.out⟩
              case measure =>
                have := HK.out
                simp [intOf]; omega
            · have T1 := Lib.hid (show cntC hasOrd cs (k + 1) = n1 + 1 by rw [HH1.out, oq]; rfl)
              have T2 := Lib.hid (show cntC hasStep cs (k + 1) = n2 + 1 by rw [HH2.out]; rfl)
              clear HH1 HH2 oq sq
              go_wp2_with (refine wpList_loadMidA _ _ _ HR1.out rfl _ _ rfl rfl _ Tryd.underlying28 rfl (by unfold clC; kernel_rfl) ?_)
              refine (K _).mono ?_
              rintro e w1 ⟨rfl, hb1⟩
              have HB1 := Lib.hid (HB.out.trans (hb1.mono HB.out.size))
              have y7 := (hb1.cell (p := ⟨b, off + k * 30 + 7, none⟩) HBL.out).trans x7
              have y26 := (hb1.cell (p := ⟨b, off + k * 30 + 26, none⟩) HBL.out).trans x26
              have HR3 := Lib.hid (range_bel hb1 HBL.out HR2.out)
              clear hb1 x7 x26 K
              go_wp2_with (refine wpList_loadMidA _ _ _ HR3.out rfl _ _ rfl rfl _ Tryd.underlying25 rfl (by unfold ordC; kernel_rfl) ?_)
              go_roundw
              case rel => exact ⟨k + 1, by have := HK.out; omega, by go_num, (by rw [T1.out]; try go_num), (by rw [T2.out]; try go_num), HB1.out, HA2.out⟩
              case measure =>
                have := HK.out
                simp [intOf]; omega
          · cases hst
            · have T1 := Lib.hid (show cntC hasOrd cs (k + 1) = n1 by rw [HH1.out, oq]; rfl)
              have T2 := Lib.hid (show cntC hasStep cs (k + 1) = n2 by rw [HH2.out]; rfl)
              clear HH1 HH2 oq sq
              go_wp2_with (refine wpList_loadMidA _ _ _ HR1.out rfl _ _ rfl rfl _ Tryd.underlying28 rfl (by unfold clC; kernel_rfl) ?_)
              refine (K _).mono ?_
              rintro e w1 ⟨rfl, hb1⟩
              have HB1 := Lib.hid (HB.out.trans (hb1.mono HB.out.size))
              have y7 := (hb1.cell (p := ⟨b, off + k * 30 + 7, none⟩) HBL.out).trans x7
              have y26 := (hb1.cell (p := ⟨b, off + k * 30 + 26, none⟩) HBL.out).trans x26
              have HR3 := Lib.hid (range_bel hb1 HBL.out HR2.out)
              clear hb1 x7 x26 K
              go_wp2_with (refine wpList_loadMidA _ _ _ HR3.out rfl _ _ rfl rfl _ Tryd.underlying25 rfl (by unfold ordC; kernel_rfl) ?_)
              go_roundw
              case rel => exact ⟨k + 1, by have := HK.out; omega, by go_num, (by rw [T1.out]; try go_num), (by rw [T2.out]; try go_num), HB1.out, HA2.out⟩
              case measure =>
                have := HK.out
                simp [intOf]; omega
            · have T1 := Lib.hid (show cntC hasOrd cs (k + 1) = n1 by rw [HH1.out, oq]; rfl)
              have T2 := Lib.hid (show cntC hasStep cs (k + 1) = n2 + 1 by rw [HH2.out]; rfl)
              clear HH1 HH2 oq sq
              go_wp2_with (refine wpList_loadMidA _ _ _ HR1.out rfl _ _ rfl rfl _ Tryd.underlying28 rfl (by unfold clC; kernel_rfl) ?_)
              refine (K _).mono ?_
              rintro e w1 ⟨rfl, hb1⟩
              have HB1 := Lib.hid (HB.out.trans (hb1.mono HB.out.size))
              have y7 := (hb1.cell (p := ⟨b, off + k * 30 + 7, none⟩) HBL.out).trans x7
              have y26 := (hb1.cell (p := ⟨b, off + k * 30 + 26, none⟩) HBL.out).trans x26
              have HR3 := Lib.hid (range_bel hb1 HBL.out HR2.out)
              clear hb1 x7 x26 K
              go_wp2_with (refine wpList_loadMidA _ _ _ HR3.out rfl _ _ rfl rfl _ Tryd.underlying25 rfl (by unfold ordC; kernel_rfl) ?_)
              go_roundw
              case rel => exact ⟨k + 1, by have := HK.out; omega, by go_num, (by rw [T1.out]; try go_num), (by rw [T2.out]; try go_num), HB1.out, HA2.out⟩
              case measure =>
                have := HK.out
                simp [intOf]; omega
        · rw [hor] at gq x7
          have HF := Lib.hid (show bb = false from HN.out gq)
          clear hm e1 oq sq HH1 HH2 HA1 gq x26 hor
          go_wp2_with (first | (refine wpList_loadMidA _ _ _ HR1.out rfl _ _ rfl rfl _ Tryd.underlying28 rfl (by unfold clC; kernel_rfl) ?_) | (refine wpList_loadMidA _ _ _ HR2.out rfl _ _ rfl rfl _ Tryd.underlying25 rfl (by unfold ordC; kernel_rfl) ?_))
          refine (K _).mono ?_
          rintro e w1 ⟨rfl, hb1⟩
          have HB1 := Lib.hid (HB.out.trans (hb1.mono HB.out.size))
          have y7 := (hb1.cell (p := ⟨b, off + k * 30 + 7, none⟩) HBL.out).trans x7
          clear hb1 x7
          go_wp2
          go_ret
          exact ⟨by rw [HF.out]; rfl, HB1.out⟩
    · obtain rfl : k = cs.length := by omega
      have HE2 := Lib.hid (HE.out HA.out)
      have d0 : decide (cs.length < cs.length) = false := dec_n (by omega)
      have d0' : decide ((cs.length : Int) < (cs.length : Int)) = false := dec_n (by omega)
      clear hb hlt hk
      generalize cntC hasOrd cs cs.length = n1 at HE2 ⊢
      generalize cntC hasStep cs cs.length = n2 at HE2 ⊢
      by_cases h1 : n1 ≤ 1
      · have d1 : decide (n1 ≤ 1) = true := dec_t h1
        have d1' : decide ((n1 : Int) ≤ 1) = true := dec_t (by omega)
        by_cases h2 : n2 ≤ 1
        · have d2 : decide (n2 ≤ 1) = true := dec_t h2
          have d2' : decide ((n2 : Int) ≤ 1) = true := dec_t (by omega)
          have HE3 := Lib.hid (show bb = true by rw [HE2.out, d1, d2]; rfl)
          clear h1 h2
          go_wp2
          go_ret
          exact ⟨by rw [HE3.out]; rfl, HB.out⟩
        · have d2 : decide (n2 ≤ 1) = false := dec_n h2
          have d2' : decide ((n2 : Int) ≤ 1) = false := dec_n (by omega)
          have HE3 := Lib.hid (show bb = false by rw [HE2.out, d1, d2]; rfl)
          clear h1 h2
          go_wp2
          go_ret
          exact ⟨by rw [HE3.out]; rfl, HB.out⟩
      · have d1 : decide (n1 ≤ 1) = false := dec_n h1
        have d1' : decide ((n1 : Int) ≤ 1) = false := dec_n (by omega)
        have HE3 := Lib.hid (show bb = false by rw [HE2.out, d1]; rfl)
        clear h1
        go_wp2
        go_ret
        exact ⟨by rw [HE3.out]; rfl, HB.out⟩
end Go.Proofs.YtbfndcogieiejaaDoor
