/- The period of a set: bound.Lcm (layer 45). -/
import Derived.Test.YtjdoknbmnokkdaaDoorBpB
import Derived.Test.YtjdoknbmnokkdaaDoorCm3
import Derived.LoopN
import Derived.LoopTactic
namespace Go.Proofs.YtjdoknbmnokkdaaDoor
open Go.RowKit Go.Deep
set_option linter.unusedVariables false

theorem wpList_loadMidA {ops : Array Oper} {rest : List Oper} {op : Oper} {a : Act} {w : World} {Q : Exit → Act → World → Prop} (cs : Array Value) (b o : Nat) (hc : w.rangeAt b o cs.toList) (hgd : op.guard = none) (ty : TypeId) (x : Operand) (ho : op.op = .load ty x)
    (hx : a.eval x = .pointer (some ⟨b, o, none⟩)) (d : TypeDesc) (hu : Tryd.prog.underlying ty = some d) (hd : d.isRow = true) (hi : (Tryd.prog.info? ty).map (·.size) = some cs.toList.length)
    (h : wpList Tryd.prog ops Q rest (a.put op.dst (.agg cs)) w) : wpList Tryd.prog ops Q (op :: rest) a w := by
  refine wpList_load_mid hgd ty x ho b o hx cs.toList d hc hu hd hi ?_
  rw [Array.toArray_toList]
  exact h
theorem ClsAt.row {w : World} {A : Option Addr} {cs : List Cl} (h : ClsAt w A cs) (k : Nat) (hk : k < cs.length) : ∃ b off, A = some ⟨b, off, none⟩ ∧ b < w.heap.size ∧ w.rangeAt b (off + k * 30) (clC (nthC cs k)).toList := by
  obtain ⟨b, off, hA, hl, hc⟩ := h k hk
  refine ⟨b, off, hA, hl, ?_⟩
  intro j v hv
  have hj : j < 30 := by
    have := (List.getElem?_eq_some_iff.1 hv).1
    simpa [clC] using this
  rw [hc j hj, ← hv, Array.getElem?_toList]
theorem lcm_facts (a p : Int) (ha : 1 ≤ a) (hp : 1 ≤ p) (hp2 : p ≤ 9223372036854775807) : ∃ g : Nat, Nat.gcd a.natAbs p.natAbs = g ∧ ¬ (g : Int) = 0 ∧ ((g : Int) == 0) = false ∧ ¬ g = 0 ∧ (g == 0) = false ∧ IntKind.i64.wrap (g : Int) = (g : Int) ∧ Int.tdiv p (g : Int) = p / (g : Int) ∧ IntKind.i64.wrap (p / (g : Int)) = p / (g : Int) ∧ I64 (p / (g : Int)) ∧ 1 ≤ a * (p / (g : Int)) := by
  have q := lcm_step a p ha hp
  have q2 := lcm_one a p ha hp
  have g0 := Nat.gcd_pos_of_pos_left p.natAbs (show 0 < a.natAbs by omega)
  have g1 : Nat.gcd a.natAbs p.natAbs ≤ p.natAbs := Nat.le_of_dvd (by omega) (Nat.gcd_dvd_right _ _)
  rw [← q] at q2
  generalize Nat.gcd a.natAbs p.natAbs = g at q q2 g0 g1
  have h1 : p / (g : Int) ≤ p := Int.ediv_le_self _ (by omega)
  have h2 : 0 ≤ p / (g : Int) := Int.ediv_nonneg (by omega) (by omega)
  refine ⟨g, rfl, by omega, by rw [beq_eq_false_iff_ne]; omega, by omega, by rw [beq_eq_false_iff_ne]; omega, IntWalk.i64_in _ ⟨by omega, by omega⟩, Int.tdiv_eq_ediv_of_nonneg (by omega), IntWalk.i64_in _ ⟨by omega, by omega⟩, by unfold I64; omega, q2⟩
theorem ints2_in (a x : Int) (ha : I64 a) (hx : I64 x) : ∀ z ∈ [a, x], I64 z := by
  intro z hz
  simp at hz
  rcases hz with rfl | rfl <;> assumption
set_option maxHeartbeats 3200000 in
set_option maxRecDepth 20000 in
theorem clcm_any (A : Option Addr) (d : Nat) (cs : List Cl) (w : World) (hl : cs.length ≤ 1000) (hc : ClsAt w A cs) (hin : ∀ k, k < cs.length → ClIn (nthC cs k)) (hst : ∀ k, k < cs.length → I64 (nthC cs k).st) (hT : TabUn w) :
    Calls Tryd.prog 38 #[.slice A cs.length d] w fun e w' => e = .returned (perV (lcmO cs 1)) ∧ Below w.heap.size w w' := by
  have HC := Lib.hid hc
  have HT := Lib.hid hT
  have HL := Lib.hid hl
  have KP := Lib.hid (fun k hk W h => cper_any (nthC cs k) (hin k hk) (hst k hk) W h)
  have HPL := Lib.hid (fun k hk p h => per_le (nthC cs k) p (hst k hk) h)
  have HPP := Lib.hid (fun k p h => per_pos (nthC cs k) p h)
  have HD := Lib.hid (fun a k hk => lcmO_drop cs a k hk)
  have HEN := Lib.hid (fun a => lcmO_end cs a)
  have HI := Lib.hid (show lcmO (cs.drop 0) 1 = lcmO cs 1 from rfl)
  have HB0 := Lib.hid (Below.refl w.heap.size w)
  generalize lcmO cs 1 = mo at HI ⊢
  clear hc hin hst hT hl
  go_enter Tryd.func38, Tryd.ntmps38
  go_wp2
  go_loopw [4, 11] (fun x i wr => ∃ (k : Nat) (a : Int), k ≤ cs.length ∧ i = .int .i64 k ∧ x = .int .i64 a ∧ Below w.heap.size w wr ∧ Hid (1 ≤ a ∧ a ≤ 9223372036854775807 ∧ lcmO (cs.drop k) a = mo)) (fun _ i _ => cs.length - (intOf i).toNat)
  case atStart => exact ⟨0, 1, by omega, rfl, rfl, HB0.out, Lib.hid ⟨by omega, by omega, HI.out⟩⟩
  case round =>
    obtain ⟨k, a, hk, rfl, rfl, hb, HA⟩ := hrel
    have HB := Lib.hid hb
    by_cases hlt : k < cs.length
    · obtain ⟨b, off, rfl, hbl, hr1⟩ := (HC.out.below hb).row k hlt
      have d0 : decide (k < cs.length) = true := dec_t hlt
      have ik0 : (0 : Int) ≤ (k : Int) := by omega
      have ik1 : (k : Int) < (cs.length : Int) := by omega
      have hl := HL.out
      have hw0 : IntKind.i64.wrap ((k : Int) + 1) = (k : Int) + 1 := IntWalk.i64_in _ ⟨by omega, by omega⟩
      have HST := Lib.hid (HD.out a k hlt)
      have HK := Lib.hid (And.intro hk hlt)
      have HN := Lib.hid (blk_new wr (.cells clZ 70))
      have KP1 := Lib.hid (fun W h => KP.out k hlt W h)
      have HPL1 := Lib.hid (fun p h => HPL.out k hlt p h)
      have HPP1 := Lib.hid (fun p h => HPP.out k p h)
      generalize nthC cs k = c at hr1 HST KP1 HPL1 HPP1
      have HR1 := Lib.hid hr1
      have HC6 := Lib.hid (show ClAt ((wr.alloc (.cells clZ 70)).setRow wr.heap.size (clC c)) wr.heap.size c from row_set HN.out)
      have HB6 := Lib.hid (Below.but (HB.out.alloc HB.out.size (.cells clZ 70)) (row_but (wr.alloc (.cells clZ 70)) wr.heap.size (clC c)) (fun i hi hx => by have := HB.out.size; omega))
      have KM1 := KP1.out ((wr.alloc (.cells clZ 70)).setRow wr.heap.size (clC c)) (HT.out.bel HB6.out)
      generalize hpo : perO c = po at KM1 HST HPL1 HPP1
      unfold clV at KM1
      clear hb hk hlt hbl hr1 HB hl KP1
      cases po with
      | none =>
        unfold perV at KM1
        have HE := Lib.hid (show mo = none from by rw [← HA.out.2.2, HST.out])
        go_wp2_with (first | (refine wpList_loadMidA _ _ _ HR1.out rfl _ _ rfl rfl _ Tryd.underlying70 rfl (by unfold clC; kernel_rfl) ?_) | (refine wpList_storeRow HN.out (clC c) rfl _ _ _ rfl rfl rfl (by kernel_rfl) (by unfold clC; kernel_rfl) (by unfold clC; kernel_rfl) ?_) | (refine wpList_loadRow HC6.out rfl _ _ rfl rfl _ Tryd.underlying70 rfl (by unfold clC; kernel_rfl) ?_))
        refine KM1.mono ?_
        rintro e w2 ⟨rfl, hb2⟩
        have HB7 := Lib.hid (HB6.out.trans (hb2.mono HB6.out.size))
        clear hb2 KM1
        go_wp2
        go_ret2
        exact ⟨by rw [HE.out]; rfl, HB7.out⟩
      | some p =>
        unfold perV at KM1
        have hp1 := HPP1.out p rfl
        have hp2 := HPL1.out p rfl
        obtain ⟨g, hg, g3, g4, g6, g7, g5, hv2, hv3, hvi, hm1⟩ := lcm_facts a p HA.out.1 hp1 hp2
        have hst2 := HST.out
        simp only at hst2
        rw [hg] at hst2
        have ha2 : I64 a := by have := HA.out; unfold I64; omega
        have hpi : I64 p := by unfold I64; omega
        have KG := Lib.hid (fun W => Nm.gcd_any (some ⟨W.heap.size, 0, none⟩) 2 [a, p] 2 (W.alloc (.cells #[.int .i64 a, .int .i64 p] 2)) rfl (show 2 ≤ 9223372036854775807 by omega) (ints2_in a p ha2 hpi) (ints2_new W a p _))
        rw [gcdL_two, hg] at KG
        generalize p / (g : Int) = v at hst2 hv2 hv3 hvi hm1
        have KTO := Lib.hid (fun h W => Nm.times_ok a v (a * v) W ha2 hvi rfl h)
        have KTN := Lib.hid (fun h W => Nm.times_no a v W ha2 hvi h)
        have HM1 := Lib.hid hm1
        have HST2 := Lib.hid hst2
        clear hg hst2 ha2 hpi hvi hm1 hp1 hp2 HPP1 HPL1 HST hpo
        go_wp2_with (first | (refine wpList_loadMidA _ _ _ HR1.out rfl _ _ rfl rfl _ Tryd.underlying70 rfl (by unfold clC; kernel_rfl) ?_) | (refine wpList_storeRow HN.out (clC c) rfl _ _ _ rfl rfl rfl (by kernel_rfl) (by unfold clC; kernel_rfl) (by unfold clC; kernel_rfl) ?_) | (refine wpList_loadRow HC6.out rfl _ _ rfl rfl _ Tryd.underlying70 rfl (by unfold clC; kernel_rfl) ?_))
        refine KM1.mono ?_
        rintro e w2 ⟨rfl, hb2⟩
        have HB7 := Lib.hid ((HB6.out.trans (hb2.mono HB6.out.size)).alloc (HB6.out.trans (hb2.mono HB6.out.size)).size (.cells #[.int .i64 a, .int .i64 p] 2))
        clear hb2 KM1 HC6 HB6 HN HR1
        go_wp2_with fail
        refine (KG.out w2).mono ?_
        rintro e w3 ⟨rfl, n, rfl⟩
        have HB8 := Lib.hid (HB7.out.trans (below_draws w.heap.size (w2.alloc (.cells #[.int .i64 a, .int .i64 p] 2)) n))
        generalize (w2.alloc (.cells #[.int .i64 a, .int .i64 p] 2)).drewN n = w4 at HB8 ⊢
        clear HB7 KG
        go_wp2_with fail
        by_cases hfit : a * v ≤ 9223372036854775807
        · have HME := Lib.hid (show lcmO (cs.drop (k + 1)) (a * v) = mo from by rw [← HA.out.2.2, HST2.out, if_pos hfit])
          refine (KTO.out (by have := HM1.out; unfold I64; omega) w4).mono ?_
          rintro e w5 ⟨rfl, rfl⟩
          have HF := Lib.hid (And.intro HM1.out hfit)
          generalize a * v = m at HME HF ⊢
          clear hfit HST2 KTO KTN HM1
          go_wp2_with fail
          go_roundw
          case rel => exact ⟨k + 1, m, by have := HK.out; omega, by go_num, rfl, HB8.out, Lib.hid ⟨HF.out.1, HF.out.2, HME.out⟩⟩
          case measure =>
            have := HK.out
            simp [intOf]; omega
        · have HE := Lib.hid (show mo = none from by rw [← HA.out.2.2, HST2.out, if_neg hfit])
          refine (KTN.out (by unfold I64; omega) w4).mono ?_
          rintro e w5 ⟨rfl, rfl⟩
          clear hfit HST2 KTO KTN HM1
          go_wp2
          go_ret2
          exact ⟨by rw [HE.out]; rfl, HB8.out⟩
    · obtain rfl : k = cs.length := by omega
      have d0 : decide (cs.length < cs.length) = false := dec_n (by omega)
      have HE := Lib.hid (show mo = some a by rw [← HA.out.2.2, HEN.out])
      clear hb hk hlt
      go_wp2
      go_ret2
      exact ⟨by rw [HE.out]; rfl, HB.out⟩
end Go.Proofs.YtjdoknbmnokkdaaDoor
