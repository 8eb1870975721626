/- The walk of BoundPeriods (layer 45). -/
import Derived.Test.YtjdoknbmnokkdaaDoorBpD
import Derived.Test.YtjdoknbmnokkdaaDoorBpL
namespace Go.Proofs.YtjdoknbmnokkdaaDoor
open Go.RowKit Go.Deep
set_option linter.unusedVariables false

/-- have the first k clauses a period? -/
def allP (cs : List Cl) (k : Nat) : Bool := (cs.take k).all fun c => (perO c).isSome
theorem allP_step (cs : List Cl) (k : Nat) (h : k < cs.length) : allP cs (k + 1) = (allP cs k && (perO (nthC cs k)).isSome) := by
  unfold allP nthC
  have e : cs.take (k + 1) = cs.take k ++ [cs[k]] := by rw [List.take_add_one, List.getElem?_eq_getElem h]; rfl
  rw [e, List.all_append, List.getElem?_eq_getElem h]
  simp
/-- is a number less than the set's period, and a multiple of the first k? -/
def mulK (cs : List Cl) (x m : Int) (k : Nat) : Bool := decide (x < m) && (cs.take k).all fun c => decide (Int.tmod x (perZ (perO c)) = 0)
theorem mulK_step (cs : List Cl) (x m : Int) (k : Nat) (h : k < cs.length) : mulK cs x m (k + 1) = (mulK cs x m k && decide (Int.tmod x (perZ (perO (nthC cs k))) = 0)) := by
  unfold mulK nthC
  have e : cs.take (k + 1) = cs.take k ++ [cs[k]] := by rw [List.take_add_one, List.getElem?_eq_getElem h]; rfl
  rw [e, List.all_append, List.getElem?_eq_getElem h]
  simp [Bool.and_assoc]
theorem nthC_in (cs : List Cl) (k : Nat) (h : k < cs.length) : nthC cs k ∈ cs := by
  unfold nthC
  rw [List.getElem?_eq_getElem h]
  exact List.getElem_mem h
theorem lcm_all (cs : List Cl) (m : Int) (h : lcmO cs 1 = some m) : 1 ≤ m ∧ allP cs cs.length = true ∧ ∀ k, k < cs.length → ∃ p, perO (nthC cs k) = some p ∧ 1 ≤ p ∧ Int.tmod m p = 0 := by
  obtain ⟨h1, _, h3, _⟩ := lcmO_spec cs 1 m (by omega) h
  refine ⟨h1, ?_, fun k hk => ?_⟩
  · unfold allP
    rw [List.take_length, List.all_eq_true]
    intro c hc
    obtain ⟨p, hp, _⟩ := h3 c hc
    rw [hp]; rfl
  · obtain ⟨p, hp, hd⟩ := h3 _ (nthC_in cs k hk)
    exact ⟨p, hp, per_pos _ p hp, Int.tmod_eq_zero_of_dvd hd⟩
theorem mul_no (cs : List Cl) (x m : Int) (h : lcmO cs 1 = some m) (hx : 1 ≤ x) : mulK cs x m cs.length = false := by
  obtain ⟨h1, _, _, h4⟩ := lcmO_spec cs 1 m (by omega) h
  unfold mulK
  by_cases hlt : x < m
  · rw [dec_t hlt, List.take_length, Bool.true_and]
    cases ha : (cs.all fun c => decide (Int.tmod x (perZ (perO c)) = 0))
    · rfl
    · exfalso
      rw [List.all_eq_true] at ha
      have hd : m ∣ x := h4 x (Int.one_dvd x) fun c hc p hp => by
        have q := ha c hc
        rw [hp, decide_eq_true_eq] at q
        exact Int.dvd_of_tmod_eq_zero q
      have := Int.le_of_dvd (by omega) hd
      omega
  · rw [dec_n hlt]; rfl
theorem tmod_le (x p : Int) (hx : 0 ≤ x) (hp : 1 ≤ p) : 0 ≤ Int.tmod x p ∧ Int.tmod x p < p := ⟨Int.tmod_nonneg _ hx, Int.tmod_lt_of_pos _ (by omega)⟩
theorem range_belB {w w' : World} {b o : Nat} {cs : List Value} (hb : Below w.heap.size w w') (hl : b < w.heap.size) (h : w.rangeAt b o cs) : w'.rangeAt b o cs := fun j v hv => (hb.cell (p := ⟨b, o + j, none⟩) hl).trans (h j v hv)
set_option maxHeartbeats 6400000 in
set_option maxRecDepth 20000 in
theorem boundPeriods_any (A : Option Addr) (d : Nat) (cs : List Cl) (kk : Int) (w : World) (hc : ClsAt w A cs) (hin : ∀ k, k < cs.length → ClIn (nthC cs k)) (hst : ∀ k, k < cs.length → I64 (nthC cs k).st) (wk : (Lit.int .u16 kk).wf = true) (hT : TabUn w) : Calls Tryd.prog 8 #[.slice A cs.length d, .int .u16 kk] w fun e w' => e = .returned (.bool true) ∧ Below w.heap.size w w' := by
  obtain ⟨kn, rfl, hkn⟩ := wf_u16 wk
  have HC := Lib.hid hc
  have HT := Lib.hid hT
  have KL := Lib.hid (fun W h => lives45_any W h)
  have HB0 := Lib.hid (Below.refl w.heap.size w)
  by_cases hn : 8 < cs.length
  · have d0 : decide (8 < cs.length) = true := dec_t hn
    have d1 : decide ((8 : Int) < (cs.length : Int)) = true := dec_t (by omega)
    have KL0 := KL.out w hT
    clear hc hin wk hT hst hn hkn
    go_enter Tryd.func8, Tryd.ntmps8
    go_wp2_with fail
    refine KL0.mono ?_
    rintro e w1 ⟨rfl, hb⟩
    go_wp2
    go_ret
    exact ⟨rfl, hb⟩
  have d0 : decide (8 < cs.length) = false := dec_n hn
  have d1 : decide ((8 : Int) < (cs.length : Int)) = false := dec_n (by omega)
  have HN := Lib.hid hn
  have KLC := Lib.hid (fun W h1 h2 => clcm_any A d cs W (by omega) h1 hin hst h2)
  have KP := Lib.hid (fun k hk W h => cper_any (nthC cs k) (hin k hk) (hst k hk) W h)
  have KR := Lib.hid (fun k hk W => rper_any (nthC cs k) (hin k hk) (hst k hk) W)
  have HPP := Lib.hid (fun k p (h : perO (nthC cs k) = some p) => per_pos (nthC cs k) p h)
  have HPL := Lib.hid (fun k hk p (h : perO (nthC cs k) = some p) => per_le (nthC cs k) p (hst k hk) h)
  have HAS := Lib.hid (fun k h => allP_step cs k h)
  have HA0 := Lib.hid (show allP cs 0 = true from rfl)
  have HLA := Lib.hid (fun m h => lcm_all cs m h)
  have HMS := Lib.hid (fun x m k h => mulK_step cs x m k h)
  have HM0 := Lib.hid (fun x m => show mulK cs x m 0 = decide (x < m) from by unfold mulK; simp)
  have HMN := Lib.hid (fun x m h hx => mul_no cs x m h hx)
  generalize hlo : lcmO cs 1 = lo at KLC
  have HLO := Lib.hid hlo
  have HKN := Lib.hid hkn
  have hx1 : IntKind.i64.wrap (kn : Int) = (kn : Int) := IntWalk.i64_in _ ⟨by omega, by omega⟩
  have hx2 : IntKind.i64.wrap ((kn : Int) + 1) = (kn : Int) + 1 := IntWalk.i64_in _ ⟨by omega, by omega⟩
  clear hc hin hst hT wk hn hlo hkn
  go_enter Tryd.func8, Tryd.ntmps8
  go_wp2
  go_loopw [5, 6] (fun q i wr => ∃ k : Nat, k ≤ cs.length ∧ i = .int .i64 k ∧ q = .bool (allP cs k) ∧ Below w.heap.size w wr) (fun _ i _ => cs.length - (intOf i).toNat)
  case atStart => exact ⟨0, by omega, rfl, by rw [HA0.out], HB0.out⟩
  case round =>
    obtain ⟨k, hk, rfl, rfl, hb0⟩ := hrel
    have HB := Lib.hid hb0
    by_cases hlt : k < cs.length
    · have d2 : decide (k < cs.length) = true := dec_t hlt
      obtain ⟨b, off, rfl, hbl, hr1⟩ := (HC.out.below hb0).row k hlt
      have HR1 := Lib.hid hr1
      have ik0 : (0 : Int) ≤ (k : Int) := by omega
      have ik1 : (k : Int) < (cs.length : Int) := by omega
      have hn := HN.out
      have hw0 : IntKind.i64.wrap ((k : Int) + 1) = (k : Int) + 1 := IntWalk.i64_in _ ⟨by omega, by omega⟩
      have KP1 := KP.out k hlt wr (HT.out.bel hb0)
      have KR1 := Lib.hid (KR.out k hlt)
      have HP1 := Lib.hid (HPP.out k)
      have HS := Lib.hid (HAS.out k hlt)
      have HBL := Lib.hid hbl
      have HK := Lib.hid (And.intro hk hlt)
      unfold clV at KP1 KR1
      generalize nthC cs k = c at HR1 KP1 KR1 HS HP1
      generalize perO c = po at KP1 KR1 HS HP1
      generalize allP cs k = q at HS ⊢
      clear hb0 hk hlt hbl hr1 hn
      go_wp2_with (refine wpList_loadMidA _ _ _ HR1.out rfl _ _ rfl rfl _ Tryd.underlying70 rfl (by unfold clC; kernel_rfl) ?_)
      refine KP1.mono ?_
      rintro e w1 ⟨rfl, hb1⟩
      have HB1 := Lib.hid (HB.out.trans (hb1.mono HB.out.size))
      have hr2 := range_belB hb1 HBL.out HR1.out
      clear HR1
      have HR1 := Lib.hid hr2
      have KR2 := KR1.out w1
      clear hb1 KP1 KR1 hr2
      cases po with
      | none =>
        unfold perV
        have HS2 := Lib.hid (show allP cs (k + 1) = false from by rw [HS.out]; simp)
        unfold perZ at KR2
        go_wp2_with (refine wpList_loadMidA _ _ _ HR1.out rfl _ _ rfl rfl _ Tryd.underlying70 rfl (by unfold clC; kernel_rfl) ?_)
        refine KR2.mono ?_
        rintro e w2 ⟨rfl, hb2⟩
        have HB2 := Lib.hid (HB1.out.trans (hb2.mono HB1.out.size))
        clear hb2 KR2
        cases q
        · go_wp2_with fail
          go_roundw
          case rel => exact ⟨k + 1, by have := HK.out; omega, by go_num, by rw [HS2.out], HB2.out⟩
          case measure =>
            have := HK.out
            simp [intOf]; omega
        · go_wp2_with fail
          go_roundw
          case rel => exact ⟨k + 1, by have := HK.out; omega, by go_num, by rw [HS2.out], HB2.out⟩
          case measure =>
            have := HK.out
            simp [intOf]; omega
      | some p =>
        unfold perV
        have p1 := HP1.out p rfl
        have dp : decide (0 < p) = true := dec_t (by omega)
        have HS2 := Lib.hid (show allP cs (k + 1) = q from by rw [HS.out]; simp)
        unfold perZ at KR2
        go_wp2_with (refine wpList_loadMidA _ _ _ HR1.out rfl _ _ rfl rfl _ Tryd.underlying70 rfl (by unfold clC; kernel_rfl) ?_)
        refine KR2.mono ?_
        rintro e w2 ⟨rfl, hb2⟩
        have HB2 := Lib.hid (HB1.out.trans (hb2.mono HB1.out.size))
        clear hb2 KR2
        cases q
        · go_wp2_with fail
          go_roundw
          case rel => exact ⟨k + 1, by have := HK.out; omega, by go_num, by rw [HS2.out], HB2.out⟩
          case measure =>
            have := HK.out
            simp [intOf]; omega
        · go_wp2_with fail
          go_roundw
          case rel => exact ⟨k + 1, by have := HK.out; omega, by go_num, by rw [HS2.out], HB2.out⟩
          case measure =>
            have := HK.out
            simp [intOf]; omega
    · obtain rfl : k = cs.length := by omega
      have d2 : decide (cs.length < cs.length) = false := dec_n (by omega)
      have K1 := KLC.out wr (HC.out.below hb0) (HT.out.bel hb0)
      clear hb0 hk hlt
      cases lo with
      | none =>
        unfold perV at K1
        cases allP cs cs.length
        · go_wp2_with fail
          refine K1.mono ?_
          rintro e w1 ⟨rfl, hb1⟩
          have HB1 := Lib.hid (HB.out.trans (hb1.mono HB.out.size))
          have K2 := KL.out w1 (HT.out.bel HB1.out)
          clear hb1 K1
          go_wp2_with fail
          refine K2.mono ?_
          rintro e w2 ⟨rfl, hb2⟩
          have HB2 := Lib.hid (HB1.out.trans (hb2.mono HB1.out.size))
          clear hb2 K2
          go_wp2
          go_ret
          exact ⟨rfl, HB2.out⟩
        · go_wp2_with fail
          refine K1.mono ?_
          rintro e w1 ⟨rfl, hb1⟩
          have HB1 := Lib.hid (HB.out.trans (hb1.mono HB.out.size))
          have K2 := KL.out w1 (HT.out.bel HB1.out)
          clear hb1 K1
          go_wp2_with fail
          refine K2.mono ?_
          rintro e w2 ⟨rfl, hb2⟩
          have HB2 := Lib.hid (HB1.out.trans (hb2.mono HB1.out.size))
          clear hb2 K2
          go_wp2
          go_ret
          exact ⟨rfl, HB2.out⟩
      | some m =>
        unfold perV at K1
        obtain ⟨m1, ha, hall⟩ := HLA.out m HLO.out
        have HNO := Lib.hid (HMN.out ((kn : Int) + 1) m HLO.out (by omega))
        have HMSx := Lib.hid (HMS.out ((kn : Int) + 1) m)
        have HM0x := Lib.hid (HM0.out ((kn : Int) + 1) m)
        have HALL := Lib.hid hall
        have dm : decide (m < 1) = false := dec_n (by omega)
        rw [ha]
        clear ha hall m1
        go_wp2_with fail
        refine K1.mono ?_
        rintro e w1 ⟨rfl, hb1⟩
        have HB1 := Lib.hid (HB.out.trans (hb1.mono HB.out.size))
        clear hb1 K1
        go_wp2_with fail
        have hx0 : (0 : Int) ≤ (kn : Int) + 1 := by omega
        have HX := Lib.hid (show (kn : Int) + 1 ≤ 65536 by have := HKN.out; omega)
        generalize (kn : Int) + 1 = x at *
        go_loopw [13, 14] (fun q i ws => ∃ k : Nat, k ≤ cs.length ∧ i = .int .i64 k ∧ q = .bool (mulK cs x m k) ∧ Below w.heap.size w ws) (fun _ i _ => cs.length - (intOf i).toNat)
        case atStart => exact ⟨0, by omega, rfl, by rw [HM0x.out], HB1.out⟩
        case round =>
          obtain ⟨k, hk, rfl, rfl, hb0⟩ := hrel
          have HBx := Lib.hid hb0
          by_cases hlt : k < cs.length
          · have d3 : decide (k < cs.length) = true := dec_t hlt
            obtain ⟨b, off, rfl, hbl, hr1⟩ := (HC.out.below hb0).row k hlt
            have HR1 := Lib.hid hr1
            have ik0 : (0 : Int) ≤ (k : Int) := by omega
            have ik1 : (k : Int) < (cs.length : Int) := by omega
            have hn := HN.out
            have hw0 : IntKind.i64.wrap ((k : Int) + 1) = (k : Int) + 1 := IntWalk.i64_in _ ⟨by omega, by omega⟩
            obtain ⟨p, hp, p1, pm⟩ := HALL.out k hlt
            have p2 := HPL.out k hlt p hp
            have HS := Lib.hid (HMSx.out k hlt)
            rw [hp] at HS
            have KR1 := KR.out k hlt wr
            rw [hp] at KR1
            unfold perZ at KR1 HS
            have HK := Lib.hid (And.intro hk hlt)
            unfold clV at KR1
            generalize nthC cs k = c at HR1 KR1 hp
            obtain ⟨t1, t2⟩ := tmod_le x p hx0 p1
            have p0 : ¬ p = 0 := by omega
            have p3 : (p == 0) = false := by rw [beq_eq_false_iff_ne]; exact p0
            generalize hr : Int.tmod x p = r at HS t1 t2
            have hrw : IntKind.i64.wrap r = r := IntWalk.i64_in _ ⟨by omega, by omega⟩
            generalize mulK cs x m k = q at HS ⊢
            clear hb0 hk hlt hbl hr1 hn hp t1 t2 p1 p2
            go_wp2_with (refine wpList_loadMidA _ _ _ HR1.out rfl _ _ rfl rfl _ Tryd.underlying70 rfl (by unfold clC; kernel_rfl) ?_)
            refine KR1.mono ?_
            rintro e w2 ⟨rfl, hb2⟩
            have HB2 := Lib.hid (HBx.out.trans (hb2.mono HBx.out.size))
            clear hb2 KR1 HR1
            by_cases h0 : r = 0
            · have hr0 : (r == 0) = true := by simp [h0]
              have HS2 := Lib.hid (show mulK cs x m (k + 1) = q from by rw [HS.out, dec_t h0]; simp)
              subst h0
              cases q
              · go_wp2_with fail
                go_roundw
                case rel => exact ⟨k + 1, by have := HK.out; omega, by go_num, by rw [HS2.out], HB2.out⟩
                case measure =>
                  have := HK.out
                  simp [intOf]; omega
              · go_wp2_with fail
                go_roundw
                case rel => exact ⟨k + 1, by have := HK.out; omega, by go_num, by rw [HS2.out], HB2.out⟩
                case measure =>
                  have := HK.out
                  simp [intOf]; omega
            · have hr0 : (r == 0) = false := by simp [h0]
              have HS2 := Lib.hid (show mulK cs x m (k + 1) = false from by rw [HS.out, dec_n h0]; simp)
              cases q
              · go_wp2_with fail
                go_roundw
                case rel => exact ⟨k + 1, by have := HK.out; omega, by go_num, by rw [HS2.out], HB2.out⟩
                case measure =>
                  have := HK.out
                  simp [intOf]; omega
              · go_wp2_with fail
                go_roundw
                case rel => exact ⟨k + 1, by have := HK.out; omega, by go_num, by rw [HS2.out], HB2.out⟩
                case measure =>
                  have := HK.out
                  simp [intOf]; omega
          · obtain rfl : k = cs.length := by omega
            have d3 : decide (cs.length < cs.length) = false := dec_n (by omega)
            rw [HNO.out]
            have K2 := KL.out wr (HT.out.bel hb0)
            clear hb0 hk hlt
            go_wp2_with fail
            refine K2.mono ?_
            rintro e w2 ⟨rfl, hb2⟩
            have HB2 := Lib.hid (HBx.out.trans (hb2.mono HBx.out.size))
            clear hb2 K2
            go_wp2
            go_ret
            exact ⟨rfl, HB2.out⟩
end Go.Proofs.YtjdoknbmnokkdaaDoor
