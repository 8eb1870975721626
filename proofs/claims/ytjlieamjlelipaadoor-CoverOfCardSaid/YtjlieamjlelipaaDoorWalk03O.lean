/- The walk of CoverOf (layer 3). -/
import Derived.Test.YtjlieamjlelipaaDoorCvU
import Derived.ProofKit
import Derived.OpenShut
import Derived.Test.YtjlieamjlelipaaDoorOpen
namespace Go.Proofs.YtjlieamjlelipaaDoor
open Go.RowKit
open Go.ChangeShapes Go.WideShapes Go.ChangeAt
set_option linter.unusedVariables false

theorem open_listc {H : Type} {enc : TypeId × Value → H} {P : Program} {w : World} {base : Nat} {sp : Nat → Bool} {held : Bool} {t e : TypeId} {k : IntKind} {A : Option Addr} {n c : Nat} {d : DataW H} {ps : List MemPlace}
    (ht : P.underlying t = some (.slice e)) (he : P.underlying e = some (.int k)) (hc : P.cellsOf e = 1) (h : DataW.Trod enc P w base sp held t (.slice A n c) d ps) : n ≤ c := by
  obtain ⟨fuel, hf⟩ := h
  rcases open_ints ht he hc hf with ⟨hcs, _⟩ | ⟨x, l, c', zs, hcs, _, hl, hm, hz, _, hcell, hwz⟩
  · simp [Value.cells] at hcs
    omega
  · simp [Value.cells] at hcs
    obtain ⟨rfl, rfl, rfl⟩ := hcs
    have hz' : zs.length ≤ c := by rw [hz]; split <;> omega
    have hz2 : n ≤ zs.length := by rw [hz]; split <;> omega
    omega
set_option maxHeartbeats 1600000 in
theorem cof_in (A : Option Addr) (c : Nat) (zs : List Int) (m : Nat) (w : World) (hl : zs.length ≤ 500) (hcap : zs.length ≤ c) (hi : Ints .i64 w A zs) (hm : m < 18446744073709551616) (hT : Tab w) :
    Calls Tryd.prog 7 #[.slice A zs.length c, .int .u64 m] w fun e w' => e = .returned (.bool true) ∧ Below w.heap.size w w' := by
  have K1 := of_all A c zs w (by omega) hi hcap
  have HI := Lib.hid hi
  have HT := Lib.hid hT
  have d : decide ((500 : Int) < (zs.length : Int)) = false := dec_n (by omega)
  have d' : decide (500 < zs.length) = false := dec_n (by omega)
  have hple := pcsOr_le zs
  have hnl := numsP_le m.testBit 64
  have hple2 := pcsOr_le (numsP m.testBit 64)
  have HL := Lib.hid (show (numsP m.testBit 64).length ≤ 64 from hnl)
  clear hi hT
  go_enter Tryd.func7, Tryd.ntmps7
  go_wp2_with fail
  refine K1.mono ?_
  rintro e w1 ⟨A1, c1, rfl, hat1, hb1, _⟩
  have HB1 := Lib.hid hb1
  have HA1 := Lib.hid hat1
  have K2 := rof_all A c zs w1 (by omega) (HI.out.below hb1)
  clear K1 hb1 hat1
  go_wp2_with fail
  refine K2.mono ?_
  rintro e w2 ⟨A2, c2, rfl, hat2, hb2, _⟩
  have HB2 := Lib.hid (HB1.out.trans (hb2.mono HB1.out.size))
  have K3 := same_any A1 A2 c1 c2 (pcsOr zs) w2 (by omega) (HA1.out.below hb2) hat2
  clear K2 hb2 hat2
  generalize pcsOr zs = ps at K3 hple HA1
  go_wp2_with fail
  refine K3.mono ?_
  rintro e w3 ⟨rfl, hq3⟩
  have HB3 := Lib.hid (HB2.out.trans (quiet_bel w.heap.size hq3))
  have HT3 := Lib.hid (HT.out.below HB3.out)
  have K4 := maskp_any m w3 hm HT3.out
  clear K3 hq3
  go_wp2_with fail
  refine K4.mono ?_
  rintro e w4 ⟨A4, c4, rfl, hat4, hb4, _⟩
  have HB4 := Lib.hid (HB3.out.trans (hb4.mono HB3.out.size))
  have HA4 := Lib.hid hat4
  have HT4 := Lib.hid (HT3.out.below hb4)
  have K5 := rlist_any m w4 hm
  clear K4 hb4 hat4
  go_wp2_with fail
  refine K5.mono ?_
  rintro e w5 ⟨A5, c5, rfl, hi5, hb5⟩
  have HB5 := Lib.hid (HB4.out.trans (hb5.mono HB4.out.size))
  have HA5 := Lib.hid (HA4.out.below hb5)
  have HT5 := Lib.hid (HT4.out.below hb5)
  have K6 := rof_all A5 c5 (numsP m.testBit 64) w5 (by omega) hi5
  clear K5 hb5 hi5
  generalize numsP m.testBit 64 = ys at K6 hple2 hnl HL HA4 HA5
  go_wp2_with fail
  refine K6.mono ?_
  rintro e w6 ⟨A6, c6, rfl, hat6, hb6, _⟩
  have HB6 := Lib.hid (HB5.out.trans (hb6.mono HB5.out.size))
  have HT6 := Lib.hid (HT5.out.below hb6)
  have K7 := same_any A4 A6 c4 c6 (pcsOr ys) w6 (by omega) (HA5.out.below hb6) hat6
  clear K6 hb6 hat6
  generalize pcsOr ys = qs at K7 hple2 HA4 HA5
  go_wp2_with fail
  refine K7.mono ?_
  rintro e w7 ⟨rfl, hq7⟩
  have HB7 := Lib.hid (HB6.out.trans (quiet_bel w.heap.size hq7))
  clear K7 hq7
  go_wp2_with fail
  refine (lives03_any w7).mono ?_
  rintro e w8 ⟨rfl, hb8⟩
  go_wp2
  go_ret
  exact ⟨rfl, HB7.out.trans (hb8.mono HB7.out.size)⟩
set_option maxHeartbeats 800000 in
theorem cof_long (A : Option Addr) (c n m : Nat) (w : World) (hl : 500 < n) :
    Calls Tryd.prog 7 #[.slice A n c, .int .u64 m] w fun e w' => e = .returned (.bool true) ∧ Below w.heap.size w w' := by
  have d : decide ((500 : Int) < (n : Int)) = true := dec_t (by omega)
  have d' : decide (500 < n) = true := dec_t (by omega)
  clear hl
  go_enter Tryd.func7, Tryd.ntmps7
  go_wp2_with fail
  refine (lives03_any w).mono ?_
  rintro e w2 ⟨rfl, hb⟩
  go_wp2
  go_ret
  exact ⟨rfl, hb⟩
theorem coverOf_walk (A : Option Addr) (n c : Nat) (zs : List Int) (m : Int) (w : World) (hn : n = zs.length) (hl : zs.length ≤ 9223372036854775807) (hz : ∀ z ∈ zs, (Lit.int .i64 z).wf = true) (hi : Ints .i64 w A zs) (hc : n ≤ c) (wm : (Lit.int .u64 m).wf = true) (hT : Tab w) :
    Calls Tryd.prog 7 #[.slice A n c, .int .u64 m] w fun e w' => e = .returned (.bool true) ∧ Below w.heap.size w w' := by
  subst hn
  obtain ⟨M, rfl, hM⟩ := wf_u64 wm
  by_cases h : 500 < zs.length
  · exact cof_long A c _ M w h
  · exact cof_in A c zs M w (by omega) hc hi (by omega) hT
end Go.Proofs.YtjlieamjlelipaaDoor
