/- The walk of CoverBack (layer 3). -/
import Derived.Test.YtjlieamjlelipaaCoverG
import Derived.Test.YtjlieamjlelipaaCoverH
import Derived.ProofKit
import Derived.OpenShut
import Derived.Test.YtjlieamjlelipaaOpen
import Derived.RegionTactic
import Derived.BigRegion
namespace Go.Proofs.Ytjlieamjlelipaa
open Go.RowKit
open Go.ChangeShapes Go.WideShapes Go.ChangeAt
set_option linter.unusedVariables false

theorem open_listc {H : Type} {enc : TypeId × Value → H} {P : Program} {w : World} {base : Nat} {sp : Nat → Bool} {held : Bool} {t e : TypeId} {k : IntKind} {A : Option Addr} {n c : Nat} {d : DataW H} {ps : List MemPlace}
    (ht : P.underlying t = some (.slice e)) (he : P.underlying e = some (.int k)) (hc : P.cellsOf e = 1) (h : DataW.Trod enc P w base sp held t (.slice A n c) d ps) : n ≤ c := by
  obtain ⟨fuel, hf⟩ := h
  rcases open_ints ht he hc hf with ⟨hcs, _⟩ | ⟨x, l, c', zs, hcs, _, hl, hm, hz, _, hcell, hwz⟩
  · simp [Value.cells] at hcs
    omega
  · simp [Value.cells] at hcs
    obtain ⟨rfl, rfl, rfl⟩ := hcs
    have hz' : zs.length ≤ c := by rw [hz]; split <;> omega
    have hz2 : n ≤ zs.length := by rw [hz]; split <;> omega
    omega
set_option maxHeartbeats 1600000 in
theorem back_yes (A : Option Addr) (c : Nat) (zs : List Int) (w : World) (hl : zs.length ≤ 500) (hc : zs.length ≤ c) (hi : Ints .i64 w A zs) (hr : Rise zs) :
    Calls Try.prog 4 #[.slice A zs.length c] w fun e w' => e = .returned (.bool true) ∧ Below w.heap.size w w' := by
  have K1 := may_any true A c zs w (by omega) hi ⟨fun _ => hr, fun _ => rfl⟩
  have K2 := fun w2 hw2 => of_yes A c zs w2 (by omega) hw2 hc hr
  have hv := vals_pieces zs.length zs (Nat.le_refl _) hr
  have hle := pieces_le zs.length zs (Nat.le_refl _)
  have HAP := Lib.hid (pieces_apart zs.length zs (Nat.le_refl _))
  have HSM := Lib.hid (pieces_small zs.length zs (Nat.le_refl _) hr)
  generalize pieces zs = ps at K2 hv hle HAP HSM
  have K3 := fun A1 c1 w2 hw2 => list_any A1 c1 ps w2 (by omega) hw2 (fun k hk => (HSM.out k hk).p64)
  rw [hv] at K3
  have HI := Lib.hid hi
  have d : decide ((500 : Int) < (zs.length : Int)) = false := dec_n (by omega)
  have d' : decide (500 < zs.length) = false := dec_n (by omega)
  have d2 : decide ((zs.length : Int) < (ps.length : Int)) = false := dec_n (by omega)
  have d3 : decide (zs.length < ps.length) = false := dec_n (by omega)
  clear hi hr hv
  go_enter Try.func4, Try.ntmps4
  go_wp2_with fail
  refine K1.mono ?_
  rintro e w1 ⟨rfl, hq1⟩
  have hb1 := quiet_bel w.heap.size hq1
  clear hq1 K1
  go_wp2_with fail
  refine (K2 w1 (HI.out.below hb1)).mono ?_
  rintro e w2 ⟨A1, c1, rfl, hat, hb2, _⟩
  have HA := Lib.hid hat
  have HB2 := Lib.hid (hb1.trans (hb2.mono hb1.size))
  clear hb1 hb2 K2
  go_wp2_with fail
  refine (K3 A1 c1 w2 hat).mono ?_
  rintro e w3 ⟨A2, c2, rfl, hi2, hb3⟩
  have HA3 := Lib.hid (HA.out.below hb3)
  have HB3 := Lib.hid (HB2.out.trans (hb3.mono HB2.out.size))
  have K4 := ints_any true A2 A c2 c zs zs w3 (by omega) (by omega) hi2 (HI.out.below HB3.out) ⟨fun _ => rfl, fun _ => rfl⟩
  clear hb3 hat hi2 K3
  go_wp2_with fail
  refine K4.mono ?_
  rintro e w4 ⟨rfl, hq4⟩
  have HA4 := Lib.hid (HA3.out.below (quiet_bel _ hq4))
  have HB4 := Lib.hid (HB3.out.trans (quiet_bel _ hq4))
  clear hq4 K4
  go_wp2
  clear d d' d2 d3
  go_loopw [4] (fun i wr => ∃ k : Nat, 1 ≤ k ∧ k ≤ ps.length + 1 ∧ i = .int .i64 k ∧ Below w4.heap.size w4 wr) (fun i _ => ps.length + 1 - (intOf i).toNat)
  case atStart => exact ⟨1, Nat.le_refl _, by omega, rfl, Below.refl _ _⟩
  case round =>
    obtain ⟨k, hk1, hk2, rfl, hb⟩ := hrel
    have HB := Lib.hid hb
    clear hb
    by_cases hlt : k < ps.length
    · obtain ⟨b, off, rfl, hbl, x0, x1, x2⟩ := HA4.out.below HB.out (k - 1) (by omega)
      obtain ⟨b', off', hA, _, y0, y1, y2⟩ := HA4.out.below HB.out k hlt
      cases hA
      have hap := HAP.out (k - 1) (by omega)
      rw [show k - 1 + 1 = k by omega] at hap
      obtain ⟨sa1, sa2, sa3, sa4, sa5, sa6⟩ := HSM.out (k - 1) (by omega)
      obtain ⟨sb1, sb2, sb3, sb4, sb5, sb6⟩ := HSM.out k hlt
      generalize nthP ps (k - 1) = p at hap x0 x1 x2 sa1 sa2 sa3 sa4 sa5 sa6
      generalize nthP ps k = q at hap y0 y1 y2 sb1 sb2 sb3 sb4 sb5 sb6
      obtain ⟨p1, p2, p3⟩ := p
      obtain ⟨q1, q2, q3⟩ := q
      simp only [] at hap x0 x1 x2 y0 y1 y2 sa1 sa2 sa3 sa4 sa5 sa6 sb1 sb2 sb3 sb4 sb5 sb6
      have t1 : IntKind.i64.wrap ((k : Int) - 1) = (k : Int) - 1 := IntWalk.i64_in _ ⟨by omega, by omega⟩
      have t2 : ((k : Int) - 1).toNat = k - 1 := by omega
      have t3 : IntKind.i64.wrap (q1 - p2) = q1 - p2 := IntWalk.i64_in _ ⟨by omega, by omega⟩
      have i0 : (0 : Int) ≤ (k : Int) - 1 := by omega
      have i1 : (k : Int) - 1 < ((ps.length : Nat) : Int) := by omega
      have i2 : (0 : Int) ≤ (k : Int) := by omega
      have i3 : (k : Int) < ((ps.length : Nat) : Int) := by omega
      have f1 : (q1 - p2 == p3) = false := by rw [beq_eq_false_iff_ne]; exact hap
      clear hap sa1 sa2 sa3 sa4 sa5 sa6 sb1 sb2 sb3 sb4 sb5 sb6
      by_cases he : p3 = q3
      · have f2 : (p3 == q3) = true := by rw [beq_iff_eq]; exact he
        clear he
        go_wp2
        go_region
        go_wp2
        all_goals exact ⟨⟨k + 1, by omega, by omega, by go_num, ((HB.out.alloc HB.out.size _).alloc (by have := HB.out.size; simp; omega) _).drew⟩, by simp [intOf]; omega⟩
      · have f2 : (p3 == q3) = false := by rw [beq_eq_false_iff_ne]; exact he
        clear he
        go_wp2
        go_region
        go_wp2
        all_goals exact ⟨⟨k + 1, by omega, by omega, by go_num, ((HB.out.alloc HB.out.size _).alloc (by have := HB.out.size; simp; omega) _).drew⟩, by simp [intOf]; omega⟩
    · have hk : ¬ k < ps.length := hlt
      have KL := lives03_any wr
      go_wp2_with fail
      refine KL.mono ?_
      rintro e w5 ⟨rfl, hb5⟩
      go_wp2
      go_ret
      exact ⟨rfl, (HB4.out.trans (HB.out.mono HB4.out.size)).trans (hb5.mono (Nat.le_trans HB4.out.size HB.out.size))⟩
set_option maxHeartbeats 800000 in
theorem back_no (A : Option Addr) (c : Nat) (zs : List Int) (w : World) (hl : zs.length ≤ 500) (hi : Ints .i64 w A zs) (hr : ¬ Rise zs) :
    Calls Try.prog 4 #[.slice A zs.length c] w fun e w' => e = .returned (.bool true) ∧ Below w.heap.size w w' := by
  have K1 := may_any false A c zs w (by omega) hi ⟨fun h => (by cases h), fun h => absurd h hr⟩
  have d : decide ((500 : Int) < (zs.length : Int)) = false := dec_n (by omega)
  have d' : decide (500 < zs.length) = false := dec_n (by omega)
  clear hi hr
  go_enter Try.func4, Try.ntmps4
  go_wp2_with fail
  refine K1.mono ?_
  rintro e w1 ⟨rfl, hq1⟩
  have HB1 := Lib.hid (quiet_bel w.heap.size hq1)
  clear hq1 K1
  go_wp2_with fail
  refine (lives03_any w1).mono ?_
  rintro e w2 ⟨rfl, hb⟩
  go_wp2
  go_ret
  exact ⟨rfl, HB1.out.trans (hb.mono HB1.out.size)⟩
set_option maxHeartbeats 800000 in
theorem back_long (A : Option Addr) (c n : Nat) (w : World) (hl : 500 < n) :
    Calls Try.prog 4 #[.slice A n c] w fun e w' => e = .returned (.bool true) ∧ Below w.heap.size w w' := by
  have d : decide ((500 : Int) < (n : Int)) = true := dec_t (by omega)
  have d' : decide (500 < n) = true := dec_t (by omega)
  clear hl
  go_enter Try.func4, Try.ntmps4
  go_wp2_with fail
  refine (lives03_any w).mono ?_
  rintro e w2 ⟨rfl, hb⟩
  go_wp2
  go_ret
  exact ⟨rfl, hb⟩
theorem coverBack_walk (A : Option Addr) (n c : Nat) (zs : List Int) (w : World) (hn : n = zs.length) (hl : zs.length ≤ 9223372036854775807) (hz : ∀ z ∈ zs, (Lit.int .i64 z).wf = true) (hi : Ints .i64 w A zs) (hc : n ≤ c) :
    Calls Try.prog 4 #[.slice A n c] w fun e w' => e = .returned (.bool true) ∧ Below w.heap.size w w' := by
  subst hn
  by_cases h : 500 < zs.length
  · exact back_long A c _ w h
  · by_cases hr : Rise zs
    · exact back_yes A c zs w (by omega) hc hi hr
    · exact back_no A c zs w (by omega) hi hr
end Go.Proofs.Ytjlieamjlelipaa
