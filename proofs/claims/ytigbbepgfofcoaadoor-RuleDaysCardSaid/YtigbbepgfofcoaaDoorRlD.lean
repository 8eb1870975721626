/- What is wrong with a rule's weekdays, by the document (layer 32): weeks. -/
import Derived.Test.YtigbbepgfofcoaaDoorRlC
namespace Go.Proofs.YtigbbepgfofcoaaDoor
open Go.RowKit
set_option linter.unusedVariables false

theorem any_dropN (p : N2 → Bool) (l : List N2) (k : Nat) (h : k < l.length) : (l.drop k).any p = (p (nthN l k) || (l.drop (k + 1)).any p) := by
  rw [List.drop_eq_getElem_cons h]
  unfold nthN
  rw [List.getElem?_eq_getElem h]; rfl
theorem any_endN (p : N2 → Bool) (l : List N2) : (l.drop l.length).any p = false := by rw [List.drop_length]; rfl
theorem nsL_len (l : List N2) : (nsL l).length = l.length := by unfold nsL; rw [List.length_map]
/-- may no rule have a weekday? -/
def badN (q : N2) : Bool := (decide (q.1 < -53) || decide (53 < q.1)) || (decide (q.2 < 1) || decide (7 < q.2))
/-- what is wrong with the weekdays -/
def weeksE (r : Rl) : Int := if 64 < r.N.length then 5 else if r.N.any badN = true then 4 else if (sgB (nsL r.N) || (outB 0 0 (nsL r.N) && decide (r.freq < 5))) = true then 12 else if (outB (-5) 5 (nsL r.N) && (decide (r.freq = 5) || decide (0 < (r.Z 0).length))) = true then 4 else 0
set_option maxHeartbeats 3200000 in
set_option maxRecDepth 20000 in
theorem rweeks_any (r : Rl) (w : World) (hr : RlAt w r) (hin : RlIn r) (hN : r.N.length ≤ 100000) :
    Calls Tryd.prog 56 #[rlV r] w fun e w' => e = .returned (.int .i64 (weeksE r)) ∧ Below w.heap.size w w' := by
  have HG0 := Lib.hid (blk_new w (.cells (rlC r) 25))
  have HB0 := Lib.hid (show Below w.heap.size w (w.alloc (.cells (rlC r) 25)) from (Below.refl _ _).alloc (Nat.le_refl _) _)
  have HN := Lib.hid hr.2
  have HL := Lib.hid hN
  have HE := Lib.hid (show weeksE r = if 64 < r.N.length then 5 else if r.N.any badN = true then 4 else if (sgB (nsL r.N) || (outB 0 0 (nsL r.N) && decide (r.freq < 5))) = true then 12 else if (outB (-5) 5 (nsL r.N) && (decide (r.freq = 5) || decide (0 < (r.Z 0).length))) = true then 4 else 0 from rfl)
  have HS := Lib.hid (fun k h => any_dropN badN r.N k h)
  have HX := Lib.hid (any_endN badN r.N)
  have H0 := Lib.hid (show (r.N.drop 0).any badN = r.N.any badN from rfl)
  have HGET := Lib.hid (fun k h => ns_get r.N k h)
  have hnl := nsL_len r.N
  have KO0 := Lib.hid (fun B d W h => rout_any B d (nsL r.N) 0 0 W (by rw [nsL_len]; omega) h)
  have KO5 := Lib.hid (fun B d W h => rout_any B d (nsL r.N) (-5) 5 W (by rw [nsL_len]; omega) h)
  have KS := Lib.hid (fun B d W h => rsigns_any B d (nsL r.N) W (by rw [nsL_len]; omega) h)
  have KN := rns_any r.AW r.cw r.N (w.alloc (.cells (rlC r) 25)) hN (hr.2.below HB0.out)
  generalize nsL r.N = ns at KO0 KO5 KS KN HE HGET hnl
  generalize outB 0 0 ns = o0 at KO0 HE
  generalize outB (-5) 5 ns = o5 at KO5 HE
  generalize sgB ns = sg at KS HE
  generalize weeksE r = res at HE ⊢
  generalize r.N.any badN = az at HE H0
  obtain ⟨W0, hW0⟩ : ∃ W0, w.alloc (.cells (rlC r) 25) = W0 := ⟨_, rfl⟩
  rw [hW0] at HG0 HB0 KN
  have x7 : W0.cell? ⟨w.heap.size, 7, none⟩ = some (.slice r.AW r.N.length r.cw) := blk_cell HG0.out 7
  have HNL := Lib.hid hnl
  clear hnl
  unfold rlV
  clear hr hin hN
  go_enter Tryd.func56, Tryd.ntmps56
  unfold rlC at hW0 ⊢
  go_wp2_with fail
  try rw [hW0]
  clear hW0
  refine KN.mono ?_
  rintro e w1 ⟨B, d, rfl, hi, hb1⟩
  have HB1 := Lib.hid (HB0.out.trans (hb1.mono HB0.out.size))
  have HG1 := Lib.hid ((hb1.block _ (lt_of_block HG0.out)).trans HG0.out)
  have HI := Lib.hid hi
  have HN1 := Lib.hid (HN.out.below HB1.out)
  have y1 : w1.cell? ⟨w.heap.size, 1, none⟩ = some (.int .i64 r.freq) := blk_cell HG1.out 1
  have y5 : w1.cell? ⟨w.heap.size, 5, none⟩ = some (.slice (r.A 0) (r.Z 0).length (r.c 0)) := blk_cell HG1.out 5
  have y7 : w1.cell? ⟨w.heap.size, 7, none⟩ = some (.slice r.AW r.N.length r.cw) := blk_cell HG1.out 7
  clear hb1 hi KN x7 HN HG0 HB0
  by_cases h64 : 64 < r.N.length
  · have d0 : decide (64 < ns.length) = true := dec_t (by have := HNL.out; omega)
    have d1 : decide ((64 : Int) < (ns.length : Int)) = true := dec_t (by have := HNL.out; omega)
    have HB := Lib.hid (show res = 5 by rw [HE.out, if_pos h64])
    clear HE h64
    go_wp2_with fail
    go_ret
    exact ⟨by rw [HB.out]; rfl, HB1.out⟩
  · have d0 : decide (64 < ns.length) = false := dec_n (by have := HNL.out; omega)
    have d1 : decide ((64 : Int) < (ns.length : Int)) = false := dec_n (by have := HNL.out; omega)
    have HE2 := Lib.hid (HE.out.trans (if_neg h64))
    have HL64 := Lib.hid h64
    clear HE h64
    go_wp2_with fail
    go_loop [4] (fun i => ∃ k : Nat, k ≤ r.N.length ∧ i = .int .i64 k ∧ Hid ((r.N.drop k).any badN = az)) (fun i => r.N.length - (intOf i).toNat)
    case atStart => exact ⟨0, Nat.zero_le _, rfl, H0⟩
    case round =>
      obtain ⟨k, hk, rfl, HA⟩ := hrel
      by_cases hlt : k < r.N.length
      · obtain ⟨bk, off, rfl, hb, hcell⟩ := HI.out k (by have := HNL.out; omega)
        obtain ⟨bk2, off2, hA, hb2, hc0, hc1⟩ := HN1.out k hlt
        rw [hA] at y7
        rw [HGET.out k hlt] at hcell
        have hst := HS.out k hlt
        rw [HA.out] at hst
        have HST := Lib.hid hst
        have hl := HL.out
        have d2 : decide (k < ns.length) = true := dec_t (by have := HNL.out; omega)
        have ik0 : (0 : Int) ≤ (k : Int) := by omega
        have ik1 : (k : Int) < (ns.length : Int) := by have := HNL.out; omega
        have ik2 : (k : Int) < (r.N.length : Int) := by omega
        have hw1 : IntKind.i64.wrap ((k : Int) + 1) = (k : Int) + 1 := IntWalk.i64_in _ ⟨by omega, by omega⟩
        have HK := Lib.hid (And.intro hk hlt)
        generalize nthN r.N k = q at hcell hc0 hc1 HST
        have HBAD := Lib.hid (show badN q = ((decide (q.1 < -53) || decide (53 < q.1)) || (decide (q.2 < 1) || decide (7 < q.2))) from rfl)
        obtain ⟨p1, hp1⟩ : ∃ p, decide (q.1 < -53) = p := ⟨_, rfl⟩
        obtain ⟨p2, hp2⟩ : ∃ p, decide (53 < q.1) = p := ⟨_, rfl⟩
        obtain ⟨p3, hp3⟩ : ∃ p, decide (q.2 < 1) = p := ⟨_, rfl⟩
        obtain ⟨p4, hp4⟩ : ∃ p, decide (7 < q.2) = p := ⟨_, rfl⟩
        rw [HBAD.out, hp1, hp2, hp3, hp4] at HST
        clear hst hk hlt HA hb hb2 HBAD hl hc0 hA
        cases p1 <;> cases p2 <;> cases p3 <;> cases p4
        case false.false.false.false =>
          have HC := Lib.hid (show (r.N.drop (k + 1)).any badN = az by rw [HST.out]; rfl)
          clear HST
          go_wp2_with fail
          go_round
          case rel => exact ⟨k + 1, by have := HK.out; omega, by go_num, HC⟩
          case measure =>
            have := HK.out
            simp [intOf]; omega
        all_goals
          have HC := Lib.hid (show res = 4 by rw [HE2.out, if_pos (by rw [HST.out]; rfl)])
          clear HST
          go_wp2_with fail
          go_ret
          exact ⟨by rw [HC.out]; rfl, HB1.out⟩
      · obtain rfl : k = ns.length := by have := HNL.out; omega
        have d2 : decide (ns.length < ns.length) = false := dec_n (by omega)
        have HB := Lib.hid (show az = false by rw [← HA.out, HNL.out]; exact HX.out)
        have HE3 := Lib.hid (HE2.out.trans (if_neg (by rw [HB.out]; simp)))
        have K1 := KS.out B d w1 HI.out
        clear hk hlt HE2 HA
        go_wp2_with fail
        refine K1.mono ?_
        rintro e w2 ⟨rfl, n, rfl⟩
        have HB2 := Lib.hid (HB1.out.trans (below_draws w.heap.size w1 n))
        have z1 : (w1.drewN n).cell? ⟨w.heap.size, 1, none⟩ = some (.int .i64 r.freq) := y1
        have z5 : (w1.drewN n).cell? ⟨w.heap.size, 5, none⟩ = some (.slice (r.A 0) (r.Z 0).length (r.c 0)) := y5
        have K2 := KO0.out B d (w1.drewN n) (HI.out.drewN n)
        have K3 := KO5.out B d (w1.drewN n) (HI.out.drewN n)
        generalize w1.drewN n = w3 at HB2 z1 z5 K2 K3 ⊢
        clear K1 y1 y5 y7
        obtain ⟨f5, hf5⟩ : ∃ p, decide (r.freq < 5) = p := ⟨_, rfl⟩
        obtain ⟨g5, hg5⟩ : ∃ p, decide (r.freq = 5) = p := ⟨_, rfl⟩
        have hg6 : (r.freq == 5) = g5 := by rw [← hg5]; rfl
        obtain ⟨m0, hm0⟩ : ∃ p, decide (0 < (r.Z 0).length) = p := ⟨_, rfl⟩
        have hm1 : decide ((0 : Int) < ((r.Z 0).length : Int)) = m0 := by rw [← hm0]; exact decide_eq_decide.2 (by omega)
        rw [hf5, hg5, hm0] at HE3
        cases sg
        · go_wp2_with fail
          refine K2.mono ?_
          rintro e w4 ⟨rfl, rfl⟩
          cases o0 <;> cases f5
          case true.true =>
            go_wp2_with fail
            go_ret
            exact ⟨by rw [HE3.out]; rfl, HB2.out⟩
          all_goals
            go_wp2_with fail
            refine K3.mono ?_
            rintro e w5 ⟨rfl, rfl⟩
            cases o5 <;> cases g5 <;> cases m0
            all_goals
              go_wp2_with fail
              go_ret
              exact ⟨by rw [HE3.out]; rfl, HB2.out⟩
        · go_wp2_with fail
          go_ret
          exact ⟨by rw [HE3.out]; rfl, HB2.out⟩
end Go.Proofs.YtigbbepgfofcoaaDoor
