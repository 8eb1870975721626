/- A rule's months and days: rule.Months, rule.Days (layer 32). A rule's days: rule.Days (layer 32). Is a day one of a rule's weekdays: feriaref32.week (layer 32). -/
import Derived.Test.YtigbbepgfofcoaaDoorRlW
import Derived.Deep.DeepCutAuto
import Derived.Test.YtigbbepgfofcoaaDoorRlN
import Derived.BigQuiet
namespace Go.Proofs.YtigbbepgfofcoaaDoor
open Go.RowKit Civ
set_option linter.unusedVariables false

theorem fld_mo (c : Cl) (w : World) : (Instr.field 75 (.agg (clC c)) 3).run Tryd.prog w = .ok (.int .u64 (c.mo : Nat)) w := by
  have hu := Tryd.underlying75
  have he := Tryd.underlying35
  have hg : (clC c)[3]? = some (.int .u64 (c.mo : Nat)) := rfl
  simp [Instr.field, run_underlying hu, go_sem, asAgg, part, isAgg, run_underlying he, hg]
def negL (zs : List Int) : List Int := zs.map fun z => -z
theorem neg_step (l : List Int) (k : Nat) (h : k < l.length) : negL (l.take (k + 1)) = negL (l.take k) ++ [-(l[k]?.getD 0)] := by
  unfold negL
  have e : l.take (k + 1) = l.take k ++ [l[k]] := by rw [List.take_add_one, List.getElem?_eq_getElem h]; rfl
  rw [e, List.map_append, List.getElem?_eq_getElem h]; rfl
theorem neg_len (l : List Int) (k : Nat) (h : k ≤ l.length) : (negL (l.take k)).length = k := by
  unfold negL; rw [List.length_map, List.length_take]; omega
set_option maxHeartbeats 1600000 in
set_option maxRecDepth 20000 in
theorem negs_any (A : Option Addr) (c : Nat) (l : List Int) (w : World) (hi : Ints .i64 w A l) (hl : l.length ≤ 100000) (hb : ∀ z ∈ l, -1000 ≤ z ∧ z ≤ 1000) :
    Calls Tryd.prog 68 #[.slice A l.length c] w fun e w' => ∃ B d, e = .returned (.slice B (negL l).length d) ∧ Ints .i64 w' B (negL l) ∧ Below w.heap.size w w' := by
  have HN := Lib.hid hi
  have HL := Lib.hid hl
  have HV := Lib.hid (show ∀ k, k < l.length → -1000 ≤ l[k]?.getD 0 ∧ l[k]?.getD 0 ≤ 1000 from fun k h => by rw [List.getElem?_eq_getElem h]; exact hb _ (List.getElem_mem h))
  have HST := Lib.hid (fun k h => neg_step l k h)
  have HLEN := Lib.hid (fun k h => neg_len l k h)
  have HALL := Lib.hid (show negL (l.take l.length) = negL l by rw [List.take_length])
  obtain ⟨i0, hi', hz0, hz1, hz2⟩ := info_parts info_int
  obtain ⟨w0, hmake, hown0, hgr0⟩ := run_make_own w w.heap.size 22 3 i0 _ 1 Tryd.underlying22 hi' hz0 hz1 .i64 .i64 l.length (by rw [hz2]; omega) (by unfold maxLen; omega) (Nat.le_refl _)
  have HBM := Lib.hid (Below.grown (Below.refl w.heap.size w) hgr0 (Nat.le_refl _) (fun k hk => by cases hk))
  have HO0 := Lib.hid (show OwnI w0 w.heap.size (.slice (some ⟨w.heap.size, 0, none⟩) 0 l.length) [] from hown0)
  clear hi hl hb hown0 hgr0
  go_enter Tryd.func68, Tryd.ntmps68
  go_wp2_with fail
  clear hmake
  go_loopw [3, 11] (fun v i wr => ∃ k : Nat, k ≤ l.length ∧ i = .int .i64 k ∧ OwnI wr w.heap.size v (negL (l.take k)) ∧ Below w.heap.size w wr) (fun _ i _ => l.length - (intOf i).toNat)
  case atStart => exact ⟨0, Nat.zero_le _, rfl, HO0.out, HBM.out⟩
  case round =>
    obtain ⟨k, hk, rfl, hown, hb⟩ := hrel
    have HB := Lib.hid hb
    have HO := Lib.hid hown
    by_cases hlt : k < l.length
    · obtain ⟨b, off, rfl, hbl, z0⟩ := (HN.out.below hb) k hlt
      have d0 : decide (k < l.length) = true := dec_t hlt
      have ik0 : (0 : Int) ≤ (k : Int) := by omega
      have ik1 : (k : Int) < (l.length : Int) := by omega
      have hl := HL.out
      have hw1 : IntKind.i64.wrap ((k : Int) + 1) = (k : Int) + 1 := IntWalk.i64_in _ ⟨by omega, by omega⟩
      have hv := HV.out k hlt
      have HT := Lib.hid (HST.out k hlt)
      have HLE := Lib.hid (HLEN.out k hk)
      have HK := Lib.hid hlt
      generalize l[k]?.getD 0 = q at z0 HT hv
      have hng : IntKind.i64.wrap (-q) = -q := IntWalk.i64_in _ ⟨by omega, by omega⟩
      have HZ := Lib.hid HB.out.size
      clear hk hlt hown hb hl hbl hv
      go_wp2_with ((at_builtin; refine wpList_append_own _ rfl _ _ 22 rfl w.heap.size 3 i0 (.int .i64 0) 1 8 Tryd.underlying22 hi' hz0 hz1 hz2 rfl (by decide) _ _ _ rfl (World.ownsRow.alloc HO.out _) ⟨wr.heap.size, 0, none⟩ 1 1 [.int .i64 (-q)] rfl rfl ?e1 ?e2 ?e3 ?e4 ?e5 ?_))
      case e1 =>
        intro j u hj
        cases j with
        | zero =>
          cases hj
          exact cell_new wr #[.int .i64 (-q)] 3 0
        | succ j => cases hj
      case e2 => simp [Value.oneCell']
      case e3 => have := HK.out; have := HLE.out; have := HL.out; unfold maxLen; omega
      case e4 => have := HK.out; have := HLE.out; have := HL.out; omega
      case e5 => have := HZ.out; simp at this ⊢; omega
      intro v' w2 hown1 hgrow _
      have HO2 := Lib.hid (OwnI.snoc hown1)
      have HB2 := Lib.hid (Below.grown (HB.out.alloc HZ.out (.cells #[.int .i64 (-q)] 3)) hgrow (by have := HZ.out; simp at this ⊢; omega) (own_block HO.out))
      clear hown1 hgrow
      go_wp2
      go_roundw
      case rel => exact ⟨k + 1, by have := HK.out; omega, by go_num, by rw [HT.out]; exact HO2.out, HB2.out⟩
      case measure =>
        have := HK.out
        simp [intOf]; omega
    · obtain rfl : k = l.length := by omega
      have d0 : decide (l.length < l.length) = false := dec_n (by omega)
      rw [HALL.out] at hown
      obtain ⟨B, d, rfl, hin⟩ := hown.ints
      have HI := Lib.hid hin
      clear hin hk hlt hb HO hown
      go_wp2
      go_ret
      exact ⟨B, d, rfl, HI.out, HB.out⟩
def moM (r : Rl) (m : Int) : Nat := if 0 < (r.Z 0).length then mk (inL (r.Z 0)) else if r.freq = 6 ∧ (r.Z 1).length = 0 ∧ r.N.length = 0 then mk (inL [m]) else fullC.mo
set_option maxHeartbeats 3200000 in
set_option maxRecDepth 20000 in
theorem months_no (r : Rl) (w : World) (hr : RlAt w r) (hin : RlIn r) (hN : r.N.length ≤ 100000) (hT : TabUn w) (h : chkE r ≠ 0) :
    Calls Tryd.prog 13 #[rlV r] w fun e w' => e = .returned (.int .u64 0) ∧ Below w.heap.size w w' := by
  have HG0 := Lib.hid (blk_new w (.cells (rlC r) 25))
  have HB0 := Lib.hid (show Below w.heap.size w (w.alloc (.cells (rlC r) 25)) from (Below.refl _ _).alloc (Nat.le_refl _) _)
  have K := begun_no r (w.alloc (.cells (rlC r) 25)) (hr.below HB0.out) hin hN (hT.bel HB0.out) h
  have HR := Lib.hid hr
  obtain ⟨W0, hW0⟩ : ∃ W0, w.alloc (.cells (rlC r) 25) = W0 := ⟨_, rfl⟩
  rw [hW0] at HG0 HB0 K
  have x0 : W0.cell? ⟨w.heap.size, 0, none⟩ = some (.int .i64 r.start) := blk_cell HG0.out 0
  have x1 : W0.cell? ⟨w.heap.size, 1, none⟩ = some (.int .i64 r.freq) := blk_cell HG0.out 1
  have x2 : W0.cell? ⟨w.heap.size, 2, none⟩ = some (.int .i64 r.itv) := blk_cell HG0.out 2
  have x3 : W0.cell? ⟨w.heap.size, 3, none⟩ = some (.int .i64 r.cnt) := blk_cell HG0.out 3
  have x4 : W0.cell? ⟨w.heap.size, 4, none⟩ = some (.int .i64 r.unt) := blk_cell HG0.out 4
  have x5 : W0.cell? ⟨w.heap.size, 5, none⟩ = some (.slice (r.A 0) (r.Z 0).length (r.c 0)) := blk_cell HG0.out 5
  have x6 : W0.cell? ⟨w.heap.size, 6, none⟩ = some (.slice (r.A 1) (r.Z 1).length (r.c 1)) := blk_cell HG0.out 6
  have x7 : W0.cell? ⟨w.heap.size, 7, none⟩ = some (.slice r.AW r.N.length r.cw) := blk_cell HG0.out 7
  have x8 : W0.cell? ⟨w.heap.size, 8, none⟩ = some (.slice (r.A 2) (r.Z 2).length (r.c 2)) := blk_cell HG0.out 8
  have x9 : W0.cell? ⟨w.heap.size, 9, none⟩ = some (.slice (r.A 3) (r.Z 3).length (r.c 3)) := blk_cell HG0.out 9
  have x10 : W0.cell? ⟨w.heap.size, 10, none⟩ = some (.slice (r.A 4) (r.Z 4).length (r.c 4)) := blk_cell HG0.out 10
  have HW := Lib.hid hW0
  unfold rlV rlC at K ⊢
  unfold rlC at HW
  clear hr hin hN hT h hW0
  go_enter Tryd.func13, Tryd.ntmps13
  go_wp2_with fail
  try rw [HW.out]
  refine K.mono ?_
  rintro e w1 ⟨rfl, hb⟩
  have HB1 := Lib.hid ((HB0.out.trans (hb.mono HB0.out.size)).alloc (HB0.out.trans (hb.mono HB0.out.size)).size (.cells #[.int .i64 0, .int .i64 0, .int .i64 0, .int .i64 0, .int .i64 0, .int .i64 0] 69))
  have HG1 := Lib.hid (blk_more ((hb.block _ (lt_of_block HG0.out)).trans HG0.out) (.cells #[.int .i64 0, .int .i64 0, .int .i64 0, .int .i64 0, .int .i64 0, .int .i64 0] 69))
  have HS1 := Lib.hid (blk_new w1 (.cells #[.int .i64 0, .int .i64 0, .int .i64 0, .int .i64 0, .int .i64 0, .int .i64 0] 69))
  clear hb K HW x0 x1 x2 x3 x4 x5 x6 x7 x8 x9 x10 HB0 HG0
  go_upto_region 2 with (refine wpList_storeNew #[.int .i64 0, .int .i64 0, .int .i64 0, .int .i64 0, .int .i64 0, .int .i64 0] rfl _ _ _ rfl rfl rfl (by kernel_rfl) rfl (by simp [Value.oneCell']) ?_)
  generalize w1.heap.size = gs at HS1 ⊢
  generalize w1.alloc (.cells #[.int .i64 0, .int .i64 0, .int .i64 0, .int .i64 0, .int .i64 0, .int .i64 0] 69) = W2 at *
  go_wp2_with fail
  go_ret
  exact ⟨rfl, HB1.out⟩
set_option maxHeartbeats 3200000 in
set_option maxRecDepth 20000 in
theorem months_yes (r : Rl) (w : World) (hr : RlAt w r) (hin : RlIn r) (hN : r.N.length ≤ 100000) (hT : TabUn w) (h : chkE r = 0) (y m d : Int) (hd : IsDate (r.start / 86400) y m d) (hlen : ∀ i, i < 5 → (r.Z i).length ≤ 1000000) :
    Calls Tryd.prog 13 #[rlV r] w fun e w' => e = .returned (.int .u64 (moM r m : Nat)) ∧ Below w.heap.size w w' := by
  obtain ⟨p0, hp0⟩ : ∃ b, decide (0 < (r.Z 0).length) = b := ⟨_, rfl⟩
  obtain ⟨p1, hp1⟩ : ∃ b, decide (r.freq = 6) = b := ⟨_, rfl⟩
  obtain ⟨p2, hp2⟩ : ∃ b, decide ((r.Z 1).length = 0) = b := ⟨_, rfl⟩
  obtain ⟨p3, hp3⟩ : ∃ b, decide (r.N.length = 0) = b := ⟨_, rfl⟩
  have HM := Lib.hid (show moM r m = if p0 = true then mk (inL (r.Z 0)) else if (p1 && (p2 && p3)) = true then mk (inL [m]) else fullC.mo by rw [← hp0, ← hp1, ← hp2, ← hp3]; unfold moM; simp only [decide_eq_true_eq, Bool.and_eq_true])
  have a0 : decide ((0 : Int) < ((r.Z 0).length : Int)) = p0 := by rw [← hp0]; exact decide_eq_decide.2 (by omega)
  have a1 : (r.freq == 6) = p1 := by rw [← hp1]; rfl
  have a2 : (((r.Z 1).length : Int) == 0) = p2 := by rw [← hp2, Bool.eq_iff_iff]; simp
  have a2n : ((r.Z 1).length == 0) = p2 := by rw [← hp2, Bool.eq_iff_iff]; simp
  have a3 : ((r.N.length : Int) == 0) = p3 := by rw [← hp3, Bool.eq_iff_iff]; simp
  have a3n : (r.N.length == 0) = p3 := by rw [← hp3, Bool.eq_iff_iff]; simp
  have KF := Lib.hid (fun W => cfull_any W)
  unfold clV at KF
  have KO := Lib.hid (fun W (h : Ints .i64 W (r.A 0) (r.Z 0)) => of_any (r.A 0) (r.c 0) (r.Z 0) W (hlen 0 (by decide)) h)
  have KP := Lib.hid (fun (g : Nat) (W : World) (h : Ints .i64 W (some ⟨g, 0, none⟩) [m]) => show Calls Tryd.prog 66 #[.slice (some ⟨g, 0, none⟩) 1 1] W (fun e w' => e = .returned (.int .u64 (mk (inL [m]) : Nat)) ∧ W = w') from of_any (some ⟨g, 0, none⟩) 1 [m] W (show 1 ≤ 1000000 by decide) h)
  generalize moM r m = res at HM ⊢
  generalize fullC = fc at KF HM
  generalize mk (inL (r.Z 0)) = M0 at HM KO
  generalize mk (inL [m]) = M1 at HM KP
  have hfm := fld_mo fc
  clear hp1 hp2 hp3 hlen
  have HG0 := Lib.hid (blk_new w (.cells (rlC r) 25))
  have HB0 := Lib.hid (show Below w.heap.size w (w.alloc (.cells (rlC r) 25)) from (Below.refl _ _).alloc (Nat.le_refl _) _)
  have K := begun_yes r (w.alloc (.cells (rlC r) 25)) (hr.below HB0.out) hin hN (hT.bel HB0.out) h y m d hd
  have HR := Lib.hid hr
  obtain ⟨W0, hW0⟩ : ∃ W0, w.alloc (.cells (rlC r) 25) = W0 := ⟨_, rfl⟩
  rw [hW0] at HG0 HB0 K
  unfold stampV at K
  have x0 : W0.cell? ⟨w.heap.size, 0, none⟩ = some (.int .i64 r.start) := blk_cell HG0.out 0
  have x1 : W0.cell? ⟨w.heap.size, 1, none⟩ = some (.int .i64 r.freq) := blk_cell HG0.out 1
  have x2 : W0.cell? ⟨w.heap.size, 2, none⟩ = some (.int .i64 r.itv) := blk_cell HG0.out 2
  have x3 : W0.cell? ⟨w.heap.size, 3, none⟩ = some (.int .i64 r.cnt) := blk_cell HG0.out 3
  have x4 : W0.cell? ⟨w.heap.size, 4, none⟩ = some (.int .i64 r.unt) := blk_cell HG0.out 4
  have x5 : W0.cell? ⟨w.heap.size, 5, none⟩ = some (.slice (r.A 0) (r.Z 0).length (r.c 0)) := blk_cell HG0.out 5
  have x6 : W0.cell? ⟨w.heap.size, 6, none⟩ = some (.slice (r.A 1) (r.Z 1).length (r.c 1)) := blk_cell HG0.out 6
  have x7 : W0.cell? ⟨w.heap.size, 7, none⟩ = some (.slice r.AW r.N.length r.cw) := blk_cell HG0.out 7
  have x8 : W0.cell? ⟨w.heap.size, 8, none⟩ = some (.slice (r.A 2) (r.Z 2).length (r.c 2)) := blk_cell HG0.out 8
  have x9 : W0.cell? ⟨w.heap.size, 9, none⟩ = some (.slice (r.A 3) (r.Z 3).length (r.c 3)) := blk_cell HG0.out 9
  have x10 : W0.cell? ⟨w.heap.size, 10, none⟩ = some (.slice (r.A 4) (r.Z 4).length (r.c 4)) := blk_cell HG0.out 10
  have HW := Lib.hid hW0
  unfold rlV rlC at K ⊢
  unfold rlC at HW
  clear hr hin hN hT h hW0 hd
  go_enter Tryd.func13, Tryd.ntmps13
  go_wp2_with fail
  try rw [HW.out]
  refine K.mono ?_
  rintro e w1 ⟨rfl, hb⟩
  have HB1 := Lib.hid ((HB0.out.trans (hb.mono HB0.out.size)).alloc (HB0.out.trans (hb.mono HB0.out.size)).size (.cells #[.int .i64 y, .int .i64 m, .int .i64 d, .int .i64 (r.start % 86400 / 3600), .int .i64 (r.start % 86400 / 60 % 60), .int .i64 (r.start % 60)] 69))
  have HG1 := Lib.hid (blk_more ((hb.block _ (lt_of_block HG0.out)).trans HG0.out) (.cells #[.int .i64 y, .int .i64 m, .int .i64 d, .int .i64 (r.start % 86400 / 3600), .int .i64 (r.start % 86400 / 60 % 60), .int .i64 (r.start % 60)] 69))
  have HS1 := Lib.hid (blk_new w1 (.cells #[.int .i64 y, .int .i64 m, .int .i64 d, .int .i64 (r.start % 86400 / 3600), .int .i64 (r.start % 86400 / 60 % 60), .int .i64 (r.start % 60)] 69))
  clear hb K HW x0 x1 x2 x3 x4 x5 x6 x7 x8 x9 x10 HB0 HG0
  go_upto_region 2 with (refine wpList_storeNew #[.int .i64 y, .int .i64 m, .int .i64 d, .int .i64 (r.start % 86400 / 3600), .int .i64 (r.start % 86400 / 60 % 60), .int .i64 (r.start % 60)] rfl _ _ _ rfl rfl rfl (by kernel_rfl) rfl (by simp [Value.oneCell']) ?_)
  generalize w1.heap.size = gs at HS1 ⊢
  generalize w1.alloc (.cells #[.int .i64 y, .int .i64 m, .int .i64 d, .int .i64 (r.start % 86400 / 3600), .int .i64 (r.start % 86400 / 60 % 60), .int .i64 (r.start % 60)] 69) = W2 at *
  have y0 : W2.cell? ⟨w.heap.size, 0, none⟩ = some (.int .i64 r.start) := blk_cell HG1.out 0
  have y1 : W2.cell? ⟨w.heap.size, 1, none⟩ = some (.int .i64 r.freq) := blk_cell HG1.out 1
  have y5 : W2.cell? ⟨w.heap.size, 5, none⟩ = some (.slice (r.A 0) (r.Z 0).length (r.c 0)) := blk_cell HG1.out 5
  have y6 : W2.cell? ⟨w.heap.size, 6, none⟩ = some (.slice (r.A 1) (r.Z 1).length (r.c 1)) := blk_cell HG1.out 6
  have y7 : W2.cell? ⟨w.heap.size, 7, none⟩ = some (.slice r.AW r.N.length r.cw) := blk_cell HG1.out 7
  have z1 : W2.cell? ⟨gs, 1, none⟩ = some (.int .i64 m) := blk_cell HS1.out 1
  have HR2 := Lib.hid (HR.out.below HB1.out)
  cases p0
  case true =>
    go_wp2_with fail
    refine (KO.out _ (HR2.out.1 0 (by decide))).mono ?_
    rintro e w3 ⟨rfl, rfl⟩
    go_wp2_with fail
    go_ret
    exact ⟨by rw [HM.out]; rfl, HB1.out⟩
  case false =>
  go_upto_region 6 with fail
  go_cut [21] (fun s21 wx => s21 = .bool (p1 && (p2 && p3)) ∧ W2 = wx)
  case first =>
    cases p1
    · go_wp2_with fail
      go_meet
      exact ⟨rfl, rfl⟩
    · cases p2
      · go_wp2_with fail
        go_meet
        exact ⟨rfl, rfl⟩
      · go_wp2_with fail
        go_meet
        exact ⟨rfl, rfl⟩
  case rest =>
  obtain ⟨rfl, rfl⟩ := hcut
  generalize (p1 && (p2 && p3)) = pp at *
  cases pp
  case false =>
    go_wp2_with fail
    refine (KF.out _).mono ?_
    rintro e w3 ⟨rfl, hb⟩
    have HB3 := Lib.hid (HB1.out.trans (hb.mono HB1.out.size))
    clear hb
    go_wp2_with fail
    go_ret
    exact ⟨by rw [HM.out]; rfl, HB3.out⟩
  case true =>
    go_wp2_with fail
    refine (KP.out _ _ (ints1_of (blk_new W2 (.cells #[.int .i64 m] 3)))).mono ?_
    rintro e w3 ⟨rfl, rfl⟩
    have HB3 := Lib.hid (HB1.out.alloc HB1.out.size (.cells #[.int .i64 m] 3))
    go_wp2_with fail
    go_ret
    exact ⟨by rw [HM.out]; rfl, HB3.out⟩
end Go.Proofs.YtigbbepgfofcoaaDoor
namespace Go.Proofs.YtigbbepgfofcoaaDoor
open Go.RowKit Civ
set_option linter.unusedVariables false

def domM (r : Rl) (d : Int) : Nat := if (r.Z 1).length = 0 ∧ r.N.length = 0 ∧ 5 ≤ r.freq then mk (inL [d]) else if mk (inL (r.Z 1)) = 0 then fullC.d else mk (inL (r.Z 1))
def endM (r : Rl) : Nat := if mk (inL (negL (r.Z 1))) = 0 then fullC.e else mk (inL (negL (r.Z 1)))
set_option maxHeartbeats 3200000 in
set_option maxRecDepth 20000 in
theorem days_no (r : Rl) (w : World) (hr : RlAt w r) (hin : RlIn r) (hN : r.N.length ≤ 100000) (hT : TabUn w) (h : chkE r ≠ 0) :
    Calls Tryd.prog 14 #[rlV r] w fun e w' => e = .returned (.tuple #[.int .u64 0, .int .u64 0]) ∧ Below w.heap.size w w' := by
  have HG0 := Lib.hid (blk_new w (.cells (rlC r) 25))
  have HB0 := Lib.hid (show Below w.heap.size w (w.alloc (.cells (rlC r) 25)) from (Below.refl _ _).alloc (Nat.le_refl _) _)
  have K := begun_no r (w.alloc (.cells (rlC r) 25)) (hr.below HB0.out) hin hN (hT.bel HB0.out) h
  have HR := Lib.hid hr
  obtain ⟨W0, hW0⟩ : ∃ W0, w.alloc (.cells (rlC r) 25) = W0 := ⟨_, rfl⟩
  rw [hW0] at HG0 HB0 K
  have x0 : W0.cell? ⟨w.heap.size, 0, none⟩ = some (.int .i64 r.start) := blk_cell HG0.out 0
  have x1 : W0.cell? ⟨w.heap.size, 1, none⟩ = some (.int .i64 r.freq) := blk_cell HG0.out 1
  have x2 : W0.cell? ⟨w.heap.size, 2, none⟩ = some (.int .i64 r.itv) := blk_cell HG0.out 2
  have x3 : W0.cell? ⟨w.heap.size, 3, none⟩ = some (.int .i64 r.cnt) := blk_cell HG0.out 3
  have x4 : W0.cell? ⟨w.heap.size, 4, none⟩ = some (.int .i64 r.unt) := blk_cell HG0.out 4
  have x5 : W0.cell? ⟨w.heap.size, 5, none⟩ = some (.slice (r.A 0) (r.Z 0).length (r.c 0)) := blk_cell HG0.out 5
  have x6 : W0.cell? ⟨w.heap.size, 6, none⟩ = some (.slice (r.A 1) (r.Z 1).length (r.c 1)) := blk_cell HG0.out 6
  have x7 : W0.cell? ⟨w.heap.size, 7, none⟩ = some (.slice r.AW r.N.length r.cw) := blk_cell HG0.out 7
  have x8 : W0.cell? ⟨w.heap.size, 8, none⟩ = some (.slice (r.A 2) (r.Z 2).length (r.c 2)) := blk_cell HG0.out 8
  have x9 : W0.cell? ⟨w.heap.size, 9, none⟩ = some (.slice (r.A 3) (r.Z 3).length (r.c 3)) := blk_cell HG0.out 9
  have x10 : W0.cell? ⟨w.heap.size, 10, none⟩ = some (.slice (r.A 4) (r.Z 4).length (r.c 4)) := blk_cell HG0.out 10
  have HW := Lib.hid hW0
  unfold rlV rlC at K ⊢
  unfold rlC at HW
  clear hr hin hN hT h hW0
  go_enter Tryd.func14, Tryd.ntmps14
  go_wp2_with fail
  try rw [HW.out]
  refine K.mono ?_
  rintro e w1 ⟨rfl, hb⟩
  have HB1 := Lib.hid ((HB0.out.trans (hb.mono HB0.out.size)).alloc (HB0.out.trans (hb.mono HB0.out.size)).size (.cells #[.int .i64 0, .int .i64 0, .int .i64 0, .int .i64 0, .int .i64 0, .int .i64 0] 69))
  have HG1 := Lib.hid (blk_more ((hb.block _ (lt_of_block HG0.out)).trans HG0.out) (.cells #[.int .i64 0, .int .i64 0, .int .i64 0, .int .i64 0, .int .i64 0, .int .i64 0] 69))
  have HS1 := Lib.hid (blk_new w1 (.cells #[.int .i64 0, .int .i64 0, .int .i64 0, .int .i64 0, .int .i64 0, .int .i64 0] 69))
  clear hb K HW x0 x1 x2 x3 x4 x5 x6 x7 x8 x9 x10 HB0 HG0
  go_upto_region 2 with (refine wpList_storeNew #[.int .i64 0, .int .i64 0, .int .i64 0, .int .i64 0, .int .i64 0, .int .i64 0] rfl _ _ _ rfl rfl rfl (by kernel_rfl) rfl (by simp [Value.oneCell']) ?_)
  generalize w1.heap.size = gs at HS1 ⊢
  generalize w1.alloc (.cells #[.int .i64 0, .int .i64 0, .int .i64 0, .int .i64 0, .int .i64 0, .int .i64 0] 69) = W2 at *
  go_wp2_with fail
  exact bodyPost_ret (v := .tuple #[.int .u64 0, .int .u64 0]) (by simp [results, Tryd.results14, go_sem]) rfl ⟨rfl, HB1.out⟩
set_option maxHeartbeats 3200000 in
set_option maxRecDepth 20000 in
theorem days_yes (r : Rl) (w : World) (hr : RlAt w r) (hin : RlIn r) (hN : r.N.length ≤ 100000) (hT : TabUn w) (h : chkE r = 0) (y m d : Int) (hd : IsDate (r.start / 86400) y m d)  :
    Calls Tryd.prog 14 #[rlV r] w fun e w' => e = .returned (.tuple #[.int .u64 (domM r d : Nat), .int .u64 (endM r : Nat)]) ∧ Below w.heap.size w w' := by
  obtain ⟨p0, hp0⟩ : ∃ b, decide (5 ≤ r.freq) = b := ⟨_, rfl⟩
  obtain ⟨p2, hp2⟩ : ∃ b, decide ((r.Z 1).length = 0) = b := ⟨_, rfl⟩
  obtain ⟨p3, hp3⟩ : ∃ b, decide (r.N.length = 0) = b := ⟨_, rfl⟩
  have hm1 := mk_lt (inL (r.Z 1))
  have hm2 := mk_lt (inL (negL (r.Z 1)))
  obtain ⟨e1, he1⟩ : ∃ b, decide (mk (inL (r.Z 1)) = 0) = b := ⟨_, rfl⟩
  obtain ⟨e2, he2⟩ : ∃ b, decide (mk (inL (negL (r.Z 1))) = 0) = b := ⟨_, rfl⟩
  have HM := Lib.hid (show domM r d = if (p2 && p3 && p0) = true then mk (inL [d]) else if e1 = true then fullC.d else mk (inL (r.Z 1)) by rw [← hp0, ← hp2, ← hp3, ← he1]; unfold domM; simp only [decide_eq_true_eq, Bool.and_eq_true, and_assoc])
  have HE := Lib.hid (show endM r = if e2 = true then fullC.e else mk (inL (negL (r.Z 1))) by rw [← he2]; unfold endM; simp only [decide_eq_true_eq])
  have hz := (hin.2.2.2.2.2.1 1 (by decide)).1
  have hzb := (lst_parts (show lstE (-31) 31 (r.Z 1) = 0 from by
    have q := (chk_all h).2.2.1
    unfold daysE at q
    by_cases c : lstE (-31) 31 (r.Z 1) = 0
    · exact c
    · rw [if_pos c] at q; exact absurd q c))
  have KF := Lib.hid (fun W => cfull_any W)
  unfold clV at KF
  have KO := Lib.hid (fun W (h : Ints .i64 W (r.A 1) (r.Z 1)) => of_any (r.A 1) (r.c 1) (r.Z 1) W (by omega) h)
  have KN := Lib.hid (fun W (h : Ints .i64 W (r.A 1) (r.Z 1)) => negs_any (r.A 1) (r.c 1) (r.Z 1) W h (by omega) (fun z hz => by have := hzb.2 z hz; omega))
  have hnl : (negL (r.Z 1)).length ≤ 1000000 := by unfold negL; rw [List.length_map]; omega
  have KQ := Lib.hid (fun B c W (h : Ints .i64 W B (negL (r.Z 1))) => of_any B c (negL (r.Z 1)) W hnl h)
  have KP := Lib.hid (fun (g : Nat) (W : World) (h : Ints .i64 W (some ⟨g, 0, none⟩) [d]) => show Calls Tryd.prog 66 #[.slice (some ⟨g, 0, none⟩) 1 1] W (fun e w' => e = .returned (.int .u64 (mk (inL [d]) : Nat)) ∧ W = w') from of_any (some ⟨g, 0, none⟩) 1 [d] W (show 1 ≤ 1000000 by decide) h)
  have a0 : decide ((5 : Int) ≤ r.freq) = p0 := hp0
  have a2 : (((r.Z 1).length : Int) == 0) = p2 := by rw [← hp2, Bool.eq_iff_iff]; simp
  have a2n : ((r.Z 1).length == 0) = p2 := by rw [← hp2, Bool.eq_iff_iff]; simp
  have a3 : ((r.N.length : Int) == 0) = p3 := by rw [← hp3, Bool.eq_iff_iff]; simp
  have a3n : (r.N.length == 0) = p3 := by rw [← hp3, Bool.eq_iff_iff]; simp
  generalize domM r d = res at HM ⊢
  generalize endM r = ren at HE ⊢
  generalize fullC = fc at KF HM HE
  generalize mk (inL (r.Z 1)) = M0 at HM KO he1 hm1
  generalize mk (inL (negL (r.Z 1))) = N0 at HE KQ he2 hm2
  generalize mk (inL [d]) = M1 at HM KP
  have a4 : ((M0 : Int) == 0) = e1 := by rw [← he1, Bool.eq_iff_iff]; simp
  have a4n : (M0 == 0) = e1 := by rw [← he1, Bool.eq_iff_iff]; simp
  have a5 : ((N0 : Int) == 0) = e2 := by rw [← he2, Bool.eq_iff_iff]; simp
  have a5n : (N0 == 0) = e2 := by rw [← he2, Bool.eq_iff_iff]; simp
  clear hp0 hp2 hp3 he1 he2 hz hzb hnl hm1 hm2
  have HG0 := Lib.hid (blk_new w (.cells (rlC r) 25))
  have HB0 := Lib.hid (show Below w.heap.size w (w.alloc (.cells (rlC r) 25)) from (Below.refl _ _).alloc (Nat.le_refl _) _)
  have K := begun_yes r (w.alloc (.cells (rlC r) 25)) (hr.below HB0.out) hin hN (hT.bel HB0.out) h y m d hd
  have HR := Lib.hid hr
  obtain ⟨W0, hW0⟩ : ∃ W0, w.alloc (.cells (rlC r) 25) = W0 := ⟨_, rfl⟩
  rw [hW0] at HG0 HB0 K
  unfold stampV at K
  have x0 : W0.cell? ⟨w.heap.size, 0, none⟩ = some (.int .i64 r.start) := blk_cell HG0.out 0
  have x1 : W0.cell? ⟨w.heap.size, 1, none⟩ = some (.int .i64 r.freq) := blk_cell HG0.out 1
  have x2 : W0.cell? ⟨w.heap.size, 2, none⟩ = some (.int .i64 r.itv) := blk_cell HG0.out 2
  have x3 : W0.cell? ⟨w.heap.size, 3, none⟩ = some (.int .i64 r.cnt) := blk_cell HG0.out 3
  have x4 : W0.cell? ⟨w.heap.size, 4, none⟩ = some (.int .i64 r.unt) := blk_cell HG0.out 4
  have x5 : W0.cell? ⟨w.heap.size, 5, none⟩ = some (.slice (r.A 0) (r.Z 0).length (r.c 0)) := blk_cell HG0.out 5
  have x6 : W0.cell? ⟨w.heap.size, 6, none⟩ = some (.slice (r.A 1) (r.Z 1).length (r.c 1)) := blk_cell HG0.out 6
  have x7 : W0.cell? ⟨w.heap.size, 7, none⟩ = some (.slice r.AW r.N.length r.cw) := blk_cell HG0.out 7
  have x8 : W0.cell? ⟨w.heap.size, 8, none⟩ = some (.slice (r.A 2) (r.Z 2).length (r.c 2)) := blk_cell HG0.out 8
  have x9 : W0.cell? ⟨w.heap.size, 9, none⟩ = some (.slice (r.A 3) (r.Z 3).length (r.c 3)) := blk_cell HG0.out 9
  have x10 : W0.cell? ⟨w.heap.size, 10, none⟩ = some (.slice (r.A 4) (r.Z 4).length (r.c 4)) := blk_cell HG0.out 10
  have HW := Lib.hid hW0
  unfold rlV rlC at K ⊢
  unfold rlC at HW
  clear hr hin hN hT h hW0 hd
  go_enter Tryd.func14, Tryd.ntmps14
  go_wp2_with fail
  try rw [HW.out]
  refine K.mono ?_
  rintro e w1 ⟨rfl, hb⟩
  have HB1 := Lib.hid ((HB0.out.trans (hb.mono HB0.out.size)).alloc (HB0.out.trans (hb.mono HB0.out.size)).size (.cells #[.int .i64 y, .int .i64 m, .int .i64 d, .int .i64 (r.start % 86400 / 3600), .int .i64 (r.start % 86400 / 60 % 60), .int .i64 (r.start % 60)] 69))
  have HG1 := Lib.hid (blk_more ((hb.block _ (lt_of_block HG0.out)).trans HG0.out) (.cells #[.int .i64 y, .int .i64 m, .int .i64 d, .int .i64 (r.start % 86400 / 3600), .int .i64 (r.start % 86400 / 60 % 60), .int .i64 (r.start % 60)] 69))
  have HS1 := Lib.hid (blk_new w1 (.cells #[.int .i64 y, .int .i64 m, .int .i64 d, .int .i64 (r.start % 86400 / 3600), .int .i64 (r.start % 86400 / 60 % 60), .int .i64 (r.start % 60)] 69))
  clear hb K HW x0 x1 x2 x3 x4 x5 x6 x7 x8 x9 x10 HB0 HG0
  go_upto_region 2 with (refine wpList_storeNew #[.int .i64 y, .int .i64 m, .int .i64 d, .int .i64 (r.start % 86400 / 3600), .int .i64 (r.start % 86400 / 60 % 60), .int .i64 (r.start % 60)] rfl _ _ _ rfl rfl rfl (by kernel_rfl) rfl (by simp [Value.oneCell']) ?_)
  generalize w1.heap.size = gs at HS1 ⊢
  generalize w1.alloc (.cells #[.int .i64 y, .int .i64 m, .int .i64 d, .int .i64 (r.start % 86400 / 3600), .int .i64 (r.start % 86400 / 60 % 60), .int .i64 (r.start % 60)] 69) = W2 at *
  go_wp2_with fail
  refine (KF.out _).mono ?_
  rintro e w3 ⟨rfl, hb⟩
  have HB3 := Lib.hid ((HB1.out.trans (hb.mono HB1.out.size)).alloc (HB1.out.trans (hb.mono HB1.out.size)).size (.cells (clC fc) 75))
  have HG3 := Lib.hid (blk_more ((hb.block _ (lt_of_block HG1.out)).trans HG1.out) (.cells (clC fc) 75))
  have HS3 := Lib.hid (blk_more ((hb.block _ (lt_of_block HS1.out)).trans HS1.out) (.cells (clC fc) 75))
  have HF3 := Lib.hid (show ClAt (w3.alloc (.cells (clC fc) 75)) w3.heap.size fc from blk_new w3 _)
  clear hb HB1 HG1 HS1 KF
  go_upto_region 5 with (refine wpList_storeNew (clC fc) rfl _ _ _ rfl rfl rfl (by kernel_rfl) (by unfold clC; kernel_rfl) (by unfold clC; kernel_rfl) ?_)
  generalize w3.heap.size = gf at HF3 ⊢
  generalize w3.alloc (.cells (clC fc) 75) = W3 at *
  have HR3 := Lib.hid (HR.out.below HB3.out)
  have HIK := Lib.hid (fun (X : World) (hb : Below W3.heap.size W3 X) => (HR3.out.below hb).1 1 (by decide))
  try simp only [Act.put]
  go_cut [2, 3] (fun s2 s3 wx => s2 = .int .u64 (M0 : Nat) ∧ s3 = .int .u64 (N0 : Nat) ∧ Below W3.heap.size W3 wx)
  case first =>
    refine wp_region_held_drew (S := fun X => Below W3.heap.size W3 X ∧ X.cell? ⟨w.heap.size, 6, none⟩ = some (.slice (r.A 1) (r.Z 1).length (r.c 1))) (by kernel_rfl) ⟨(Below.refl _ _).drew, blk_cell HG3.out 6⟩ (fun hHeld => ?_)
    refine heldVal (v := ?v1) 0 rfl rfl (by kernel_rfl) (by kernel_rfl) (by kernel_rfl) (fun _ _ _ h => h) (by rfl) (fun w hSw => ?hy1) (by assumption) ?_
    case hy1 => ((try dsimp only at hSw); go_simp; (try with_reducible rfl))
    try simp only [Act.put, List.setIfInBounds_toArray, List.set_cons_zero, List.set_cons_succ]
    refine heldVal (v := ?v2) 1 rfl rfl (by kernel_rfl) (by kernel_rfl) (by kernel_rfl) (fun _ _ _ h => h) (by rfl) (fun w hSw => ?hy2) (by assumption) ?_
    case hy2 => ((try dsimp only at hSw); go_simp; (try with_reducible rfl))
    try simp only [Act.put, List.setIfInBounds_toArray, List.set_cons_zero, List.set_cons_succ]
    refine heldVal (v := ?v3) 3 rfl rfl (by kernel_rfl) (by kernel_rfl) (by kernel_rfl) (fun _ _ _ h => h) (by rfl) (fun w hSw => ?hy3) (by assumption) ?_
    case hy3 => ((try dsimp only at hSw); go_simp; (try with_reducible rfl))
    try simp only [Act.put, List.setIfInBounds_toArray, List.set_cons_zero, List.set_cons_succ]
    refine heldVal (v := ?v4) 4 rfl rfl (by kernel_rfl) (by kernel_rfl) (by kernel_rfl) (fun _ _ _ h => h) (by rfl) (fun w hSw => ?hy4) (by assumption) ?_
    case hy4 => ((try dsimp only at hSw); go_simp; (try with_reducible rfl))
    try simp only [Act.put, List.setIfInBounds_toArray, List.set_cons_zero, List.set_cons_succ]
    refine heldCall 2 rfl rfl (by kernel_rfl) (by rfl) (fun K hK => ?_)
    go_simp
    go_at_call 66
    refine (KO.out _ (HIK.out _ hHeld.1)).mono ?_
    rintro e u1 ⟨rfl, rfl⟩
    go_wp2_with fail
    refine hK.out _ _ ?hS (fun hHeld => ?_)
    case hS => (exact hHeld)
    clear hK K
    try simp only [Act.put, List.setIfInBounds_toArray, List.set_cons_zero, List.set_cons_succ]
    refine heldCall 5 rfl rfl (by kernel_rfl) (by rfl) (fun K hK => ?_)
    go_simp
    go_at_call 68
    refine (KN.out _ (HIK.out _ hHeld.1)).mono ?_
    rintro e u2 ⟨B, c2, rfl, hbi, hb⟩
    have HBI := Lib.hid hbi
    have hSn : Below W3.heap.size W3 u2 ∧ u2.cell? ⟨w.heap.size, 6, none⟩ = some (.slice (r.A 1) (r.Z 1).length (r.c 1)) := ⟨hHeld.1.trans (hb.mono hHeld.1.size), (hb.cell (p := ⟨w.heap.size, 6, none⟩) (cell_ltN hHeld.2)).trans hHeld.2⟩
    clear hb hbi
    go_wp2_with fail
    refine hK.out _ _ ?hS (fun hHeld => ?_)
    case hS => (exact hSn)
    clear hK K
    try simp only [Act.put, List.setIfInBounds_toArray, List.set_cons_zero, List.set_cons_succ]
    refine heldCall 6 rfl rfl (by kernel_rfl) (by rfl) (fun K hK => ?_)
    go_simp
    go_at_call 66
    refine (KQ.out _ _ _ HBI.out).mono ?_
    rintro e u3 ⟨rfl, rfl⟩
    go_wp2_with fail
    refine hK.out _ _ ?hS (fun hHeld => ?_)
    case hS => (exact hHeld)
    clear hK K
    try simp only [Act.put, List.setIfInBounds_toArray, List.set_cons_zero, List.set_cons_succ]
    refine heldVal (v := ?v5) 7 rfl rfl (by kernel_rfl) (by kernel_rfl) (by kernel_rfl) (fun _ _ _ h => h) (by rfl) (fun w hSw => ?hy5) (by assumption) ?_
    case hy5 => ((try dsimp only at hSw); go_simp; (try with_reducible rfl))
    try simp only [Act.put, List.setIfInBounds_toArray, List.set_cons_zero, List.set_cons_succ]
    refine heldVal (v := ?v6) 8 rfl rfl (by kernel_rfl) (by kernel_rfl) (by kernel_rfl) (fun _ _ _ h => h) (by rfl) (fun w hSw => ?hy6) (by assumption) ?_
    case hy6 => ((try dsimp only at hSw); go_simp; (try with_reducible rfl))
    try simp only [Act.put, List.setIfInBounds_toArray, List.set_cons_zero, List.set_cons_succ]
    refine wpAnyH_done (by kernel_rfl) ?_ _
    have HBQ := Lib.hid hSn.1
    clear hSn
    go_wp2_with fail
    go_meet
    exact ⟨rfl, rfl, HBQ.out⟩
  case rest =>
  obtain ⟨rfl, rfl, hb⟩ := hcut
  have HB4 := Lib.hid (HB3.out.trans (hb.mono HB3.out.size))
  have HG4 := Lib.hid ((hb.block _ (lt_of_block HG3.out)).trans HG3.out)
  have HS4 := Lib.hid ((hb.block _ (lt_of_block HS3.out)).trans HS3.out)
  have HF4 := Lib.hid ((hb.block _ (lt_of_block HF3.out)).trans HF3.out)
  clear hb HB3 HG3 HS3 HF3 KO KN KQ HIK
  obtain ⟨W4, hW4⟩ : ∃ W4, W4 = wc := ⟨_, rfl⟩
  subst hW4
  have f4 : W4.cell? ⟨gf, 4, none⟩ = some (.int .u64 (fc.d : Nat)) := blk_cell HF4.out 4
  have f5 : W4.cell? ⟨gf, 5, none⟩ = some (.int .u64 (fc.e : Nat)) := blk_cell HF4.out 5
  have s2 : W4.cell? ⟨gs, 2, none⟩ = some (.int .i64 d) := blk_cell HS4.out 2
  have y1 : W4.cell? ⟨w.heap.size, 1, none⟩ = some (.int .i64 r.freq) := blk_cell HG4.out 1
  have y6 : W4.cell? ⟨w.heap.size, 6, none⟩ = some (.slice (r.A 1) (r.Z 1).length (r.c 1)) := blk_cell HG4.out 6
  have y7 : W4.cell? ⟨w.heap.size, 7, none⟩ = some (.slice r.AW r.N.length r.cw) := blk_cell HG4.out 7
  clear HF4 HS4 HG4
  obtain ⟨D1, hD1⟩ : ∃ x, (if e1 = true then fc.d else M0) = x := ⟨_, rfl⟩
  rw [hD1] at HM
  have HD1 := Lib.hid hD1
  obtain ⟨D2, hD2⟩ : ∃ x, (if e2 = true then fc.e else N0) = x := ⟨_, rfl⟩
  have HD2 := Lib.hid hD2
  rw [hD2] at HE
  clear hD1 hD2
  go_upto_if 23 with fail
  go_cut [2] (fun s2 wx => s2 = .int .u64 (D1 : Nat) ∧ W4 = wx)
  case first =>
    cases e1
    · go_wp2_with fail
      go_meet
      exact ⟨by rw [← HD1.out]; rfl, rfl⟩
    · go_wp2_with fail
      go_meet
      exact ⟨by rw [← HD1.out]; rfl, rfl⟩
  case rest =>
  obtain ⟨rfl, rfl⟩ := hcut
  go_upto_if 27 with fail
  go_cut [3] (fun s3 wx => s3 = .int .u64 (D2 : Nat) ∧ W4 = wx)
  case first =>
    cases e2
    · go_wp2_with fail
      go_meet
      exact ⟨by rw [← HD2.out]; rfl, rfl⟩
    · go_wp2_with fail
      go_meet
      exact ⟨by rw [← HD2.out]; rfl, rfl⟩
  case rest =>
  obtain ⟨rfl, rfl⟩ := hcut
  rw [← HE.out]
  go_upto_region 10 with fail
  go_cut [44] (fun s44 wx => s44 = .bool (p2 && p3 && p0) ∧ W4 = wx)
  case first =>
    cases p2
    · go_wp2_with fail
      go_meet
      exact ⟨rfl, rfl⟩
    · cases p3
      · go_wp2_with fail
        go_meet
        exact ⟨rfl, rfl⟩
      · go_wp2_with fail
        go_meet
        exact ⟨rfl, rfl⟩
  case rest =>
  obtain ⟨rfl, rfl⟩ := hcut
  generalize (p2 && p3 && p0) = pp at *
  cases pp
  case false =>
    have hres : D1 = res := by rw [HM.out, if_neg (by simp)]
    rw [hres]
    clear hres HM HE
    go_wp2_with fail
    exact bodyPost_ret (v := .tuple #[.int .u64 (res : Nat), .int .u64 (ren : Nat)]) (by simp [results, Tryd.results14, go_sem]) rfl ⟨rfl, HB4.out⟩
  case true =>
    have hres : M1 = res := by rw [HM.out, if_pos rfl]
    rw [hres] at KP
    clear hres HM HE
    go_wp2_with fail
    refine (KP.out _ _ (ints1_of (blk_new W4 (.cells #[.int .i64 d] 3)))).mono ?_
    rintro e w5 ⟨rfl, rfl⟩
    have HB5 := Lib.hid (HB4.out.alloc HB4.out.size (.cells #[.int .i64 d] 3))
    go_wp2_with fail
    exact bodyPost_ret (v := .tuple #[.int .u64 (res : Nat), .int .u64 (ren : Nat)]) (by simp [results, Tryd.results14, go_sem]) rfl ⟨rfl, HB5.out⟩
end Go.Proofs.YtigbbepgfofcoaaDoor
namespace Go.Proofs.YtigbbepgfofcoaaDoor
open Go.RowKit Civ
set_option linter.unusedVariables false

/-- what a day is -/
structure Sx where
  (n y m d b k im om iy oy : Int)
def sxC (x : Sx) : Array Value := #[.int .i64 x.n, .int .i64 x.y, .int .i64 x.m, .int .i64 x.d, .int .i64 x.b, .int .i64 x.k, .int .i64 x.im, .int .i64 x.om, .int .i64 x.iy, .int .i64 x.oy]
def SxIn (x : Sx) : Prop := 1 ≤ x.m ∧ x.m ≤ 12 ∧ 1 ≤ x.d ∧ x.d ≤ 31 ∧ 1 ≤ x.b ∧ x.b ≤ 31 ∧ 1 ≤ x.k ∧ x.k ≤ 7 ∧ 1 ≤ x.im ∧ x.im ≤ 60 ∧ 1 ≤ x.om ∧ x.om ≤ 60 ∧ 1 ≤ x.iy ∧ x.iy ≤ 60 ∧ 1 ≤ x.oy ∧ x.oy ≤ 60
def atV (r : Rl) (x : Sx) (n : Int) : Int := if (decide (r.freq = 6) && (decide ((r.Z 0).length = 0) && decide (n < 0))) = true then -x.oy else if (decide (r.freq = 6) && (decide ((r.Z 0).length = 0) && decide (0 < n))) = true then x.iy else if decide (n < 0) = true then -x.om else if decide (0 < n) = true then x.im else 0
def atB (r : Rl) (x : Sx) (q : N2) : Bool := decide (q.2 = x.k) && decide (q.1 = atV r x q.1)
def wkB (r : Rl) (x : Sx) : Bool := if r.N.length = 0 then (decide (r.freq ≠ 4) || decide (x.k = wd (r.start / 86400))) else r.N.any (atB r x)
theorem qcellD {w w' : World} (h : Quiet w w') {a : Addr} {v : Value} (hc : w.cell? a = some v) : w'.cell? a = some v := by obtain ⟨n, rfl⟩ := h; exact hc
theorem qbelowD {w w' : World} (h : Quiet w w') : Below w.heap.size w w' := by obtain ⟨n, rfl⟩ := h; exact below_draws _ w n
set_option maxHeartbeats 6400000 in
set_option maxRecDepth 20000 in
theorem week32_a (r : Rl) (x : Sx) (w : World) (hr : RlAt w r) (hin : RlIn r) (hN : r.N.length ≤ 100000) (hx : SxIn x) (hs1 : 0 ≤ r.start) (hs2 : r.start < 12622780800) (h0 : r.N.length = 0) (h4 : r.freq ≠ 4) :
    Calls Tryd.prog 80 #[rlV r, .agg (sxC x)] w fun e w' => e = .returned (.bool (true)) ∧ Below w.heap.size w w' := by
  have HG1 := Lib.hid (blk_more (blk_new w (.cells (rlC r) 25)) (.cells (sxC x) 45))
  have HG2 := Lib.hid (show ((w.alloc (.cells (rlC r) 25)).alloc (.cells (sxC x) 45)).heap[w.heap.size + 1]? = some (.cells (sxC x) 45 (0, 0)) from by
    have q := blk_new (w.alloc (.cells (rlC r) 25)) (.cells (sxC x) 45)
    rw [World.size_alloc] at q
    exact q)
  have HB0 := Lib.hid (show Below w.heap.size w ((w.alloc (.cells (rlC r) 25)).alloc (.cells (sxC x) 45)) from ((Below.refl _ _).alloc (Nat.le_refl _) _).alloc (by rw [World.size_alloc]; omega) _)
  obtain ⟨W0, hW0⟩ : ∃ W0, (w.alloc (.cells (rlC r) 25)).alloc (.cells (sxC x) 45) = W0 := ⟨_, rfl⟩
  rw [hW0] at HG1 HG2 HB0
  have HR := Lib.hid (hr.below HB0.out)
  have d7 : ((r.N.length : Int) == 0) = true := by rw [h0]; rfl
  have d7n : (r.N.length == 0) = true := by rw [h0]; rfl
  have d1 : (r.freq != 4) = true := by rw [bne_iff_ne]; exact h4
  have HW := Lib.hid hW0
  unfold rlV rlC sxC
  unfold rlC sxC at HW
  have y0 : W0.cell? ⟨w.heap.size, 0, none⟩ = some (.int .i64 r.start) := blk_cell HG1.out 0
  have y1 : W0.cell? ⟨w.heap.size, 1, none⟩ = some (.int .i64 r.freq) := blk_cell HG1.out 1
  have y7 : W0.cell? ⟨w.heap.size, 7, none⟩ = some (.slice r.AW r.N.length r.cw) := blk_cell HG1.out 7
  have sx5 : W0.cell? ⟨w.heap.size + 1, 5, none⟩ = some (.int .i64 x.k) := blk_cell HG2.out 5
  clear hr hin hN hx hs1 hs2 h0 h4 hW0
  go_enter Tryd.func80, Tryd.ntmps80
  go_upto_region 1 with fail
  rw [HW.out]
  clear HW
  go_upto_region 2 with fail
  refine wp_region_held_drew (S := fun X => Below W0.heap.size W0 X ∧ X.cell? ⟨w.heap.size, 1, none⟩ = some (.int .i64 r.freq)) (by kernel_rfl) ⟨(Below.refl _ _).drew, y1⟩ (fun hHeld => ?_)
  refine heldVal (v := ?v1) 0 rfl rfl (by kernel_rfl) (by kernel_rfl) (by kernel_rfl) (fun _ _ _ h => h) (by rfl) (fun w hSw => ?hy1) (by assumption) ?_
  case hy1 => ((try dsimp only at hSw); go_simp; (try with_reducible rfl))
  try simp only [Act.put, List.setIfInBounds_toArray, List.set_cons_zero, List.set_cons_succ]
  refine heldVal (v := ?v2) 1 rfl rfl (by kernel_rfl) (by kernel_rfl) (by kernel_rfl) (fun _ _ _ h => h) (by rfl) (fun w hSw => ?hy2) (by assumption) ?_
  case hy2 => ((try dsimp only at hSw); go_simp; (try with_reducible rfl))
  try simp only [Act.put, List.setIfInBounds_toArray, List.set_cons_zero, List.set_cons_succ]
  refine heldVal (v := ?v3) 2 rfl rfl (by kernel_rfl) (by kernel_rfl) (by kernel_rfl) (fun _ _ _ h => h) (by rfl) (fun w hSw => ?hy3) (by assumption) ?_
  case hy3 => ((try dsimp only at hSw); go_simp; (try with_reducible rfl))
  try simp only [Act.put, List.setIfInBounds_toArray, List.set_cons_zero, List.set_cons_succ]
  refine heldVal (v := ?v4) 3 rfl rfl (by kernel_rfl) (by kernel_rfl) (by kernel_rfl) (fun _ _ _ h => h) (by rfl) (fun w hSw => ?hy4) (by assumption) ?_
  case hy4 => ((try dsimp only at hSw); go_simp; (try with_reducible rfl))
  try simp only [Act.put, List.setIfInBounds_toArray, List.set_cons_zero, List.set_cons_succ]
  refine heldSkip 4 rfl rfl (by kernel_rfl) (by kernel_rfl) (by kernel_rfl) (fun _ _ _ h => h) (by rfl) (by assumption) ?_
  try simp only [Act.put, List.setIfInBounds_toArray, List.set_cons_zero, List.set_cons_succ]
  refine heldSkip 5 rfl rfl (by kernel_rfl) (by kernel_rfl) (by kernel_rfl) (fun _ _ _ h => h) (by rfl) (by assumption) ?_
  try simp only [Act.put, List.setIfInBounds_toArray, List.set_cons_zero, List.set_cons_succ]
  refine heldSkip 6 rfl rfl (by kernel_rfl) (by kernel_rfl) (by kernel_rfl) (fun _ _ _ h => h) (by rfl) (by assumption) ?_
  try simp only [Act.put, List.setIfInBounds_toArray, List.set_cons_zero, List.set_cons_succ]
  refine heldSkip 7 rfl rfl (by kernel_rfl) (by kernel_rfl) (by kernel_rfl) (fun _ _ _ h => h) (by rfl) (by assumption) ?_
  try simp only [Act.put, List.setIfInBounds_toArray, List.set_cons_zero, List.set_cons_succ]
  refine heldSkip 8 rfl rfl (by kernel_rfl) (by kernel_rfl) (by kernel_rfl) (fun _ _ _ h => h) (by rfl) (by assumption) ?_
  try simp only [Act.put, List.setIfInBounds_toArray, List.set_cons_zero, List.set_cons_succ]
  refine heldSkip 9 rfl rfl (by kernel_rfl) (by kernel_rfl) (by kernel_rfl) (fun _ _ _ h => h) (by rfl) (by assumption) ?_
  try simp only [Act.put, List.setIfInBounds_toArray, List.set_cons_zero, List.set_cons_succ]
  refine heldSkip 10 rfl rfl (by kernel_rfl) (by kernel_rfl) (by kernel_rfl) (fun _ _ _ h => h) (by rfl) (by assumption) ?_
  try simp only [Act.put, List.setIfInBounds_toArray, List.set_cons_zero, List.set_cons_succ]
  refine heldVal (v := ?v5) 11 rfl rfl (by kernel_rfl) (by kernel_rfl) (by kernel_rfl) (fun _ _ _ h => h) (by rfl) (fun w hSw => ?hy5) (by assumption) ?_
  case hy5 => ((try dsimp only at hSw); go_simp; (try with_reducible rfl))
  try simp only [Act.put, List.setIfInBounds_toArray, List.set_cons_zero, List.set_cons_succ]
  refine heldVal (v := ?v6) 12 rfl rfl (by kernel_rfl) (by kernel_rfl) (by kernel_rfl) (fun _ _ _ h => h) (by rfl) (fun w hSw => ?hy6) (by assumption) ?_
  case hy6 => ((try dsimp only at hSw); go_simp; (try with_reducible rfl))
  try simp only [Act.put, List.setIfInBounds_toArray, List.set_cons_zero, List.set_cons_succ]
  refine wpAnyH_done (by kernel_rfl) ?_ _
  go_wp2_with fail
  go_ret
  exact ⟨rfl, HB0.out.trans (hHeld.1.mono HB0.out.size)⟩
set_option maxHeartbeats 6400000 in
set_option maxRecDepth 20000 in
theorem week32_b (r : Rl) (x : Sx) (w : World) (hr : RlAt w r) (hin : RlIn r) (hN : r.N.length ≤ 100000) (hx : SxIn x) (hs1 : 0 ≤ r.start) (hs2 : r.start < 12622780800) (h0 : r.N.length = 0) (h4 : r.freq = 4) :
    Calls Tryd.prog 80 #[rlV r, .agg (sxC x)] w fun e w' => e = .returned (.bool (decide (x.k = wd (r.start / 86400)))) ∧ Below w.heap.size w w' := by
  have HG1 := Lib.hid (blk_more (blk_new w (.cells (rlC r) 25)) (.cells (sxC x) 45))
  have HG2 := Lib.hid (show ((w.alloc (.cells (rlC r) 25)).alloc (.cells (sxC x) 45)).heap[w.heap.size + 1]? = some (.cells (sxC x) 45 (0, 0)) from by
    have q := blk_new (w.alloc (.cells (rlC r) 25)) (.cells (sxC x) 45)
    rw [World.size_alloc] at q
    exact q)
  have HB0 := Lib.hid (show Below w.heap.size w ((w.alloc (.cells (rlC r) 25)).alloc (.cells (sxC x) 45)) from ((Below.refl _ _).alloc (Nat.le_refl _) _).alloc (by rw [World.size_alloc]; omega) _)
  obtain ⟨W0, hW0⟩ : ∃ W0, (w.alloc (.cells (rlC r) 25)).alloc (.cells (sxC x) 45) = W0 := ⟨_, rfl⟩
  rw [hW0] at HG1 HG2 HB0
  have HR := Lib.hid (hr.below HB0.out)
  have d7 : ((r.N.length : Int) == 0) = true := by rw [h0]; rfl
  have d7n : (r.N.length == 0) = true := by rw [h0]; rfl
  have d1 : (r.freq != 4) = false := by rw [h4]; rfl
  have KD := Lib.hid (fun W => rwday_any (r.start / 86400) W (by unfold I64; omega))
  have hq1 : r.start.tdiv 86400 = r.start / 86400 := Int.tdiv_eq_ediv_of_nonneg hs1
  have hq2 : IntKind.i64.wrap (r.start / 86400) = r.start / 86400 := IntWalk.i64_in _ ⟨by omega, by omega⟩
  generalize wd (r.start / 86400) = wv at KD ⊢
  obtain ⟨p, hp⟩ : ∃ p, decide (x.k = wv) = p := ⟨_, rfl⟩
  rw [hp]
  have hp1 : (x.k == wv) = p := by rw [← hp]; rfl
  have HW := Lib.hid hW0
  unfold rlV rlC sxC
  unfold rlC sxC at HW
  have y0 : W0.cell? ⟨w.heap.size, 0, none⟩ = some (.int .i64 r.start) := blk_cell HG1.out 0
  have y1 : W0.cell? ⟨w.heap.size, 1, none⟩ = some (.int .i64 r.freq) := blk_cell HG1.out 1
  have y7 : W0.cell? ⟨w.heap.size, 7, none⟩ = some (.slice r.AW r.N.length r.cw) := blk_cell HG1.out 7
  have sx5 : W0.cell? ⟨w.heap.size + 1, 5, none⟩ = some (.int .i64 x.k) := blk_cell HG2.out 5
  clear hr hin hN hx hs2 h0 h4 hW0 hp
  go_enter Tryd.func80, Tryd.ntmps80
  go_upto_region 1 with fail
  rw [HW.out]
  clear HW
  go_upto_region 2 with fail
  refine wp_region_held_drew (S := fun X => Below W0.heap.size W0 X ∧ X.cell? ⟨w.heap.size, 1, none⟩ = some (.int .i64 r.freq) ∧ X.cell? ⟨w.heap.size, 0, none⟩ = some (.int .i64 r.start) ∧ X.cell? ⟨w.heap.size + 1, 5, none⟩ = some (.int .i64 x.k)) (by kernel_rfl) ⟨(Below.refl _ _).drew, y1, y0, sx5⟩ (fun hHeld => ?_)
  refine heldVal (v := ?v7) 0 rfl rfl (by kernel_rfl) (by kernel_rfl) (by kernel_rfl) (fun _ _ _ h => h) (by rfl) (fun w hSw => ?hy7) (by assumption) ?_
  case hy7 => ((try dsimp only at hSw); go_simp; (try with_reducible rfl))
  try simp only [Act.put, List.setIfInBounds_toArray, List.set_cons_zero, List.set_cons_succ]
  refine heldVal (v := ?v8) 1 rfl rfl (by kernel_rfl) (by kernel_rfl) (by kernel_rfl) (fun _ _ _ h => h) (by rfl) (fun w hSw => ?hy8) (by assumption) ?_
  case hy8 => ((try dsimp only at hSw); go_simp; (try with_reducible rfl))
  try simp only [Act.put, List.setIfInBounds_toArray, List.set_cons_zero, List.set_cons_succ]
  refine heldVal (v := ?v9) 2 rfl rfl (by kernel_rfl) (by kernel_rfl) (by kernel_rfl) (fun _ _ _ h => h) (by rfl) (fun w hSw => ?hy9) (by assumption) ?_
  case hy9 => ((try dsimp only at hSw); go_simp; (try with_reducible rfl))
  try simp only [Act.put, List.setIfInBounds_toArray, List.set_cons_zero, List.set_cons_succ]
  refine heldVal (v := ?v10) 3 rfl rfl (by kernel_rfl) (by kernel_rfl) (by kernel_rfl) (fun _ _ _ h => h) (by rfl) (fun w hSw => ?hy10) (by assumption) ?_
  case hy10 => ((try dsimp only at hSw); go_simp; (try with_reducible rfl))
  try simp only [Act.put, List.setIfInBounds_toArray, List.set_cons_zero, List.set_cons_succ]
  refine heldVal (v := ?v11) 4 rfl rfl (by kernel_rfl) (by kernel_rfl) (by kernel_rfl) (fun _ _ _ h => h) (by rfl) (fun w hSw => ?hy11) (by assumption) ?_
  case hy11 => ((try dsimp only at hSw); go_simp; (try with_reducible rfl))
  try simp only [Act.put, List.setIfInBounds_toArray, List.set_cons_zero, List.set_cons_succ]
  refine heldVal (v := ?v12) 5 rfl rfl (by kernel_rfl) (by kernel_rfl) (by kernel_rfl) (fun _ _ _ h => h) (by rfl) (fun w hSw => ?hy12) (by assumption) ?_
  case hy12 => ((try dsimp only at hSw); go_simp; (try with_reducible rfl))
  try simp only [Act.put, List.setIfInBounds_toArray, List.set_cons_zero, List.set_cons_succ]
  refine heldVal (v := ?v13) 6 rfl rfl (by kernel_rfl) (by kernel_rfl) (by kernel_rfl) (fun _ _ _ h => h) (by rfl) (fun w hSw => ?hy13) (by assumption) ?_
  case hy13 => ((try dsimp only at hSw); go_simp; (try with_reducible rfl))
  try simp only [Act.put, List.setIfInBounds_toArray, List.set_cons_zero, List.set_cons_succ]
  refine heldVal (v := ?v14) 7 rfl rfl (by kernel_rfl) (by kernel_rfl) (by kernel_rfl) (fun _ _ _ h => h) (by rfl) (fun w hSw => ?hy14) (by assumption) ?_
  case hy14 => ((try dsimp only at hSw); go_simp; (try with_reducible rfl))
  try simp only [Act.put, List.setIfInBounds_toArray, List.set_cons_zero, List.set_cons_succ]
  refine heldVal (v := ?v15) 8 rfl rfl (by kernel_rfl) (by kernel_rfl) (by kernel_rfl) (fun _ _ _ h => h) (by rfl) (fun w hSw => ?hy15) (by assumption) ?_
  case hy15 => ((try dsimp only at hSw); go_simp; (try with_reducible rfl))
  try simp only [Act.put, List.setIfInBounds_toArray, List.set_cons_zero, List.set_cons_succ]
  refine heldCall 9 rfl rfl (by kernel_rfl) (by rfl) (fun K hK => ?_)
  go_simp
  go_at_call 77
  refine (KD.out _).mono ?_
  rintro e v1 ⟨rfl, rfl⟩
  go_wp2_with fail
  refine hK.out _ _ ?hS (fun hHeld => ?_)
  case hS => (exact hHeld)
  clear hK K
  try simp only [Act.put, List.setIfInBounds_toArray, List.set_cons_zero, List.set_cons_succ]
  refine heldVal (v := ?v16) 10 rfl rfl (by kernel_rfl) (by kernel_rfl) (by kernel_rfl) (fun _ _ _ h => h) (by rfl) (fun w hSw => ?hy16) (by assumption) ?_
  case hy16 => ((try dsimp only at hSw); go_simp; (try with_reducible rfl))
  try simp only [Act.put, List.setIfInBounds_toArray, List.set_cons_zero, List.set_cons_succ]
  refine heldVal (v := ?v17) 11 rfl rfl (by kernel_rfl) (by kernel_rfl) (by kernel_rfl) (fun _ _ _ h => h) (by rfl) (fun w hSw => ?hy17) (by assumption) ?_
  case hy17 => ((try dsimp only at hSw); go_simp; (try with_reducible rfl))
  try simp only [Act.put, List.setIfInBounds_toArray, List.set_cons_zero, List.set_cons_succ]
  refine heldVal (v := ?v18) 12 rfl rfl (by kernel_rfl) (by kernel_rfl) (by kernel_rfl) (fun _ _ _ h => h) (by rfl) (fun w hSw => ?hy18) (by assumption) ?_
  case hy18 => ((try dsimp only at hSw); go_simp; (try with_reducible rfl))
  try simp only [Act.put, List.setIfInBounds_toArray, List.set_cons_zero, List.set_cons_succ]
  refine wpAnyH_done (by kernel_rfl) ?_ _
  go_wp2_with fail
  go_ret
  exact ⟨rfl, HB0.out.trans (hHeld.1.mono HB0.out.size)⟩
set_option maxHeartbeats 6400000 in
set_option maxRecDepth 20000 in
theorem week32_c (r : Rl) (x : Sx) (w : World) (hr : RlAt w r) (hin : RlIn r) (hN : r.N.length ≤ 100000) (hx : SxIn x) (hs1 : 0 ≤ r.start) (hs2 : r.start < 12622780800) (h0 : r.N.length ≠ 0) :
    Calls Tryd.prog 80 #[rlV r, .agg (sxC x)] w fun e w' => e = .returned (.bool (r.N.any (atB r x))) ∧ Below w.heap.size w w' := by
  have HG1 := Lib.hid (blk_more (blk_new w (.cells (rlC r) 25)) (.cells (sxC x) 45))
  have HG2 := Lib.hid (show ((w.alloc (.cells (rlC r) 25)).alloc (.cells (sxC x) 45)).heap[w.heap.size + 1]? = some (.cells (sxC x) 45 (0, 0)) from by
    have q := blk_new (w.alloc (.cells (rlC r) 25)) (.cells (sxC x) 45)
    rw [World.size_alloc] at q
    exact q)
  have HB0 := Lib.hid (show Below w.heap.size w ((w.alloc (.cells (rlC r) 25)).alloc (.cells (sxC x) 45)) from ((Below.refl _ _).alloc (Nat.le_refl _) _).alloc (by rw [World.size_alloc]; omega) _)
  obtain ⟨W0, hW0⟩ : ∃ W0, (w.alloc (.cells (rlC r) 25)).alloc (.cells (sxC x) 45) = W0 := ⟨_, rfl⟩
  rw [hW0] at HG1 HG2 HB0
  have HR := Lib.hid (hr.below HB0.out)
  have d7 : ((r.N.length : Int) == 0) = false := by rw [beq_eq_false_iff_ne]; omega
  have d7n : (r.N.length == 0) = false := by rw [beq_eq_false_iff_ne]; omega
  have HN := Lib.hid HR.out.2
  have HNR := Lib.hid hN
  have HQI := Lib.hid hin.2.2.2.2.2.2.1
  have HDR := Lib.hid (fun k h => any_dropN (atB r x) r.N k h)
  have HEN := Lib.hid (any_endN (atB r x) r.N)
  have H0 := Lib.hid (show (r.N.drop 0).any (atB r x) = r.N.any (atB r x) from rfl)
  have HAT := Lib.hid (fun q => show atB r x q = (decide (q.2 = x.k) && decide (q.1 = atV r x q.1)) from rfl)
  obtain ⟨pf, hpf⟩ : ∃ b, decide (r.freq = 6) = b := ⟨_, rfl⟩
  obtain ⟨pz, hpz⟩ : ∃ b, decide ((r.Z 0).length = 0) = b := ⟨_, rfl⟩
  have HAV := Lib.hid (fun n => show atV r x n = if (pf && (pz && decide (n < 0))) = true then -x.oy else if (pf && (pz && decide (0 < n))) = true then x.iy else if decide (n < 0) = true then -x.om else if decide (0 < n) = true then x.im else 0 by rw [← hpf, ← hpz]; rfl)
  have a1 : (r.freq == 6) = pf := by rw [← hpf]; rfl
  have a2 : (((r.Z 0).length : Int) == 0) = pz := by rw [← hpz, Bool.eq_iff_iff]; simp
  have a2n : ((r.Z 0).length == 0) = pz := by rw [← hpz, Bool.eq_iff_iff]; simp
  obtain ⟨g1, g2, g3, g4, g5, g6, g7, g8, g9, g10, g11, g12, g13, g14, g15, g16⟩ := hx
  have n1 : IntKind.i64.wrap (-x.om) = -x.om := IntWalk.i64_in _ ⟨by omega, by omega⟩
  have n2 : IntKind.i64.wrap (-x.oy) = -x.oy := IntWalk.i64_in _ ⟨by omega, by omega⟩
  generalize r.N.any (atB r x) = res at H0 ⊢
  have HW := Lib.hid hW0
  unfold rlV rlC sxC
  unfold rlC sxC at HW
  have y1 : W0.cell? ⟨w.heap.size, 1, none⟩ = some (.int .i64 r.freq) := blk_cell HG1.out 1
  have y5 : W0.cell? ⟨w.heap.size, 5, none⟩ = some (.slice (r.A 0) (r.Z 0).length (r.c 0)) := blk_cell HG1.out 5
  have y7 : W0.cell? ⟨w.heap.size, 7, none⟩ = some (.slice r.AW r.N.length r.cw) := blk_cell HG1.out 7
  have sx5 : W0.cell? ⟨w.heap.size + 1, 5, none⟩ = some (.int .i64 x.k) := blk_cell HG2.out 5
  have sx6 : W0.cell? ⟨w.heap.size + 1, 6, none⟩ = some (.int .i64 x.im) := blk_cell HG2.out 6
  have sx7 : W0.cell? ⟨w.heap.size + 1, 7, none⟩ = some (.int .i64 x.om) := blk_cell HG2.out 7
  have sx8 : W0.cell? ⟨w.heap.size + 1, 8, none⟩ = some (.int .i64 x.iy) := blk_cell HG2.out 8
  have sx9 : W0.cell? ⟨w.heap.size + 1, 9, none⟩ = some (.int .i64 x.oy) := blk_cell HG2.out 9
  clear hr hin hN hs1 hs2 h0 hW0 hpf hpz g1 g2 g3 g4 g5 g6 g7 g8 g9 g10 g11 g12 g13 g14 g15 g16
  go_enter Tryd.func80, Tryd.ntmps80
  go_upto_region 1 with fail
  rw [HW.out]
  clear HW
  go_wp2_with fail
  clear d7 d7n
  go_loopw [5] (fun i wr => ∃ k : Nat, k ≤ r.N.length ∧ i = .int .i64 k ∧ Hid ((r.N.drop k).any (atB r x) = res) ∧ Quiet W0 wr) (fun i _ => r.N.length - (intOf i).toNat)
  case atStart => exact ⟨0, Nat.zero_le _, rfl, H0, Quiet.refl _⟩
  case round =>
    obtain ⟨k, hk, rfl, HA, hq⟩ := hrel
    have QQ := Lib.hid hq
    clear hq
    have y1 := qcellD QQ.out y1
    have y5 := qcellD QQ.out y5
    have y7 := qcellD QQ.out y7
    have sx5 := qcellD QQ.out sx5
    have sx6 := qcellD QQ.out sx6
    have sx7 := qcellD QQ.out sx7
    have sx8 := qcellD QQ.out sx8
    have sx9 := qcellD QQ.out sx9
    by_cases hlt : k < r.N.length
    · have hnr := HNR.out
      obtain ⟨b1, o1, hA1, _, c0, c1⟩ := HN.out k hlt
      have c0 := qcellD QQ.out c0
      have c1 := qcellD QQ.out c1
      rw [hA1] at y7 ⊢
      have d0 : decide (k < r.N.length) = true := dec_t hlt
      have i0 : (0 : Int) ≤ (k : Int) := by omega
      have i1 : (k : Int) < (r.N.length : Int) := by omega
      have hw1 : IntKind.i64.wrap ((k : Int) + 1) = (k : Int) + 1 := IntWalk.i64_in _ ⟨by omega, by omega⟩
      have HK := Lib.hid (And.intro hk hlt)
      have hst := HDR.out k hlt
      rw [HA.out, HAT.out, HAV.out] at hst
      generalize nthN r.N k = q at c0 c1 hst
      obtain ⟨s1, hs1⟩ : ∃ b, decide (0 < q.1) = b := ⟨_, rfl⟩
      obtain ⟨s2, hs2⟩ : ∃ b, decide (q.1 < 0) = b := ⟨_, rfl⟩
      rw [hs1, hs2] at hst
      obtain ⟨v1, hv1⟩ : ∃ v, (if s1 = true then x.im else 0) = v := ⟨_, rfl⟩
      obtain ⟨v2, hv2⟩ : ∃ v, (if s2 = true then -x.om else v1) = v := ⟨_, rfl⟩
      obtain ⟨v3, hv3⟩ : ∃ v, (if (pf && (pz && s1)) = true then x.iy else v2) = v := ⟨_, rfl⟩
      obtain ⟨v4, hv4⟩ : ∃ v, (if (pf && (pz && s2)) = true then -x.oy else v3) = v := ⟨_, rfl⟩
      rw [hv1, hv2, hv3, hv4] at hst
      have HV1 := Lib.hid hv1
      have HV2 := Lib.hid hv2
      have HV3 := Lib.hid hv3
      have HV4 := Lib.hid hv4
      obtain ⟨t1, ht1⟩ : ∃ b, decide (q.2 = x.k) = b := ⟨_, rfl⟩
      obtain ⟨t2, ht2⟩ : ∃ b, decide (q.1 = v4) = b := ⟨_, rfl⟩
      rw [ht1, ht2] at hst
      have e1 : (q.2 == x.k) = t1 := by rw [← ht1]; rfl
      have e2 : (q.1 == v4) = t2 := by rw [← ht2]; rfl
      have HST := Lib.hid hst
      clear hk hlt hA1 hnr hst hv1 hv2 hv3 hv4 ht1 ht2 HA
      go_upto_if 38 with fail
      go_cut [7] (fun s7 wx => s7 = .int .i64 v1 ∧ wr = wx)
      case first =>
        cases s1
        · go_wp2_with fail
          go_meet
          exact ⟨by rw [← HV1.out]; rfl, rfl⟩
        · go_wp2_with fail
          go_meet
          exact ⟨by rw [← HV1.out]; rfl, rfl⟩
      case rest =>
      obtain ⟨rfl, rfl⟩ := hcut
      go_upto_if 42 with fail
      go_cut [7] (fun s7 wx => s7 = .int .i64 v2 ∧ wr = wx)
      case first =>
        cases s2
        · go_wp2_with fail
          go_meet
          exact ⟨by rw [← HV2.out]; rfl, rfl⟩
        · go_wp2_with fail
          go_meet
          exact ⟨by rw [← HV2.out]; rfl, rfl⟩
      case rest =>
      obtain ⟨rfl, rfl⟩ := hcut
      go_upto_region 12 with fail
      go_cut [58] (fun s58 wx => s58 = .bool (pf && (pz && s1)) ∧ wr = wx)
      case first =>
        cases pf
        · go_wp2_with fail
          go_meet
          exact ⟨rfl, rfl⟩
        · cases pz
          · go_wp2_with fail
            go_meet
            exact ⟨rfl, rfl⟩
          · go_wp2_with fail
            go_meet
            exact ⟨rfl, rfl⟩
      case rest =>
      obtain ⟨rfl, rfl⟩ := hcut
      generalize (pf && (pz && s1)) = c3 at HV3 ⊢
      go_upto_if 58 with fail
      go_cut [7] (fun s7 wx => s7 = .int .i64 v3 ∧ wr = wx)
      case first =>
        cases c3
        · go_wp2_with fail
          go_meet
          exact ⟨by rw [← HV3.out]; rfl, rfl⟩
        · go_wp2_with fail
          go_meet
          exact ⟨by rw [← HV3.out]; rfl, rfl⟩
      case rest =>
      obtain ⟨rfl, rfl⟩ := hcut
      go_upto_region 14 with fail
      go_cut [73] (fun s73 wx => s73 = .bool (pf && (pz && s2)) ∧ wr = wx)
      case first =>
        cases pf
        · go_wp2_with fail
          go_meet
          exact ⟨rfl, rfl⟩
        · cases pz
          · go_wp2_with fail
            go_meet
            exact ⟨rfl, rfl⟩
          · go_wp2_with fail
            go_meet
            exact ⟨rfl, rfl⟩
      case rest =>
      obtain ⟨rfl, rfl⟩ := hcut
      generalize (pf && (pz && s2)) = c4 at HV4 ⊢
      go_upto_if 73 with fail
      go_cut [7] (fun s7 wx => s7 = .int .i64 v4 ∧ wr = wx)
      case first =>
        cases c4
        · go_wp2_with fail
          go_meet
          exact ⟨by rw [← HV4.out]; rfl, rfl⟩
        · go_wp2_with fail
          go_meet
          exact ⟨by rw [← HV4.out]; rfl, rfl⟩
      case rest =>
      obtain ⟨rfl, rfl⟩ := hcut
      clear HV1 HV2 HV3 HV4 hs1 hs2 a1 a2 a2n n1 n2
      go_upto_region 16 with fail
      cases t1
      case false =>
        have HX := Lib.hid (show (r.N.drop (k + 1)).any (atB r x) = res by rw [HST.out]; rfl)
        go_quiet (fail)
        go_wp2
        go_roundw
        case rel => exact ⟨k + 1, by have := HK.out; omega, by go_num, HX, QQ.out.trans (Quiet.of _ _)⟩
        case measure =>
          have := HK.out
          simp [intOf]; omega
      case true =>
      cases t2
      case false =>
        have HX := Lib.hid (show (r.N.drop (k + 1)).any (atB r x) = res by rw [HST.out]; rfl)
        go_quiet (fail)
        go_wp2
        go_roundw
        case rel => exact ⟨k + 1, by have := HK.out; omega, by go_num, HX, QQ.out.trans (Quiet.of _ _)⟩
        case measure =>
          have := HK.out
          simp [intOf]; omega
      case true =>
        have HX := Lib.hid (show res = true by rw [HST.out]; rfl)
        go_quiet (fail)
        go_wp2
        go_ret
        exact ⟨by rw [HX.out]; rfl, HB0.out.trans ((qbelowD (QQ.out.trans (Quiet.of _ _))).mono HB0.out.size)⟩
    · obtain rfl : k = r.N.length := by omega
      have d0 : decide (r.N.length < r.N.length) = false := dec_n (by omega)
      have HX := Lib.hid (show res = false by rw [← HA.out]; exact HEN.out)
      clear hk hlt HA
      go_wp2_with fail
      go_ret
      exact ⟨by rw [HX.out]; rfl, HB0.out.trans ((qbelowD QQ.out).mono HB0.out.size)⟩
theorem week32_any (r : Rl) (x : Sx) (w : World) (hr : RlAt w r) (hin : RlIn r) (hN : r.N.length ≤ 100000) (hx : SxIn x) (hs1 : 0 ≤ r.start) (hs2 : r.start < 12622780800) :
    Calls Tryd.prog 80 #[rlV r, .agg (sxC x)] w fun e w' => e = .returned (.bool (wkB r x)) ∧ Below w.heap.size w w' := by
  unfold wkB
  by_cases h0 : r.N.length = 0
  · rw [if_pos h0]
    by_cases h4 : r.freq = 4
    · rw [dec_n (show ¬ r.freq ≠ 4 from fun c => c h4), Bool.false_or]
      exact week32_b r x w hr hin hN hx hs1 hs2 h0 h4
    · rw [dec_t h4, Bool.true_or]
      exact week32_a r x w hr hin hN hx hs1 hs2 h0 h4
  · rw [if_neg h0]
    exact week32_c r x w hr hin hN hx hs1 hs2 h0
end Go.Proofs.YtigbbepgfofcoaaDoor
