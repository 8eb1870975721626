/- The rest of the functions that rule.Check asks (layer 32). -/
import Derived.Test.YtigbbepgfofcoaaDoorRlH
namespace Go.Proofs.YtigbbepgfofcoaaDoor
open Go.RowKit
set_option linter.unusedVariables false

theorem RlBlk.bel {w w' : World} {g : Nat} {r : Rl} (h : RlBlk w g r) (hb : Below w.heap.size w w') : RlBlk w' g r := (hb.block _ (lt_of_block h)).trans h
set_option maxHeartbeats 1600000 in
set_option maxRecDepth 20000 in
theorem ck10_any (r : Rl) (g : Nat) (w : World) (hg : RlBlk w g r) (hr : RlAt w r) (hin : RlIn r) : Calls Tryd.prog 34 #[.pointer (some ⟨g, 0, none⟩)] w fun e w' => e = .returned (.bool (outB (-31) 31 (r.Z 1) || (r.Z 1).any (fun z => decide (z = 0)))) ∧ Below w.heap.size w w' := by
  have x6 : w.cell? ⟨g, 6, none⟩ = some (.slice (r.A 1) (r.Z 1).length (r.c 1)) := blk_cell hg 6
  have K := beyond_any (-31) 31 (r.A 1) (r.c 1) (r.Z 1) w (hin.2.2.2.2.2.1 1 (by decide)).2 (hr.1 1 (by decide))
  have K2 := Lib.hid (fun W h => contains_any 0 (r.A 1) (r.c 1) (r.Z 1) W (hin.2.2.2.2.2.1 1 (by decide)).2 h)
  have HI := Lib.hid (hr.1 1 (by decide))
  have HG := Lib.hid hg
  generalize outB (-31) 31 (r.Z 1) = p at K ⊢
  generalize (r.Z 1).any (fun z => decide (z = 0)) = q at K2 ⊢
  clear hg hr hin
  go_enter Tryd.func34, Tryd.ntmps34
  go_wp2_with fail
  refine K.mono ?_
  rintro e w1 ⟨rfl, hb⟩
  have HB := Lib.hid hb
  have K3 := K2.out w1 (HI.out.below hb)
  have y6 : w1.cell? ⟨g, 6, none⟩ = some (.slice (r.A 1) (r.Z 1).length (r.c 1)) := blk_cell (RlBlk.bel HG.out hb) 6
  clear hb K x6
  cases p
  · go_wp2_with fail
    refine K3.mono ?_
    rintro e w2 ⟨rfl, rfl⟩
    go_wp2
    go_ret
    exact ⟨rfl, HB.out⟩
  · go_wp2_with fail
    go_ret
    exact ⟨rfl, HB.out⟩
set_option maxHeartbeats 1600000 in
set_option maxRecDepth 20000 in
theorem ck11_any (r : Rl) (g : Nat) (w : World) (hg : RlBlk w g r) (hr : RlAt w r) (hin : RlIn r) : Calls Tryd.prog 36 #[.pointer (some ⟨g, 0, none⟩)] w fun e w' => e = .returned (.bool (decide (0 < (r.Z 1).length) && decide (r.freq = 4) || mixB (r.Z 1))) ∧ Below w.heap.size w w' := by
  have x1 : w.cell? ⟨g, 1, none⟩ = some (.int .i64 r.freq) := blk_cell hg 1
  have x6 : w.cell? ⟨g, 6, none⟩ = some (.slice (r.A 1) (r.Z 1).length (r.c 1)) := blk_cell hg 6
  have K := mixed_any (r.A 1) (r.c 1) (r.Z 1) w (hin.2.2.2.2.2.1 1 (by decide)).2 (hr.1 1 (by decide))
  generalize mixB (r.Z 1) = b at K ⊢
  obtain ⟨p, hp⟩ : ∃ p, decide (0 < (r.Z 1).length) = p := ⟨_, rfl⟩
  have hp2 : decide ((0 : Int) < ((r.Z 1).length : Int)) = p := by rw [← hp]; exact decide_eq_decide.2 (by omega)
  obtain ⟨q, hq⟩ : ∃ q, decide (r.freq = 4) = q := ⟨_, rfl⟩
  have hq2 : (r.freq == 4) = q := by rw [← hq]; rfl
  rw [hp, hq]
  clear hg hr hin
  cases p <;> cases q
  case true.true =>
    go_enter Tryd.func36, Tryd.ntmps36
    go_wp2_with fail
    go_ret
    exact ⟨rfl, Below.refl _ _⟩
  all_goals
    go_enter Tryd.func36, Tryd.ntmps36
    go_wp2_with fail
    refine K.mono ?_
    rintro e w1 ⟨rfl, rfl⟩
    go_wp2
    go_ret
    exact ⟨rfl, Below.refl _ _⟩
set_option maxHeartbeats 1600000 in
set_option maxRecDepth 20000 in
theorem ck14_any (r : Rl) (g : Nat) (w : World) (hg : RlBlk w g r) (hr : RlAt w r) (hin : RlIn r) (hN : r.N.length ≤ 100000) : Calls Tryd.prog 42 #[.pointer (some ⟨g, 0, none⟩)] w fun e w' => e = .returned (.bool (!plnB r.N && (decide (r.freq < 5) || unlB (nsL r.N)))) ∧ Below w.heap.size w w' := by
  have x0 : w.cell? ⟨g, 0, none⟩ = some (.int .i64 r.start) := blk_cell hg 0
  have x1 : w.cell? ⟨g, 1, none⟩ = some (.int .i64 r.freq) := blk_cell hg 1
  have x2 : w.cell? ⟨g, 2, none⟩ = some (.int .i64 r.itv) := blk_cell hg 2
  have x3 : w.cell? ⟨g, 3, none⟩ = some (.int .i64 r.cnt) := blk_cell hg 3
  have x4 : w.cell? ⟨g, 4, none⟩ = some (.int .i64 r.unt) := blk_cell hg 4
  have x5 : w.cell? ⟨g, 5, none⟩ = some (.slice (r.A 0) (r.Z 0).length (r.c 0)) := blk_cell hg 5
  have x6 : w.cell? ⟨g, 6, none⟩ = some (.slice (r.A 1) (r.Z 1).length (r.c 1)) := blk_cell hg 6
  have x7 : w.cell? ⟨g, 7, none⟩ = some (.slice r.AW r.N.length r.cw) := blk_cell hg 7
  have x8 : w.cell? ⟨g, 8, none⟩ = some (.slice (r.A 2) (r.Z 2).length (r.c 2)) := blk_cell hg 8
  have x9 : w.cell? ⟨g, 9, none⟩ = some (.slice (r.A 3) (r.Z 3).length (r.c 3)) := blk_cell hg 9
  have x10 : w.cell? ⟨g, 10, none⟩ = some (.slice (r.A 4) (r.Z 4).length (r.c 4)) := blk_cell hg 10
  have K := plain_any r w hr hin
  have KP := Lib.hid (fun W h => places_any r W h hN)
  have KU := Lib.hid (fun B d W h => unlike_any B d (nsL r.N) W (by rw [nsL_len]; omega) h)
  have HR := Lib.hid hr
  have HG := Lib.hid hg
  generalize plnB r.N = p at K ⊢
  generalize nsL r.N = ns at KP KU ⊢
  generalize unlB ns = u at KU ⊢
  obtain ⟨f, hf⟩ : ∃ p, decide (r.freq < 5) = p := ⟨_, rfl⟩
  rw [hf]
  unfold rlV rlC at K KP
  clear hg hr hin hN
  go_enter Tryd.func42, Tryd.ntmps42
  go_wp2_with fail
  refine K.mono ?_
  rintro e w1 ⟨rfl, hb⟩
  have HB := Lib.hid hb
  have y0 : w1.cell? ⟨g, 0, none⟩ = some (.int .i64 r.start) := blk_cell (RlBlk.bel HG.out hb) 0
  have y1 : w1.cell? ⟨g, 1, none⟩ = some (.int .i64 r.freq) := blk_cell (RlBlk.bel HG.out hb) 1
  have y2 : w1.cell? ⟨g, 2, none⟩ = some (.int .i64 r.itv) := blk_cell (RlBlk.bel HG.out hb) 2
  have y3 : w1.cell? ⟨g, 3, none⟩ = some (.int .i64 r.cnt) := blk_cell (RlBlk.bel HG.out hb) 3
  have y4 : w1.cell? ⟨g, 4, none⟩ = some (.int .i64 r.unt) := blk_cell (RlBlk.bel HG.out hb) 4
  have y5 : w1.cell? ⟨g, 5, none⟩ = some (.slice (r.A 0) (r.Z 0).length (r.c 0)) := blk_cell (RlBlk.bel HG.out hb) 5
  have y6 : w1.cell? ⟨g, 6, none⟩ = some (.slice (r.A 1) (r.Z 1).length (r.c 1)) := blk_cell (RlBlk.bel HG.out hb) 6
  have y7 : w1.cell? ⟨g, 7, none⟩ = some (.slice r.AW r.N.length r.cw) := blk_cell (RlBlk.bel HG.out hb) 7
  have y8 : w1.cell? ⟨g, 8, none⟩ = some (.slice (r.A 2) (r.Z 2).length (r.c 2)) := blk_cell (RlBlk.bel HG.out hb) 8
  have y9 : w1.cell? ⟨g, 9, none⟩ = some (.slice (r.A 3) (r.Z 3).length (r.c 3)) := blk_cell (RlBlk.bel HG.out hb) 9
  have y10 : w1.cell? ⟨g, 10, none⟩ = some (.slice (r.A 4) (r.Z 4).length (r.c 4)) := blk_cell (RlBlk.bel HG.out hb) 10
  have K2 := KP.out w1 (HR.out.below hb)
  clear hb K x0 x1 x2 x3 x4 x5 x6 x7 x8 x9 x10
  cases p
  · cases f
    · go_wp2_with fail
      refine K2.mono ?_
      rintro e w2 ⟨B, d, rfl, hi, hb2⟩
      have HB2 := Lib.hid (HB.out.trans (hb2.mono HB.out.size))
      have K3 := KU.out B d w2 hi
      clear hb2 K2 hi
      go_wp2_with fail
      refine K3.mono ?_
      rintro e w3 ⟨rfl, rfl⟩
      go_wp2
      go_ret
      exact ⟨rfl, HB2.out⟩
    · go_wp2_with fail
      go_ret
      exact ⟨rfl, HB.out⟩
  · go_wp2_with fail
    go_ret
    exact ⟨rfl, HB.out⟩
set_option maxHeartbeats 1600000 in
set_option maxRecDepth 20000 in
theorem ck15_any (r : Rl) (g : Nat) (w : World) (hg : RlBlk w g r) (hr : RlAt w r) (hin : RlIn r) (hN : r.N.length ≤ 100000) : Calls Tryd.prog 45 #[.pointer (some ⟨g, 0, none⟩)] w fun e w' => e = .returned (.bool (wimB r && outB (-5) 5 (nsL r.N))) ∧ Below w.heap.size w w' := by
  have x0 : w.cell? ⟨g, 0, none⟩ = some (.int .i64 r.start) := blk_cell hg 0
  have x1 : w.cell? ⟨g, 1, none⟩ = some (.int .i64 r.freq) := blk_cell hg 1
  have x2 : w.cell? ⟨g, 2, none⟩ = some (.int .i64 r.itv) := blk_cell hg 2
  have x3 : w.cell? ⟨g, 3, none⟩ = some (.int .i64 r.cnt) := blk_cell hg 3
  have x4 : w.cell? ⟨g, 4, none⟩ = some (.int .i64 r.unt) := blk_cell hg 4
  have x5 : w.cell? ⟨g, 5, none⟩ = some (.slice (r.A 0) (r.Z 0).length (r.c 0)) := blk_cell hg 5
  have x6 : w.cell? ⟨g, 6, none⟩ = some (.slice (r.A 1) (r.Z 1).length (r.c 1)) := blk_cell hg 6
  have x7 : w.cell? ⟨g, 7, none⟩ = some (.slice r.AW r.N.length r.cw) := blk_cell hg 7
  have x8 : w.cell? ⟨g, 8, none⟩ = some (.slice (r.A 2) (r.Z 2).length (r.c 2)) := blk_cell hg 8
  have x9 : w.cell? ⟨g, 9, none⟩ = some (.slice (r.A 3) (r.Z 3).length (r.c 3)) := blk_cell hg 9
  have x10 : w.cell? ⟨g, 10, none⟩ = some (.slice (r.A 4) (r.Z 4).length (r.c 4)) := blk_cell hg 10
  have K := withinR_any r w
  have KP := Lib.hid (fun W h => places_any r W h hN)
  have KB := Lib.hid (fun B d W h => beyond_any (-5) 5 B d (nsL r.N) W (by rw [nsL_len]; omega) h)
  have HR := Lib.hid hr
  have HG := Lib.hid hg
  generalize wimB r = p at K ⊢
  generalize nsL r.N = ns at KP KB ⊢
  generalize outB (-5) 5 ns = u at KB ⊢
  unfold rlV rlC at K KP
  clear hg hr hin hN
  go_enter Tryd.func45, Tryd.ntmps45
  go_wp2_with fail
  refine K.mono ?_
  rintro e w1 ⟨rfl, hb⟩
  have HB := Lib.hid hb
  have y0 : w1.cell? ⟨g, 0, none⟩ = some (.int .i64 r.start) := blk_cell (RlBlk.bel HG.out hb) 0
  have y1 : w1.cell? ⟨g, 1, none⟩ = some (.int .i64 r.freq) := blk_cell (RlBlk.bel HG.out hb) 1
  have y2 : w1.cell? ⟨g, 2, none⟩ = some (.int .i64 r.itv) := blk_cell (RlBlk.bel HG.out hb) 2
  have y3 : w1.cell? ⟨g, 3, none⟩ = some (.int .i64 r.cnt) := blk_cell (RlBlk.bel HG.out hb) 3
  have y4 : w1.cell? ⟨g, 4, none⟩ = some (.int .i64 r.unt) := blk_cell (RlBlk.bel HG.out hb) 4
  have y5 : w1.cell? ⟨g, 5, none⟩ = some (.slice (r.A 0) (r.Z 0).length (r.c 0)) := blk_cell (RlBlk.bel HG.out hb) 5
  have y6 : w1.cell? ⟨g, 6, none⟩ = some (.slice (r.A 1) (r.Z 1).length (r.c 1)) := blk_cell (RlBlk.bel HG.out hb) 6
  have y7 : w1.cell? ⟨g, 7, none⟩ = some (.slice r.AW r.N.length r.cw) := blk_cell (RlBlk.bel HG.out hb) 7
  have y8 : w1.cell? ⟨g, 8, none⟩ = some (.slice (r.A 2) (r.Z 2).length (r.c 2)) := blk_cell (RlBlk.bel HG.out hb) 8
  have y9 : w1.cell? ⟨g, 9, none⟩ = some (.slice (r.A 3) (r.Z 3).length (r.c 3)) := blk_cell (RlBlk.bel HG.out hb) 9
  have y10 : w1.cell? ⟨g, 10, none⟩ = some (.slice (r.A 4) (r.Z 4).length (r.c 4)) := blk_cell (RlBlk.bel HG.out hb) 10
  have K2 := KP.out w1 (HR.out.below hb)
  clear hb K x0 x1 x2 x3 x4 x5 x6 x7 x8 x9 x10
  cases p
  · go_wp2_with fail
    go_ret
    exact ⟨rfl, HB.out⟩
  · go_wp2_with fail
    refine K2.mono ?_
    rintro e w2 ⟨B, d, rfl, hi, hb2⟩
    have HB2 := Lib.hid (HB.out.trans (hb2.mono HB.out.size))
    have K3 := KB.out B d w2 hi
    clear hb2 K2 hi
    go_wp2_with fail
    refine K3.mono ?_
    rintro e w3 ⟨rfl, hb3⟩
    have HB3 := Lib.hid (HB2.out.trans (hb3.mono HB2.out.size))
    clear hb3
    go_wp2
    go_ret
    exact ⟨rfl, HB3.out⟩
end Go.Proofs.YtigbbepgfofcoaaDoor
