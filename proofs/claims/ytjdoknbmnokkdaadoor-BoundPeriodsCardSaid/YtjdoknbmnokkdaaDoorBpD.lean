/- The example of layer 45's statements: lives answers true. -/
import Derived.Test.YtjdoknbmnokkdaaDoorBpC
import Derived.Great.BuildSlice
namespace Go.Proofs.YtjdoknbmnokkdaaDoor
open Go.RowKit Go.Deep
set_option linter.unusedVariables false

/-- a slice literal of whole rows -/
theorem wpList_buildRows {P : Program} {ops : Array Oper} {rest : List Oper} {o : Oper} {a : Act} {w : World} {Q : Exit → Act → World → Prop} (hg : o.guard = none) (t e : TypeId) (len : Nat) (parts : Array (Nat × Operand)) (ho : o.op = .buildSlice t len parts)
    (vs : List Value) (s : Nat) (hs : 0 < s) (hlen : len = vs.length) (hpv : (parts.map fun (i, x) => (i, a.eval x)).toList = (vs.zipIdx 0).map fun x => (x.2, x.1)) (h1 : ∀ v ∈ vs, v.cells.size = s)
    (hu : P.underlying t = some (.slice e)) (hsz : (P.info? e).map (·.size) = some s) (hz : ((P.info? e).bind (·.zero)).isSome = true) (hpos : 0 < len) (hsmall : len * s ≤ 2 ^ 24) (row : Array Value) (hrow : (vs.flatMap fun v => v.cells.toList).toArray = row)
    (h : wpList P ops Q rest (a.put o.dst (.slice (some ⟨w.heap.size, 0, none⟩) len len)) (w.alloc (.cells row e))) : wpList P ops Q (o :: rest) a w := by
  cases hie : P.info? e with
  | none => simp [hie] at hsz
  | some ie =>
    simp only [hie, Option.map_some, Option.some.injEq, Option.bind_some] at hsz hz
    obtain ⟨z, hzz⟩ := Option.isSome_iff_exists.1 hz
    have hne : ¬ len * ie.size = 0 := by rw [hsz]; exact Nat.ne_of_gt (Nat.mul_pos hpos hs)
    refine wpList_buildSlice hg t e len parts ho _ ie z hu hie hzz (by rw [hsz]; omega) hne ?_ h
    rw [hpv, hsz, ← hrow]
    exact Great.fill_whole hs vs _ h1 (by simp [hlen])
theorem cls_new (w : World) (t : TypeId) (cs : List Cl) : ClsAt (w.alloc (.cells ((cs.map clV).flatMap fun v => v.cells.toList).toArray t)) (some ⟨w.heap.size, 0, none⟩) cs := fun k hk => by
  refine ⟨w.heap.size, 0, rfl, by simp, fun i hi => ?_⟩
  rw [blk_cell (blk_new w _), List.getElem?_toArray, Great.flat_get (s := 30) (by decide) (cs.map clV) (fun v hv => by obtain ⟨c, _, rfl⟩ := List.mem_map.1 hv; rfl)]
  have e1 : (0 + k * 30 + i) / 30 = k := by omega
  have e2 : (0 + k * 30 + i) % 30 = i := by omega
  rw [e1, e2, List.getElem?_map]
  unfold nthC
  rw [List.getElem?_eq_getElem hk]
  rfl
theorem setSt (c : Cl) (k : Int) : (clC c).setIfInBounds 26 (.int .i64 k) = clC { c with st := k } := by simp [clC]
theorem setU (c : Cl) (k : Int) : (clC c).setIfInBounds 25 (.int .i64 k) = clC { c with u := k } := by simp [clC]
def sevC : Cl := { fullC with st := 7 }
def twoC : Cl := { fullC with u := 4, st := 2 }
theorem sev_in : ClIn sevC := by refine ⟨?_, ?_, ?_, ?_, ?_, ?_, ?_, fun i => ?_⟩ <;> simp [sevC, fullC, fullP]
theorem two_in : ClIn twoC := by refine ⟨?_, ?_, ?_, ?_, ?_, ?_, ?_, fun i => ?_⟩ <;> simp [twoC, fullC, fullP]
theorem sev_per : perO sevC = some 7 := by decide +kernel
theorem two_lcm : lcmO [sevC, twoC] 1 = some 14 := by decide +kernel
set_option maxHeartbeats 3200000 in
set_option maxRecDepth 20000 in
theorem lives45_any (w : World) (hT : TabUn w) : Calls Tryd.prog 35 #[] w fun e w' => e = .returned (.bool true) ∧ Below w.heap.size w w' := by
  have HT := Lib.hid hT
  have KF := Lib.hid (fun W => rfull_any W)
  have KP := Lib.hid (fun W h => cper_any sevC sev_in (show I64 7 by unfold I64; omega) W h)
  rw [sev_per] at KP
  have KL := Lib.hid (fun A d W hc h => clcm_any A d [sevC, twoC] W (by simp) hc (fun k hk => by match k, hk with | 0, _ => exact sev_in | 1, _ => exact two_in) (fun k hk => by match k, hk with | 0, _ => exact (show I64 7 by unfold I64; omega) | 1, _ => exact (show I64 2 by unfold I64; omega)) h)
  rw [two_lcm] at KL
  have E1 := Lib.hid (show (clC fullC).setIfInBounds 26 (.int .i64 7) = clC sevC from setSt fullC 7)
  have E2 := Lib.hid (show (clC fullC).setIfInBounds 25 (.int .i64 4) = clC { fullC with u := 4 } from setU fullC 4)
  have E3 := Lib.hid (show (clC { fullC with u := 4 }).setIfInBounds 26 (.int .i64 2) = clC twoC from setSt { fullC with u := 4 } 2)
  obtain ⟨half, hhalf⟩ : ∃ h : Cl, { fullC with u := 4 } = h := ⟨_, rfl⟩
  rw [hhalf] at E2 E3
  have HCN := Lib.hid (fun W => cls_new W 70 [sevC, twoC])
  unfold clV at KF KP
  unfold perV at KP KL
  have K := KF.out w
  generalize fullC = cf at *
  clear hT hhalf
  go_enter Tryd.func35, Tryd.ntmps35
  go_wp2_with fail
  refine K.mono ?_
  rintro e w1 ⟨rfl, hb1⟩
  have HB1 := Lib.hid hb1
  have K2 := KF.out w1
  clear hb1 K
  go_wp2_with fail
  refine K2.mono ?_
  rintro e w2 ⟨rfl, hb2⟩
  have HB2 := Lib.hid (HB1.out.trans (hb2.mono HB1.out.size))
  clear hb2 K2
  have HN1 := Lib.hid (blk_more (blk_new w2 (.cells clZ 70)) (.cells clZ 70))
  have HN2 := Lib.hid (show (((w2.alloc (.cells clZ 70)).alloc (.cells clZ 70)).setRow w2.heap.size (clC cf)).heap[w2.heap.size + 1]? = some (.cells clZ 70 (0, 0)) from (row_but _ _ _).blk (by have q := blk_new (w2.alloc (.cells clZ 70)) (.cells clZ 70); rwa [World.size_alloc] at q) (by omega))
  have HA0 := Lib.hid (show ClAt ((((w2.alloc (.cells clZ 70)).alloc (.cells clZ 70)).setRow w2.heap.size (clC cf)).setRow (w2.heap.size + 1) (clC cf)) w2.heap.size cf from (row_but _ _ _).blk (row_set HN1.out) (by omega))
  have HD0 := Lib.hid (show ClAt ((((w2.alloc (.cells clZ 70)).alloc (.cells clZ 70)).setRow w2.heap.size (clC cf)).setRow (w2.heap.size + 1) (clC cf)) (w2.heap.size + 1) cf from row_set HN2.out)
  have hle : w.heap.size ≤ w2.heap.size := HB2.out.size
  have HBW := Lib.hid (Below.but (Below.but ((HB2.out.alloc HB2.out.size (.cells clZ 70)).alloc (by rw [World.size_alloc]; omega) (.cells clZ 70)) (row_but _ w2.heap.size (clC cf)) (fun i hi hx => by omega)) (row_but _ (w2.heap.size + 1) (clC cf)) (fun i hi hx => by omega))
  obtain ⟨W0, hW0⟩ : ∃ W0, (((w2.alloc (.cells clZ 70)).alloc (.cells clZ 70)).setRow w2.heap.size (clC cf)).setRow (w2.heap.size + 1) (clC cf) = W0 := ⟨_, rfl⟩
  rw [hW0] at HA0 HD0 HBW
  have x26 : W0.cell? ⟨w2.heap.size, 26, none⟩ = some (.int .i64 cf.st) := blk_cell HA0.out 26
  have z26 := blk_free HA0.out 26
  have HA1 := Lib.hid (show ClAt (W0.setCell ⟨w2.heap.size, 26, none⟩ (.int .i64 7)) w2.heap.size sevC from by have q := blk_put HA0.out 26 (.int .i64 7); rw [E1.out] at q; exact q)
  have HD1 := Lib.hid (show ClAt (W0.setCell ⟨w2.heap.size, 26, none⟩ (.int .i64 7)) (w2.heap.size + 1) cf from blk_else HD0.out ⟨w2.heap.size, 26, none⟩ (by show w2.heap.size + 1 ≠ w2.heap.size; omega) _)
  obtain ⟨W1, hW1⟩ : ∃ W1, W0.setCell ⟨w2.heap.size, 26, none⟩ (.int .i64 7) = W1 := ⟨_, rfl⟩
  have HBW1 := Lib.hid (HBW.out.setCell (p := ⟨w2.heap.size, 26, none⟩) hle (.int .i64 7))
  rw [hW1] at HA1 HD1 HBW1
  have y25 : W1.cell? ⟨w2.heap.size + 1, 25, none⟩ = some (.int .i64 cf.u) := blk_cell HD1.out 25
  have v25 := blk_free HD1.out 25
  have HA2 := Lib.hid (show ClAt (W1.setCell ⟨w2.heap.size + 1, 25, none⟩ (.int .i64 4)) w2.heap.size sevC from blk_else HA1.out ⟨w2.heap.size + 1, 25, none⟩ (by show w2.heap.size ≠ w2.heap.size + 1; omega) _)
  have HD2 := Lib.hid (show ClAt (W1.setCell ⟨w2.heap.size + 1, 25, none⟩ (.int .i64 4)) (w2.heap.size + 1) half from by have q := blk_put HD1.out 25 (.int .i64 4); rw [E2.out] at q; exact q)
  have HBW2 := Lib.hid (HBW1.out.setCell (p := ⟨w2.heap.size + 1, 25, none⟩) (show w.heap.size ≤ w2.heap.size + 1 by omega) (.int .i64 4))
  obtain ⟨W2, hW2⟩ : ∃ W2, W1.setCell ⟨w2.heap.size + 1, 25, none⟩ (.int .i64 4) = W2 := ⟨_, rfl⟩
  rw [hW2] at HA2 HD2 HBW2
  have u26 : W2.cell? ⟨w2.heap.size + 1, 26, none⟩ = some (.int .i64 half.st) := blk_cell HD2.out 26
  have t26 := blk_free HD2.out 26
  have HA3 := Lib.hid (show ClAt (W2.setCell ⟨w2.heap.size + 1, 26, none⟩ (.int .i64 2)) w2.heap.size sevC from blk_else HA2.out ⟨w2.heap.size + 1, 26, none⟩ (by show w2.heap.size ≠ w2.heap.size + 1; omega) _)
  have HD3 := Lib.hid (show ClAt (W2.setCell ⟨w2.heap.size + 1, 26, none⟩ (.int .i64 2)) (w2.heap.size + 1) twoC from by have q := blk_put HD2.out 26 (.int .i64 2); rw [E3.out] at q; exact q)
  have HBW3 := Lib.hid (HBW2.out.setCell (p := ⟨w2.heap.size + 1, 26, none⟩) (show w.heap.size ≤ w2.heap.size + 1 by omega) (.int .i64 2))
  obtain ⟨W3, hW3⟩ : ∃ W3, W2.setCell ⟨w2.heap.size + 1, 26, none⟩ (.int .i64 2) = W3 := ⟨_, rfl⟩
  rw [hW3] at HA3 HD3 HBW3
  unfold clZ at hW0
  have K3 := KP.out W3 (HT.out.bel HBW3.out)
  generalize hsv : sevC = sv at *
  generalize htv : twoC = tv at *
  go_wp2_with (first | (refine wpList_storeRow HN1.out (clC cf) rfl _ _ _ rfl rfl rfl (by unfold clC; kernel_rfl) (by unfold clC; kernel_rfl) (by unfold clC; kernel_rfl) ?_) | (refine wpList_storeRow HN2.out (clC cf) rfl _ _ _ rfl rfl rfl (by unfold clC; kernel_rfl) (by unfold clC; kernel_rfl) (by unfold clC; kernel_rfl) ?_) | (refine wpList_loadRow HA3.out rfl _ _ rfl rfl _ Tryd.underlying70 rfl (by unfold clC; kernel_rfl) ?_))
  refine K3.mono ?_
  rintro e w3 ⟨rfl, hb3⟩
  have HA4 := Lib.hid (HA3.out.below hb3)
  have HD4 := Lib.hid (HD3.out.below hb3)
  have HB4 := Lib.hid (HBW3.out.trans (hb3.mono HBW3.out.size))
  clear hb3 K3 hW0 hW1 hW2 hW3 x26 z26 y25 v25 u26 t26 HN1 HN2 HA0 HD0 HA1 HD1 HA2 HD2 HA3 HD3 HBW HBW1 HBW2 HBW3
  obtain ⟨row, hrow⟩ : ∃ r, (([sv, tv].map clV).flatMap fun v => v.cells.toList).toArray = r := ⟨_, rfl⟩
  have HCL := Lib.hid (show ClsAt (w3.alloc (.cells row 70)) (some ⟨w3.heap.size, 0, none⟩) [sv, tv] from by rw [← hrow]; exact HCN.out w3)
  have HROW := Lib.hid hrow
  clear hrow
  have HB5 := Lib.hid (HB4.out.alloc HB4.out.size (.cells row 70))
  have K4 := KL.out _ 2 _ HCL.out (HT.out.bel HB5.out)
  go_wp2_with (first | (refine wpList_loadRow HA4.out rfl _ _ rfl rfl _ Tryd.underlying70 rfl (by unfold clC; kernel_rfl) ?_) | (refine wpList_loadRow HD4.out rfl _ _ rfl rfl _ Tryd.underlying70 rfl (by unfold clC; kernel_rfl) ?_) | (refine wpList_buildRows rfl _ 70 2 _ rfl ([sv, tv].map clV) 30 (by decide) rfl (by kernel_rfl) (by intro v hv; simp at hv; rcases hv with rfl | rfl <;> rfl) Tryd.underlying64 (by kernel_rfl) (by kernel_rfl) (by decide) (by decide) row HROW.out ?_))
  refine K4.mono ?_
  rintro e w6 ⟨rfl, hb6⟩
  have HB6 := Lib.hid (HB5.out.trans (hb6.mono HB5.out.size))
  clear hb6 K4
  go_wp2
  go_ret
  exact ⟨rfl, HB6.out⟩
end Go.Proofs.YtjdoknbmnokkdaaDoor
