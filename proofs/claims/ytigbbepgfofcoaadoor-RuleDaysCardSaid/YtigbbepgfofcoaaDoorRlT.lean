/- Which weekdays a rule has, of a month or a year: rule.ordOf (layer 32). -/
import Derived.Test.YtigbbepgfofcoaaDoorRlK
import Derived.Test.YtigbbepgfofcoaaDoorMaskA
import Derived.Test.YtigbbepgfofcoaaDoorWdD
import Derived.Deep.DeepCutAuto
import Derived.Deep.RegionWith
namespace Go.Proofs.YtigbbepgfofcoaaDoor
open Go.RowKit
set_option linter.unusedVariables false

def updF (ds : Nat → Nat) (j v : Nat) : Nat → Nat := fun i => if i = j then v else ds i
def rdC (i : Int) (b : Bool) (ds : Nat → Nat) : Array Value := #[.int .i64 i, .bool b, .int .u64 (ds 0 : Nat), .int .u64 (ds 1 : Nat), .int .u64 (ds 2 : Nat), .int .u64 (ds 3 : Nat), .int .u64 (ds 4 : Nat), .int .u64 (ds 5 : Nat), .int .u64 (ds 6 : Nat), .int .u64 (ds 7 : Nat)]
theorem rdC_set (i : Int) (b : Bool) (ds : Nat → Nat) (d v : Nat) (h : d < 8) : (rdC i b ds).setIfInBounds (2 + d) (.int .u64 (v : Nat)) = rdC i b (updF ds d v) := by
  obtain rfl | rfl | rfl | rfl | rfl | rfl | rfl | rfl : d = 0 ∨ d = 1 ∨ d = 2 ∨ d = 3 ∨ d = 4 ∨ d = 5 ∨ d = 6 ∨ d = 7 := by omega
  all_goals rfl
theorem rdC_get (i : Int) (b : Bool) (ds : Nat → Nat) (d : Nat) (h : d < 8) : (rdC i b ds)[2 + d]? = some (.int .u64 (ds d : Nat)) := by
  obtain rfl | rfl | rfl | rfl | rfl | rfl | rfl | rfl : d = 0 ∨ d = 1 ∨ d = 2 ∨ d = 3 ∨ d = 4 ∨ d = 5 ∨ d = 6 ∨ d = 7 := by omega
  all_goals rfl
theorem rdC_back (i : Int) (b c : Bool) (ds : Nat → Nat) : (rdC i b ds).setIfInBounds 1 (.bool c) = rdC i c ds := rfl
/-- the sign and the weekdays that stand in Ord behind weekdays -/
def rdS : List N2 → Bool × (Nat → Nat) → Bool × (Nat → Nat)
  | [], s => s
  | x :: l, s => rdS l (decide (x.1 < 0), updF s.2 x.2.toNat (s.2 x.2.toNat ||| mk (inL [max x.1 (-x.1)])))
theorem rdS_drop (l : List N2) (k : Nat) (h : k < l.length) (s : Bool × (Nat → Nat)) : rdS (l.drop k) s = rdS (l.drop (k + 1)) (decide ((nthN l k).1 < 0), updF s.2 (nthN l k).2.toNat (s.2 (nthN l k).2.toNat ||| mk (inL [max (nthN l k).1 (-(nthN l k).1)]))) := by
  rw [List.drop_eq_getElem_cons h]
  have q : nthN l k = l[k] := by unfold nthN; rw [List.getElem?_eq_getElem h]; rfl
  rw [q]
  rfl
def rdI (r : Rl) : Int := if (decide (r.freq = 6) && decide ((r.Z 0).length = 0)) = true then 2 else 1
def rdV (r : Rl) : Array Value := rdC (rdI r) (rdS r.N (false, fun _ => 0)).1 (rdS r.N (false, fun _ => 0)).2
theorem ints1_of {W : World} {g : Nat} {x : Int} {t : TypeId} {z : Nat × Nat} (h : W.heap[g]? = some (.cells #[.int .i64 x] t z)) : Ints .i64 W (some ⟨g, 0, none⟩) [x] := fun j hj => by
  match j, hj with
  | 0, _ => exact ⟨g, 0, rfl, lt_of_block h, blk_cell h 0⟩
theorem results1c {fn : Func} {p : Tmp} {tmps : Array Value} {w : World} {g : Nat} {cs : Array Value} (h : fn.results = #[.cell p 41]) (hp : tmps.getD p undef = .pointer (some ⟨g, 0, none⟩)) (hg : w.heap[g]? = some (.cells cs 41 (0, 0))) (hc : (Tryd.prog.info? 41).map (·.size) = some cs.size := by kernel_rfl) : (results fn tmps).run Tryd.prog w = .ok (.agg cs) w := by
  have hp' : tmps[p]?.getD undef = .pointer (some ⟨g, 0, none⟩) := by simpa using hp
  simp [results, h, hp', asAddr, run_loadVar_row w g _ _ cs (0, 0) _ hg Tryd.underlying41 rfl hc]
set_option maxHeartbeats 3200000 in
set_option maxRecDepth 20000 in
theorem ordOf_any (r : Rl) (w : World) (hr : RlAt w r) (hl : r.N.length ≤ 100000) (hd : ∀ k, k < r.N.length → 0 ≤ (nthN r.N k).2 ∧ (nthN r.N k).2 < 8 ∧ -100 ≤ (nthN r.N k).1 ∧ (nthN r.N k).1 ≤ 100) :
    Calls Tryd.prog 71 #[rlV r] w fun e w' => e = .returned (.agg (rdV r)) ∧ Below w.heap.size w w' := by
  have HG0 := Lib.hid (blk_more (blk_new w (.cells (rlC r) 25)) (.cells (rdC 0 false (fun _ => 0)) 41))
  have HZ0 := Lib.hid (blk_new (w.alloc (.cells (rlC r) 25)) (.cells (rdC 0 false (fun _ => 0)) 41))
  have HB0 := Lib.hid (show Below w.heap.size w ((w.alloc (.cells (rlC r) 25)).alloc (.cells (rdC 0 false (fun _ => 0)) 41)) from ((Below.refl _ _).alloc (Nat.le_refl _) _).alloc (by rw [World.size_alloc]; omega) _)
  obtain ⟨W0, hW0⟩ : ∃ W0, (w.alloc (.cells (rlC r) 25)).alloc (.cells (rdC 0 false (fun _ => 0)) 41) = W0 := ⟨_, rfl⟩
  rw [hW0] at HG0 HB0 HZ0
  have hz1 : (w.alloc (.cells (rlC r) 25)).heap.size = w.heap.size + 1 := World.size_alloc _ _
  rw [hz1] at HZ0
  clear hz1
  obtain ⟨I, hI⟩ : ∃ I, rdI r = I := ⟨_, rfl⟩
  unfold rdV
  rw [hI]
  obtain ⟨p, hp⟩ : ∃ p, decide (r.freq = 6) = p := ⟨_, rfl⟩
  obtain ⟨q, hq⟩ : ∃ q, decide ((r.Z 0).length = 0) = q := ⟨_, rfl⟩
  have HI := Lib.hid (show I = if (p && q) = true then 2 else 1 by rw [← hI, ← hp, ← hq]; rfl)
  have hp1 : (r.freq == 6) = p := by rw [← hp]; rfl
  have hq1 : (((r.Z 0).length : Int) == 0) = q := by rw [← hq, Bool.eq_iff_iff]; simp
  have hq2 : ((r.Z 0).length == 0) = q := by rw [← hq, Bool.eq_iff_iff]; simp
  have HL := Lib.hid hl
  have HD := Lib.hid hd
  have HRES := Lib.hid (show rdS (r.N.drop 0) (false, fun _ => 0) = rdS r.N (false, fun _ => 0) from rfl)
  have HST := Lib.hid (fun k h s => rdS_drop r.N k h s)
  have HN := Lib.hid hr.2
  generalize rdS r.N (false, fun _ => 0) = res at HRES ⊢
  have x1 : W0.cell? ⟨w.heap.size, 1, none⟩ = some (.int .i64 r.freq) := blk_cell HG0.out 1
  have x5 : W0.cell? ⟨w.heap.size, 5, none⟩ = some (.slice (r.A 0) (r.Z 0).length (r.c 0)) := blk_cell HG0.out 5
  have x7 : W0.cell? ⟨w.heap.size, 7, none⟩ = some (.slice r.AW r.N.length r.cw) := blk_cell HG0.out 7
  have HX := Lib.hid (show (W0.alloc (.cells (rdC 1 false (fun _ => 0)) 41)).cell? ⟨w.heap.size, 1, none⟩ = some (.int .i64 r.freq) ∧ (W0.alloc (.cells (rdC 1 false (fun _ => 0)) 41)).cell? ⟨w.heap.size, 5, none⟩ = some (.slice (r.A 0) (r.Z 0).length (r.c 0)) from ⟨blk_cell (blk_more HG0.out _) 1, blk_cell (blk_more HG0.out _) 5⟩)
  have HW := Lib.hid hW0
  unfold rlV rlC
  unfold rlC rdC at HW
  clear hr hl hd hI hp hq hW0
  generalize r.N = l at *
  generalize r.AW = A at *
  go_enter Tryd.func71, Tryd.ntmps71
  go_upto_region 2 with fail
  go_cut [15] (fun s15 wx => s15 = .bool (p && q) ∧ W0.alloc (.cells (rdC 1 false (fun _ => 0)) 41) = wx)
  case first =>
    cases p
    · go_wp2_with fail
      go_meet
      exact ⟨rfl, by rw [← HW.out]; rfl⟩
    · go_wp2_with fail
      go_meet
      exact ⟨rfl, by rw [← HW.out]; rfl⟩
  case rest =>
  obtain ⟨rfl, rfl⟩ := hcut
  go_upto_if 15 with fail
  go_cut [] (fun wx => W0.alloc (.cells (rdC I false (fun _ => 0)) 41) = wx)
  case first =>
    generalize (p && q) = c at *
    rw [← HW.out]
    unfold rdC
    cases c
    · go_wp2_with fail
      go_meet
      rw [HI.out, ← HW.out]
      rfl
    · go_wp2_with fail
      go_meet
      rw [HI.out, ← HW.out]
      rfl
  case rest =>
  subst hcut
  have hzs : W0.heap.size = w.heap.size + 1 + 1 := by rw [← HW.out, World.size_alloc, World.size_alloc]
  have HGo := Lib.hid (show (W0.alloc (.cells (rdC I false (fun _ => 0)) 41)).heap[w.heap.size + 1 + 1]? = some (.cells (rdC I false (fun _ => 0)) 41 (0, 0)) from by have q := blk_new W0 (.cells (rdC I false (fun _ => 0)) 41); rw [hzs] at q; exact q)
  have HZ1 := Lib.hid (blk_more HZ0.out (.cells (rdC I false (fun _ => 0)) 41))
  have HB1 := Lib.hid (HB0.out.alloc HB0.out.size (.cells (rdC I false (fun _ => 0)) 41))
  have HSZ := Lib.hid (show (W0.alloc (.cells (rdC I false (fun _ => 0)) 41)).heap.size = w.heap.size + 1 + 1 + 1 by rw [World.size_alloc, hzs])
  have y7 : (W0.alloc (.cells (rdC I false (fun _ => 0)) 41)).cell? ⟨w.heap.size, 7, none⟩ = some (.slice A l.length r.cw) := (((Below.refl W0.heap.size W0).alloc (Nat.le_refl _) (.cells (rdC I false (fun _ => 0)) 41)).cell (p := ⟨w.heap.size, 7, none⟩) (lt_of_block HG0.out)).trans x7
  generalize W0.alloc (.cells (rdC I false (fun _ => 0)) 41) = W1 at *
  have HG3 := Lib.hid (show w.heap.size + 1 < w.heap.size + 1 + 1 by omega)
  clear HX HW HB0 HZ0 HG0 x1 x5 x7 hp1 hq1 hq2 HI hzs
  generalize w.heap.size + 1 + 1 = g3 at *
  go_wp2_with fail
  clear y7
  go_loopw [20] (fun i wr => ∃ (k : Nat) (b : Bool) (ds : Nat → Nat), k ≤ l.length ∧ i = .int .i64 k ∧ But (fun j => j = g3) W1 wr ∧ wr.heap[g3]? = some (.cells (rdC I b ds) 41 (0, 0)) ∧ Hid (rdS (l.drop k) (b, ds) = res) ∧ (∀ j, j < 8 → ds j < 18446744073709551616)) (fun i _ => l.length - (intOf i).toNat)
  case atStart => exact ⟨0, false, fun _ => 0, Nat.zero_le _, rfl, But.refl _ _, HGo.out, HRES, fun _ _ => (by decide : 0 < 18446744073709551616)⟩
  case round =>
    obtain ⟨k, b, ds, hk, rfl, hbut, hgo, HA, hds⟩ := hrel
    have HDS := Lib.hid hds
    by_cases hlt : k < l.length
    · have HBr := Lib.hid (Below.but HB1.out hbut (fun i hi hx => by have := HG3.out; omega))
      obtain ⟨bk, off, rfl, hbl, x0, x1⟩ := (HN.out.below HBr.out) k hlt
      have d0 : decide (k < l.length) = true := dec_t hlt
      have ik0 : (0 : Int) ≤ (k : Int) := by omega
      have ik1 : (k : Int) < (l.length : Int) := by omega
      have hl := HL.out
      have hw1 : IntKind.i64.wrap ((k : Int) + 1) = (k : Int) + 1 := IntWalk.i64_in _ ⟨by omega, by omega⟩
      have hst := HST.out k hlt (b, ds)
      rw [HA.out] at hst
      obtain ⟨e1, e2, e3, e4⟩ := HD.out k hlt
      have HK := Lib.hid (And.intro hk hlt)
      generalize nthN l k = x at x0 x1 hst e1 e2 e3 e4
      obtain ⟨n, d⟩ := x
      obtain ⟨dn, rfl⟩ : ∃ dn : Nat, d = (dn : Int) := ⟨d.toNat, by simp at e1; omega⟩
      have hdn : dn < 8 := by simp at e2; omega
      simp only [Int.toNat_natCast] at hst
      obtain ⟨M, hM⟩ : ∃ M, max n (-n) = M := ⟨_, rfl⟩
      have hM2 : (if n < -n then -n else n) = M := by rw [← hM]; split <;> omega
      have hneg : IntKind.i64.wrap (-n) = -n := IntWalk.i64_in _ ⟨by simp at e4; omega, by simp at e3; omega⟩
      rw [hM] at hst
      have KO := Lib.hid (fun (g : Nat) (W : World) (h : Ints .i64 W (some ⟨g, 0, none⟩) [M]) => show Calls Tryd.prog 66 #[.slice (some ⟨g, 0, none⟩) 1 1] W (fun e w' => e = .returned (.int .u64 (mk (inL [M]) : Nat)) ∧ W = w') from of_any (some ⟨g, 0, none⟩) 1 [M] W (show 1 ≤ 1000000 by decide) h)
      have hmk : mk (inL [M]) < 18446744073709551616 := mk_lt _
      generalize mk (inL [M]) = mM at hst KO hmk
      have hor := or_nat (ds dn) mM (hds dn hdn) hmk
      have HDS2 := Lib.hid (show ∀ j, j < 8 → updF ds dn (ds dn ||| mM) j < 18446744073709551616 from fun j hj => by
        unfold updF
        split
        · exact Nat.or_lt_two_pow (n := 64) (hds dn hdn) hmk
        · exact hds j hj)
      have HST1 := Lib.hid hst.symm
      obtain ⟨nb, hnb⟩ : ∃ nb, decide (n < 0) = nb := ⟨_, rfl⟩
      rw [hnb] at HST1
      have HSR := Lib.hid (rdC_set I nb ds dn (ds dn ||| mM) hdn)
      have i0 : (0 : Int) ≤ (dn : Int) := by omega
      have i1 : (dn : Int) < 8 := by omega
      have z1 : (wr.alloc (.cells #[.int .i64 n, .int .i64 (dn : Int)] 29)).cell? ⟨g3, 1, none⟩ = some (.bool b) := blk_cell (blk_more hgo _) 1
      have zf : (wr.alloc (.cells #[.int .i64 n, .int .i64 (dn : Int)] 29)).frozen? ⟨g3, 1, none⟩ = false := blk_free (blk_more hgo _) 1
      have hne : ¬ wr.heap.size = g3 := by have := lt_of_block hgo; omega
      have HGW := Lib.hid (show ((wr.alloc (.cells #[.int .i64 n, .int .i64 (dn : Int)] 29)).setCell ⟨g3, 1, none⟩ (.bool nb)).heap[g3]? = some (.cells (rdC I nb ds) 41 (0, 0)) from blk_put (blk_more hgo _) 1 _)
      have HXW := Lib.hid (show ((wr.alloc (.cells #[.int .i64 n, .int .i64 (dn : Int)] 29)).setCell ⟨g3, 1, none⟩ (.bool nb)).heap[wr.heap.size]? = some (.cells #[.int .i64 n, .int .i64 (dn : Int)] 29 (0, 0)) from ((But.refl (fun j => j = g3) _).setCell (.inr rfl) _).blk (blk_new wr _) hne)
      have HBW := Lib.hid (show But (fun j => j = g3) W1 ((wr.alloc (.cells #[.int .i64 n, .int .i64 (dn : Int)] 29)).setCell ⟨g3, 1, none⟩ (.bool nb)) from (hbut.alloc _).setCell (.inr rfl) _)
      have HHNE := Lib.hid hne
      simp only at x0 x1
      clear hst hk hlt hbut hgo hds HDS HA hdn e1 e2 e3 e4 hmk hne hl hbl
      go_upto_region 8 with fail
      generalize (wr.alloc (.cells #[.int .i64 n, .int .i64 (dn : Int)] 29)).setCell ⟨g3, 1, none⟩ (.bool nb) = W2 at HGW HXW HBW ⊢
      generalize wr.heap.size = gx at HXW HHNE ⊢
      clear z1 zf x0 x1
      have z0 : W2.cell? ⟨gx, 0, none⟩ = some (.int .i64 n) := blk_cell HXW.out 0
      have z1 : W2.cell? ⟨gx, 1, none⟩ = some (.int .i64 (dn : Int)) := blk_cell HXW.out 1
      have z2 : W2.cell? ⟨g3, 2 + dn, none⟩ = some (.int .u64 (ds dn : Nat)) := (blk_cell HGW.out (2 + dn)).trans (rdC_get I nb ds dn (by omega))
      have zf : W2.frozen? ⟨g3, 2 + dn, none⟩ = false := blk_free HGW.out _
      have hM1 := hM
      have z4 : (W2.alloc (.cells #[.int .i64 M] 3)).cell? ⟨g3, 2 + dn, none⟩ = some (.int .u64 (ds dn : Nat)) := (blk_cell (blk_more HGW.out (.cells #[.int .i64 M] 3)) (2 + dn)).trans (rdC_get I nb ds dn (by omega))
      have zh : (W2.alloc (.cells #[.int .i64 M] 3)).frozen? ⟨g3, 2 + dn, none⟩ = false := blk_free (blk_more HGW.out (.cells #[.int .i64 M] 3)) _
      have HMK := Lib.hid (fun (X : World) (hb : But (fun j => j = g3) W2 X) => show But (fun j => j = g3) W2 X ∧ X.cell? ⟨gx, 0, none⟩ = some (.int .i64 n) ∧ X.cell? ⟨gx, 1, none⟩ = some (.int .i64 (dn : Int)) from ⟨hb, blk_cell (hb.blk HXW.out HHNE.out) 0, blk_cell (hb.blk HXW.out HHNE.out) 1⟩)
      have HS := HMK.out W2.drew (But.refl _ _).drew
      refine wp_region_held_drew (S := fun X => But (fun j => j = g3) W2 X ∧ X.cell? ⟨gx, 0, none⟩ = some (.int .i64 n) ∧ X.cell? ⟨gx, 1, none⟩ = some (.int .i64 (dn : Int))) (by kernel_rfl) HS (fun hHeld => ?_)
      refine heldVal (v := ?v1) 0 rfl rfl (by kernel_rfl) (by kernel_rfl) (by kernel_rfl) (fun _ _ _ h => h) (by rfl) (fun w hSw => ?hy1) (by assumption) ?_
      case hy1 => ((try dsimp only at hSw); go_simp; (try with_reducible rfl))
      try simp only [Act.put, List.setIfInBounds_toArray, List.set_cons_zero, List.set_cons_succ]
      refine heldVal (v := ?v2) 1 rfl rfl (by kernel_rfl) (by kernel_rfl) (by kernel_rfl) (fun _ _ _ h => h) (by rfl) (fun w hSw => ?hy2) (by assumption) ?_
      case hy2 => ((try dsimp only at hSw); go_simp; (try with_reducible rfl))
      try simp only [Act.put, List.setIfInBounds_toArray, List.set_cons_zero, List.set_cons_succ]
      refine heldVal (v := ?v3) 2 rfl rfl (by kernel_rfl) (by kernel_rfl) (by kernel_rfl) (fun _ _ _ h => h) (by rfl) (fun w hSw => ?hy3) (by assumption) ?_
      case hy3 => ((try dsimp only at hSw); go_simp; (try with_reducible rfl))
      try simp only [Act.put, List.setIfInBounds_toArray, List.set_cons_zero, List.set_cons_succ]
      refine heldVal (v := ?v4) 3 rfl rfl (by kernel_rfl) (by kernel_rfl) (by kernel_rfl) (fun _ _ _ h => h) (by rfl) (fun w hSw => ?hy4) (by assumption) ?_
      case hy4 => ((try dsimp only at hSw); go_simp; (try with_reducible rfl))
      try simp only [Act.put, List.setIfInBounds_toArray, List.set_cons_zero, List.set_cons_succ]
      refine heldVal (v := ?v5) 5 rfl rfl (by kernel_rfl) (by kernel_rfl) (by kernel_rfl) (fun _ _ _ h => h) (by rfl) (fun w hSw => ?hy5) (by assumption) ?_
      case hy5 => ((try dsimp only at hSw); go_simp; (try with_reducible rfl))
      try simp only [Act.put, List.setIfInBounds_toArray, List.set_cons_zero, List.set_cons_succ]
      refine heldVal (v := ?v6) 6 rfl rfl (by kernel_rfl) (by kernel_rfl) (by kernel_rfl) (fun _ _ _ h => h) (by rfl) (fun w hSw => ?hy6) (by assumption) ?_
      case hy6 => ((try dsimp only at hSw); go_simp; (try with_reducible rfl))
      try simp only [Act.put, List.setIfInBounds_toArray, List.set_cons_zero, List.set_cons_succ]
      refine heldVal (v := ?v7) 7 rfl rfl (by kernel_rfl) (by kernel_rfl) (by kernel_rfl) (fun _ _ _ h => h) (by rfl) (fun w hSw => ?hy7) (by assumption) ?_
      case hy7 => ((try dsimp only at hSw); go_simp; (try with_reducible rfl))
      try simp only [Act.put, List.setIfInBounds_toArray, List.set_cons_zero, List.set_cons_succ]
      refine heldVal (v := ?v8) 8 rfl rfl (by kernel_rfl) (by kernel_rfl) (by kernel_rfl) (fun _ _ _ h => h) (by rfl) (fun w hSw => ?hy8) (by assumption) ?_
      case hy8 => ((try dsimp only at hSw); go_simp; (try with_reducible rfl))
      try simp only [Act.put, List.setIfInBounds_toArray, List.set_cons_zero, List.set_cons_succ]
      refine heldVal (v := ?v9) 9 rfl rfl (by kernel_rfl) (by kernel_rfl) (by kernel_rfl) (fun _ _ _ h => h) (by rfl) (fun w hSw => ?hy9) (by assumption) ?_
      case hy9 => ((try dsimp only at hSw); go_simp; (try with_reducible rfl))
      try simp only [Act.put, List.setIfInBounds_toArray, List.set_cons_zero, List.set_cons_succ]
      refine heldVal (v := ?v10) 10 rfl rfl (by kernel_rfl) (by kernel_rfl) (by kernel_rfl) (fun _ _ _ h => h) (by rfl) (fun w hSw => ?hy10) (by assumption) ?_
      case hy10 => ((try dsimp only at hSw); go_simp; (try with_reducible rfl))
      try simp only [Act.put, List.setIfInBounds_toArray, List.set_cons_zero, List.set_cons_succ]
      refine heldVal (v := ?v11) 14 rfl rfl (by kernel_rfl) (by kernel_rfl) (by kernel_rfl) (fun _ _ _ h => h) (by rfl) (fun w hSw => ?hy11) (by assumption) ?_
      case hy11 => ((try dsimp only at hSw); go_simp; (try with_reducible rfl))
      try simp only [Act.put, List.setIfInBounds_toArray, List.set_cons_zero, List.set_cons_succ]
      refine wpAnyH_ready (rs := [4, 11]) (by kernel_rfl) (by simp) ?_
      refine AllReadyH.cons (o := _) (by first | exact at_of (i := 4) rfl rfl | rfl) (fun K hK => ?_) ?_
      · rw [if_pos (by rfl)]
        go_simp
        refine hK.out _ _ ?hS (fun hHeld => ?_)
        case hS => (first | exact HS | exact HMK.out _ ((But.refl _ _).alloc _).drew | exact HMK.out _ (((But.refl _ _).alloc _).drew.setCell (.inr rfl) _) | exact HMK.out _ (But.drew (But.setCell (But.alloc (But.refl (fun j => j = g3) W2) _) (.inr rfl) _)))
        clear hK K
        try simp only [Act.put, List.setIfInBounds_toArray, List.set_cons_zero, List.set_cons_succ]
        refine wpAnyH_ready (rs := [11]) (by kernel_rfl) (by simp) ?_
        refine AllReadyH.cons (o := _) (by first | exact at_of (i := 11) rfl rfl | rfl) (fun K hK => ?_) ?_
        · rw [if_pos (by rfl)]
          go_simp
          refine hK.out _ _ ?hS (fun hHeld => ?_)
          case hS => (first | exact HS | exact HMK.out _ ((But.refl _ _).alloc _).drew | exact HMK.out _ (((But.refl _ _).alloc _).drew.setCell (.inr rfl) _) | exact HMK.out _ (But.drew (But.setCell (But.alloc (But.refl (fun j => j = g3) W2) _) (.inr rfl) _)))
          clear hK K
          try simp only [Act.put, List.setIfInBounds_toArray, List.set_cons_zero, List.set_cons_succ]
          refine wpAnyH_ready (rs := [12]) (by kernel_rfl) (by simp) ?_
          refine AllReadyH.cons (o := _) (by first | exact at_of (i := 12) rfl rfl | rfl) (fun K hK => ?_) ?_
          · rw [if_pos (by rfl)]
            go_simp
            go_at_call 66
            refine (KO.out W2.heap.size (W2.alloc (.cells #[.int .i64 M] 3)).drew (ints1_of (blk_new W2 (.cells #[.int .i64 M] 3)))).mono ?_
            rintro e w5 ⟨rfl, rfl⟩
            go_wp2_with fail
            refine hK.out _ _ ?hS (fun hHeld => ?_)
            case hS => (first | exact HS | exact HMK.out _ ((But.refl _ _).alloc _).drew | exact HMK.out _ (((But.refl _ _).alloc _).drew.setCell (.inr rfl) _) | exact HMK.out _ (But.drew (But.setCell (But.alloc (But.refl (fun j => j = g3) W2) _) (.inr rfl) _)))
            clear hK K
            try simp only [Act.put, List.setIfInBounds_toArray, List.set_cons_zero, List.set_cons_succ]
            refine heldVal (v := ?v12) 13 rfl rfl (by kernel_rfl) (by kernel_rfl) (by kernel_rfl) (fun _ _ _ h => h) (by rfl) (fun w hSw => ?hy12) (by assumption) ?_
            case hy12 => ((try dsimp only at hSw); go_simp; (try with_reducible rfl))
            try simp only [Act.put, List.setIfInBounds_toArray, List.set_cons_zero, List.set_cons_succ]
            refine heldVal (v := ?v13) 15 rfl rfl (by kernel_rfl) (by kernel_rfl) (by kernel_rfl) (fun _ _ _ h => h) (by rfl) (fun w hSw => ?hy13) (by assumption) ?_
            case hy13 => ((try dsimp only at hSw); go_simp; (try with_reducible rfl))
            try simp only [Act.put, List.setIfInBounds_toArray, List.set_cons_zero, List.set_cons_succ]
            refine wpAnyH_ready (rs := [16]) (by kernel_rfl) (by simp) ?_
            refine AllReadyH.cons (o := _) (by first | exact at_of (i := 16) rfl rfl | rfl) (fun K hK => ?_) ?_
            · rw [if_pos (by rfl)]
              go_simp
              refine hK.out _ _ ?hS (fun hHeld => ?_)
              case hS => (first | exact HS | exact HMK.out _ ((But.refl _ _).alloc _).drew | exact HMK.out _ (((But.refl _ _).alloc _).drew.setCell (.inr rfl) _) | exact HMK.out _ (But.drew (But.setCell (But.alloc (But.refl (fun j => j = g3) W2) _) (.inr rfl) _)))
              clear hK K
              try simp only [Act.put, List.setIfInBounds_toArray, List.set_cons_zero, List.set_cons_succ]
              refine wpAnyH_done (by kernel_rfl) ?_ _
              have HBF := Lib.hid (show But (fun j => j = g3) W1 (((W2.alloc (.cells #[.int .i64 M] 3)).setCell ⟨g3, 2 + dn, none⟩ (.int .u64 ((ds dn ||| mM : Nat) : Int))).drew) from But.drew (But.setCell (But.alloc HBW.out _) (.inr rfl) _))
              have HGF := Lib.hid (show (((W2.alloc (.cells #[.int .i64 M] 3)).setCell ⟨g3, 2 + dn, none⟩ (.int .u64 ((ds dn ||| mM : Nat) : Int))).drew).heap[g3]? = some (.cells (rdC I nb (updF ds dn (ds dn ||| mM))) 41 (0, 0)) from by have q := blk_put (blk_more HGW.out (.cells #[.int .i64 M] 3)) (2 + dn) (.int .u64 ((ds dn ||| mM : Nat) : Int)); rw [HSR.out] at q; exact q)
              clear hHeld
              generalize ((W2.alloc (.cells #[.int .i64 M] 3)).setCell ⟨g3, 2 + dn, none⟩ (.int .u64 ((ds dn ||| mM : Nat) : Int))).drew = WF at HBF HGF ⊢
              clear HGW HXW HBW z0 z1 z2 zf z4 zh HMK HS hM hM1 hM2 hneg hor KO HSR
              go_wp2
              go_roundw
              case rel => exact ⟨k + 1, nb, updF ds dn (ds dn ||| mM), by have := HK.out; omega, by go_num, HBF.out, HGF.out, HST1, HDS2.out⟩
              case measure =>
                have := HK.out
                simp [intOf]; omega
            exact AllReadyH.nil
          exact AllReadyH.nil
        exact AllReadyH.nil
      refine AllReadyH.cons (o := _) (by first | exact at_of (i := 11) rfl rfl | rfl) (fun K hK => ?_) ?_
      · rw [if_pos (by rfl)]
        go_simp
        refine hK.out _ _ ?hS (fun hHeld => ?_)
        case hS => (first | exact HS | exact HMK.out _ ((But.refl _ _).alloc _).drew | exact HMK.out _ (((But.refl _ _).alloc _).drew.setCell (.inr rfl) _) | exact HMK.out _ (But.drew (But.setCell (But.alloc (But.refl (fun j => j = g3) W2) _) (.inr rfl) _)))
        clear hK K
        try simp only [Act.put, List.setIfInBounds_toArray, List.set_cons_zero, List.set_cons_succ]
        refine wpAnyH_ready (rs := [4, 12]) (by kernel_rfl) (by simp) ?_
        refine AllReadyH.cons (o := _) (by first | exact at_of (i := 4) rfl rfl | rfl) (fun K hK => ?_) ?_
        · rw [if_pos (by rfl)]
          go_simp
          refine hK.out _ _ ?hS (fun hHeld => ?_)
          case hS => (first | exact HS | exact HMK.out _ ((But.refl _ _).alloc _).drew | exact HMK.out _ (((But.refl _ _).alloc _).drew.setCell (.inr rfl) _) | exact HMK.out _ (But.drew (But.setCell (But.alloc (But.refl (fun j => j = g3) W2) _) (.inr rfl) _)))
          clear hK K
          try simp only [Act.put, List.setIfInBounds_toArray, List.set_cons_zero, List.set_cons_succ]
          refine wpAnyH_ready (rs := [12]) (by kernel_rfl) (by simp) ?_
          refine AllReadyH.cons (o := _) (by first | exact at_of (i := 12) rfl rfl | rfl) (fun K hK => ?_) ?_
          · rw [if_pos (by rfl)]
            go_simp
            go_at_call 66
            refine (KO.out W2.heap.size (W2.alloc (.cells #[.int .i64 M] 3)).drew (ints1_of (blk_new W2 (.cells #[.int .i64 M] 3)))).mono ?_
            rintro e w5 ⟨rfl, rfl⟩
            go_wp2_with fail
            refine hK.out _ _ ?hS (fun hHeld => ?_)
            case hS => (first | exact HS | exact HMK.out _ ((But.refl _ _).alloc _).drew | exact HMK.out _ (((But.refl _ _).alloc _).drew.setCell (.inr rfl) _) | exact HMK.out _ (But.drew (But.setCell (But.alloc (But.refl (fun j => j = g3) W2) _) (.inr rfl) _)))
            clear hK K
            try simp only [Act.put, List.setIfInBounds_toArray, List.set_cons_zero, List.set_cons_succ]
            refine heldVal (v := ?v14) 13 rfl rfl (by kernel_rfl) (by kernel_rfl) (by kernel_rfl) (fun _ _ _ h => h) (by rfl) (fun w hSw => ?hy14) (by assumption) ?_
            case hy14 => ((try dsimp only at hSw); go_simp; (try with_reducible rfl))
            try simp only [Act.put, List.setIfInBounds_toArray, List.set_cons_zero, List.set_cons_succ]
            refine heldVal (v := ?v15) 15 rfl rfl (by kernel_rfl) (by kernel_rfl) (by kernel_rfl) (fun _ _ _ h => h) (by rfl) (fun w hSw => ?hy15) (by assumption) ?_
            case hy15 => ((try dsimp only at hSw); go_simp; (try with_reducible rfl))
            try simp only [Act.put, List.setIfInBounds_toArray, List.set_cons_zero, List.set_cons_succ]
            refine wpAnyH_ready (rs := [16]) (by kernel_rfl) (by simp) ?_
            refine AllReadyH.cons (o := _) (by first | exact at_of (i := 16) rfl rfl | rfl) (fun K hK => ?_) ?_
            · rw [if_pos (by rfl)]
              go_simp
              refine hK.out _ _ ?hS (fun hHeld => ?_)
              case hS => (first | exact HS | exact HMK.out _ ((But.refl _ _).alloc _).drew | exact HMK.out _ (((But.refl _ _).alloc _).drew.setCell (.inr rfl) _) | exact HMK.out _ (But.drew (But.setCell (But.alloc (But.refl (fun j => j = g3) W2) _) (.inr rfl) _)))
              clear hK K
              try simp only [Act.put, List.setIfInBounds_toArray, List.set_cons_zero, List.set_cons_succ]
              refine wpAnyH_done (by kernel_rfl) ?_ _
              have HBF := Lib.hid (show But (fun j => j = g3) W1 (((W2.alloc (.cells #[.int .i64 M] 3)).setCell ⟨g3, 2 + dn, none⟩ (.int .u64 ((ds dn ||| mM : Nat) : Int))).drew) from But.drew (But.setCell (But.alloc HBW.out _) (.inr rfl) _))
              have HGF := Lib.hid (show (((W2.alloc (.cells #[.int .i64 M] 3)).setCell ⟨g3, 2 + dn, none⟩ (.int .u64 ((ds dn ||| mM : Nat) : Int))).drew).heap[g3]? = some (.cells (rdC I nb (updF ds dn (ds dn ||| mM))) 41 (0, 0)) from by have q := blk_put (blk_more HGW.out (.cells #[.int .i64 M] 3)) (2 + dn) (.int .u64 ((ds dn ||| mM : Nat) : Int)); rw [HSR.out] at q; exact q)
              clear hHeld
              generalize ((W2.alloc (.cells #[.int .i64 M] 3)).setCell ⟨g3, 2 + dn, none⟩ (.int .u64 ((ds dn ||| mM : Nat) : Int))).drew = WF at HBF HGF ⊢
              clear HGW HXW HBW z0 z1 z2 zf z4 zh HMK HS hM hM1 hM2 hneg hor KO HSR
              go_wp2
              go_roundw
              case rel => exact ⟨k + 1, nb, updF ds dn (ds dn ||| mM), by have := HK.out; omega, by go_num, HBF.out, HGF.out, HST1, HDS2.out⟩
              case measure =>
                have := HK.out
                simp [intOf]; omega
            exact AllReadyH.nil
          exact AllReadyH.nil
        refine AllReadyH.cons (o := _) (by first | exact at_of (i := 12) rfl rfl | rfl) (fun K hK => ?_) ?_
        · rw [if_pos (by rfl)]
          go_simp
          go_at_call 66
          refine (KO.out W2.heap.size (W2.alloc (.cells #[.int .i64 M] 3)).drew (ints1_of (blk_new W2 (.cells #[.int .i64 M] 3)))).mono ?_
          rintro e w5 ⟨rfl, rfl⟩
          go_wp2_with fail
          refine hK.out _ _ ?hS (fun hHeld => ?_)
          case hS => (first | exact HS | exact HMK.out _ ((But.refl _ _).alloc _).drew | exact HMK.out _ (((But.refl _ _).alloc _).drew.setCell (.inr rfl) _) | exact HMK.out _ (But.drew (But.setCell (But.alloc (But.refl (fun j => j = g3) W2) _) (.inr rfl) _)))
          clear hK K
          try simp only [Act.put, List.setIfInBounds_toArray, List.set_cons_zero, List.set_cons_succ]
          refine wpAnyH_ready (rs := [4]) (by kernel_rfl) (by simp) ?_
          refine AllReadyH.cons (o := _) (by first | exact at_of (i := 4) rfl rfl | rfl) (fun K hK => ?_) ?_
          · rw [if_pos (by rfl)]
            go_simp
            refine hK.out _ _ ?hS (fun hHeld => ?_)
            case hS => (first | exact HS | exact HMK.out _ ((But.refl _ _).alloc _).drew | exact HMK.out _ (((But.refl _ _).alloc _).drew.setCell (.inr rfl) _) | exact HMK.out _ (But.drew (But.setCell (But.alloc (But.refl (fun j => j = g3) W2) _) (.inr rfl) _)))
            clear hK K
            try simp only [Act.put, List.setIfInBounds_toArray, List.set_cons_zero, List.set_cons_succ]
            refine heldVal (v := ?v16) 13 rfl rfl (by kernel_rfl) (by kernel_rfl) (by kernel_rfl) (fun _ _ _ h => h) (by rfl) (fun w hSw => ?hy16) (by assumption) ?_
            case hy16 => ((try dsimp only at hSw); go_simp; (try with_reducible rfl))
            try simp only [Act.put, List.setIfInBounds_toArray, List.set_cons_zero, List.set_cons_succ]
            refine heldVal (v := ?v17) 15 rfl rfl (by kernel_rfl) (by kernel_rfl) (by kernel_rfl) (fun _ _ _ h => h) (by rfl) (fun w hSw => ?hy17) (by assumption) ?_
            case hy17 => ((try dsimp only at hSw); go_simp; (try with_reducible rfl))
            try simp only [Act.put, List.setIfInBounds_toArray, List.set_cons_zero, List.set_cons_succ]
            refine wpAnyH_ready (rs := [16]) (by kernel_rfl) (by simp) ?_
            refine AllReadyH.cons (o := _) (by first | exact at_of (i := 16) rfl rfl | rfl) (fun K hK => ?_) ?_
            · rw [if_pos (by rfl)]
              go_simp
              refine hK.out _ _ ?hS (fun hHeld => ?_)
              case hS => (first | exact HS | exact HMK.out _ ((But.refl _ _).alloc _).drew | exact HMK.out _ (((But.refl _ _).alloc _).drew.setCell (.inr rfl) _) | exact HMK.out _ (But.drew (But.setCell (But.alloc (But.refl (fun j => j = g3) W2) _) (.inr rfl) _)))
              clear hK K
              try simp only [Act.put, List.setIfInBounds_toArray, List.set_cons_zero, List.set_cons_succ]
              refine wpAnyH_done (by kernel_rfl) ?_ _
              have HBF := Lib.hid (show But (fun j => j = g3) W1 (((W2.alloc (.cells #[.int .i64 M] 3)).setCell ⟨g3, 2 + dn, none⟩ (.int .u64 ((ds dn ||| mM : Nat) : Int))).drew) from But.drew (But.setCell (But.alloc HBW.out _) (.inr rfl) _))
              have HGF := Lib.hid (show (((W2.alloc (.cells #[.int .i64 M] 3)).setCell ⟨g3, 2 + dn, none⟩ (.int .u64 ((ds dn ||| mM : Nat) : Int))).drew).heap[g3]? = some (.cells (rdC I nb (updF ds dn (ds dn ||| mM))) 41 (0, 0)) from by have q := blk_put (blk_more HGW.out (.cells #[.int .i64 M] 3)) (2 + dn) (.int .u64 ((ds dn ||| mM : Nat) : Int)); rw [HSR.out] at q; exact q)
              clear hHeld
              generalize ((W2.alloc (.cells #[.int .i64 M] 3)).setCell ⟨g3, 2 + dn, none⟩ (.int .u64 ((ds dn ||| mM : Nat) : Int))).drew = WF at HBF HGF ⊢
              clear HGW HXW HBW z0 z1 z2 zf z4 zh HMK HS hM hM1 hM2 hneg hor KO HSR
              go_wp2
              go_roundw
              case rel => exact ⟨k + 1, nb, updF ds dn (ds dn ||| mM), by have := HK.out; omega, by go_num, HBF.out, HGF.out, HST1, HDS2.out⟩
              case measure =>
                have := HK.out
                simp [intOf]; omega
            exact AllReadyH.nil
          exact AllReadyH.nil
        exact AllReadyH.nil
      exact AllReadyH.nil
    · obtain rfl : k = l.length := by omega
      have d0 : decide (l.length < l.length) = false := dec_n (by omega)
      have hres := HA.out
      rw [List.drop_length] at hres
      obtain rfl : (b, ds) = res := hres
      have HZr := Lib.hid (hbut.blk HZ1.out (show ¬ w.heap.size + 1 = g3 by have := HG3.out; omega))
      have HGr := Lib.hid hgo
      have HBr := Lib.hid (Below.but HB1.out hbut (fun i hi hx => by have := HG3.out; omega))
      clear hk hlt hbut hgo hds HDS HA
      go_wp2_with (first | (refine wpList_loadRow HGr.out rfl _ _ rfl rfl _ Tryd.underlying41 rfl (by kernel_rfl) ?_) | (refine wpList_storeRow HZr.out (rdC I b ds) rfl _ _ _ rfl rfl rfl (by kernel_rfl) rfl (by simp [rdC, Value.oneCell']) ?_))
      exact bodyPost_ret (results1c rfl rfl (row_set HZr.out)) rfl ⟨rfl, Below.but HBr.out (row_but _ _ _) (fun i hi hx => by omega)⟩
end Go.Proofs.YtigbbepgfofcoaaDoor
