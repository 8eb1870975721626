/- What a rule that may be is, and its weekdays: rule.Week (layer 32). A rule's weekdays, of a rule that may be: rule.Week (layer 32). A rule's weekdays, of a rule that may be, with weekdays: rule.Week (layer 32). The chapter's example of a rule: ferialaw32.lives (layer 32). -/
import Derived.Test.YtigbbepgfofcoaaDoorRlT
import Derived.Test.YtigbbepgfofcoaaDoorRlQ
import Derived.Test.YtigbbepgfofcoaaDoorCm3
import Derived.Test.YtigbbepgfofcoaaDoorWeek
namespace Go.Proofs.YtigbbepgfofcoaaDoor
open Go.RowKit Civ
set_option linter.unusedVariables false

theorem lst_parts {lo hi : Int} {zs : List Int} (h : lstE lo hi zs = 0) : zs.length ≤ 64 ∧ ∀ z ∈ zs, lo ≤ z ∧ z ≤ hi := by
  unfold lstE outB at h
  by_cases h1 : 64 < zs.length
  · rw [if_pos h1] at h; cases h
  · rw [if_neg h1] at h
    by_cases h2 : (zs.any fun z => decide (z < lo) || decide (hi < z)) = true
    · rw [if_pos h2] at h; cases h
    · refine ⟨by omega, fun z hz => ?_⟩
      have q : ¬ (z < lo ∨ hi < z) := fun c => h2 (List.any_eq_true.2 ⟨z, hz, by simpa using c⟩)
      omega
theorem fst_nil_parts {e : Int} {es : List Int} (h : fstE (e :: es) = 0) : e = 0 ∧ fstE es = 0 := by
  rw [fstE_cons] at h
  by_cases c : e = 0
  · rw [if_pos c] at h; exact ⟨c, h⟩
  · rw [if_neg c] at h; exact absurd h c
theorem chk_all {r : Rl} (h : chkE r = 0) : numB r = false ∧ lstE 1 12 (r.Z 0) = 0 ∧ daysE r = 0 ∧ weeksE r = 0 ∧ lstE 0 23 (r.Z 2) = 0 ∧ lstE 0 59 (r.Z 3) = 0 ∧ lstE 0 59 (r.Z 4) = 0 := by
  unfold chkE at h
  cases h1 : numB r
  · rw [h1, if_neg (by simp)] at h
    by_cases h2 : ((r.unt != -1) && !inWn r.unt) = true
    · rw [if_pos h2] at h; cases h
    · rw [if_neg h2] at h
      by_cases h3 : ((r.unt != -1) && decide (0 < r.cnt)) = true
      · rw [if_pos h3] at h; cases h
      · rw [if_neg h3] at h
        unfold listsE at h
        obtain ⟨a, h⟩ := fst_nil_parts h
        obtain ⟨b, h⟩ := fst_nil_parts h
        obtain ⟨c, h⟩ := fst_nil_parts h
        obtain ⟨d, h⟩ := fst_nil_parts h
        obtain ⟨e, h⟩ := fst_nil_parts h
        obtain ⟨f, h⟩ := fst_nil_parts h
        exact ⟨rfl, a, b, c, d, e, f⟩
  · rw [h1, if_pos rfl] at h; cases h
theorem chk_freq {r : Rl} (h : chkE r = 0) : 0 ≤ r.freq ∧ r.freq ≤ 6 := by
  have q := (chk_all h).1
  unfold numB at q
  simp only [Bool.or_eq_false_iff, decide_eq_false_iff_not] at q
  omega
theorem weeks_parts {r : Rl} (h : weeksE r = 0) : r.N.length ≤ 64 ∧ (∀ q ∈ r.N, -53 ≤ q.1 ∧ q.1 ≤ 53 ∧ 1 ≤ q.2 ∧ q.2 ≤ 7) ∧ (sgB (nsL r.N) || (outB 0 0 (nsL r.N) && decide (r.freq < 5))) = false ∧ (outB (-5) 5 (nsL r.N) && (decide (r.freq = 5) || decide (0 < (r.Z 0).length))) = false := by
  unfold weeksE at h
  by_cases h1 : 64 < r.N.length
  · rw [if_pos h1] at h; cases h
  · rw [if_neg h1] at h
    by_cases h2 : r.N.any badN = true
    · rw [if_pos h2] at h; cases h
    · rw [if_neg h2] at h
      by_cases h3 : (sgB (nsL r.N) || (outB 0 0 (nsL r.N) && decide (r.freq < 5))) = true
      · rw [if_pos h3] at h; cases h
      · rw [if_neg h3] at h
        by_cases h4 : (outB (-5) 5 (nsL r.N) && (decide (r.freq = 5) || decide (0 < (r.Z 0).length))) = true
        · rw [if_pos h4] at h; cases h
        · refine ⟨by omega, fun q hq => ?_, Bool.eq_false_iff.2 h3, Bool.eq_false_iff.2 h4⟩
          have c : ¬ badN q = true := fun c => h2 (List.any_eq_true.2 ⟨q, hq, c⟩)
          unfold badN at c
          simp only [Bool.or_eq_true, decide_eq_true_eq] at c
          omega
theorem nth_mem (l : List N2) (k : Nat) (h : k < l.length) : nthN l k ∈ l := by
  unfold nthN
  rw [List.getElem?_eq_getElem h]
  exact List.getElem_mem h
def dysL (l : List N2) : List Int := l.map (·.2)
theorem dys_step (l : List N2) (k : Nat) (h : k < l.length) : mk (inL (dysL (l.take (k + 1)))) = mk (inL (dysL (l.take k))) ||| mk (inL [(nthN l k).2]) := by
  have e : dysL (l.take (k + 1)) = dysL (l.take k) ++ [(nthN l k).2] := by
    unfold dysL nthN
    have e : l.take (k + 1) = l.take k ++ [l[k]] := by rw [List.take_add_one, List.getElem?_eq_getElem h]; rfl
    rw [e, List.map_append, List.getElem?_eq_getElem h]; rfl
  rw [e, mk_or]
  refine mk_congr fun i _ => ?_
  unfold inL
  rw [Bool.eq_iff_iff]
  simp
/-- a rule's weekdays -/
def wkM (r : Rl) : Nat := if r.N.length = 0 then (if r.freq = 4 then mk (inL [wd (r.start / 86400)]) else fullC.wk) else if plnB r.N = true then mk (inL (dysL r.N)) else fullC.wk
def wkO (r : Rl) : Array Value := if r.N.length = 0 then rdC 0 false (fun _ => 0) else if plnB r.N = true then rdC 0 false (fun _ => 0) else rdV r
theorem results2c {fn : Func} {p u : Tmp} {tmps : Array Value} {w : World} {g : Nat} {cs : Array Value} {v : Value} (h : fn.results = #[.tmp u, .cell p 41]) (hp : tmps.getD p undef = .pointer (some ⟨g, 0, none⟩)) (hg : w.heap[g]? = some (.cells cs 41 (0, 0))) (hv : tmps.getD u undef = v) (hc : (Tryd.prog.info? 41).map (·.size) = some cs.size := by kernel_rfl) : (results fn tmps).run Tryd.prog w = .ok (.tuple #[v, .agg cs]) w := by
  have hp' : tmps[p]?.getD undef = .pointer (some ⟨g, 0, none⟩) := by simpa using hp
  have hv' : tmps[u]?.getD undef = v := by simpa using hv
  simp [results, h, hp', hv', asAddr, run_loadVar_row w g _ _ cs (0, 0) _ hg Tryd.underlying41 rfl hc]
set_option maxHeartbeats 3200000 in
set_option maxRecDepth 20000 in
theorem week_no (r : Rl) (w : World) (hr : RlAt w r) (hin : RlIn r) (hN : r.N.length ≤ 100000) (hT : TabUn w) (h : chkE r ≠ 0) :
    Calls Tryd.prog 15 #[rlV r] w fun e w' => e = .returned (.tuple #[.int .u64 0, .agg #[.int .i64 0, .bool false, .int .u64 0, .int .u64 0, .int .u64 0, .int .u64 0, .int .u64 0, .int .u64 0, .int .u64 0, .int .u64 0]]) ∧ Below w.heap.size w w' := by
  have HG0 := Lib.hid (blk_more (blk_new w (.cells (rlC r) 25)) (.cells #[.int .i64 0, .bool false, .int .u64 0, .int .u64 0, .int .u64 0, .int .u64 0, .int .u64 0, .int .u64 0, .int .u64 0, .int .u64 0] 41))
  have HZ0 := Lib.hid (show ((w.alloc (.cells (rlC r) 25)).alloc (.cells #[.int .i64 0, .bool false, .int .u64 0, .int .u64 0, .int .u64 0, .int .u64 0, .int .u64 0, .int .u64 0, .int .u64 0, .int .u64 0] 41)).heap[w.heap.size + 1]? = some (.cells #[.int .i64 0, .bool false, .int .u64 0, .int .u64 0, .int .u64 0, .int .u64 0, .int .u64 0, .int .u64 0, .int .u64 0, .int .u64 0] 41 (0, 0)) from by
    have q := blk_new (w.alloc (.cells (rlC r) 25)) (.cells #[.int .i64 0, .bool false, .int .u64 0, .int .u64 0, .int .u64 0, .int .u64 0, .int .u64 0, .int .u64 0, .int .u64 0, .int .u64 0] 41)
    rw [World.size_alloc] at q
    exact q)
  have HB0 := Lib.hid (show Below w.heap.size w ((w.alloc (.cells (rlC r) 25)).alloc (.cells #[.int .i64 0, .bool false, .int .u64 0, .int .u64 0, .int .u64 0, .int .u64 0, .int .u64 0, .int .u64 0, .int .u64 0, .int .u64 0] 41)) from ((Below.refl _ _).alloc (Nat.le_refl _) _).alloc (by rw [World.size_alloc]; omega) _)
  have K := begun_no r ((w.alloc (.cells (rlC r) 25)).alloc (.cells #[.int .i64 0, .bool false, .int .u64 0, .int .u64 0, .int .u64 0, .int .u64 0, .int .u64 0, .int .u64 0, .int .u64 0, .int .u64 0] 41)) (hr.below HB0.out) hin hN (hT.bel HB0.out) h
  have HR := Lib.hid hr
  obtain ⟨W0, hW0⟩ : ∃ W0, (w.alloc (.cells (rlC r) 25)).alloc (.cells #[.int .i64 0, .bool false, .int .u64 0, .int .u64 0, .int .u64 0, .int .u64 0, .int .u64 0, .int .u64 0, .int .u64 0, .int .u64 0] 41) = W0 := ⟨_, rfl⟩
  rw [hW0] at HG0 HB0 HZ0 K
  have x0 : W0.cell? ⟨w.heap.size, 0, none⟩ = some (.int .i64 r.start) := blk_cell HG0.out 0
  have x1 : W0.cell? ⟨w.heap.size, 1, none⟩ = some (.int .i64 r.freq) := blk_cell HG0.out 1
  have x2 : W0.cell? ⟨w.heap.size, 2, none⟩ = some (.int .i64 r.itv) := blk_cell HG0.out 2
  have x3 : W0.cell? ⟨w.heap.size, 3, none⟩ = some (.int .i64 r.cnt) := blk_cell HG0.out 3
  have x4 : W0.cell? ⟨w.heap.size, 4, none⟩ = some (.int .i64 r.unt) := blk_cell HG0.out 4
  have x5 : W0.cell? ⟨w.heap.size, 5, none⟩ = some (.slice (r.A 0) (r.Z 0).length (r.c 0)) := blk_cell HG0.out 5
  have x6 : W0.cell? ⟨w.heap.size, 6, none⟩ = some (.slice (r.A 1) (r.Z 1).length (r.c 1)) := blk_cell HG0.out 6
  have x7 : W0.cell? ⟨w.heap.size, 7, none⟩ = some (.slice r.AW r.N.length r.cw) := blk_cell HG0.out 7
  have x8 : W0.cell? ⟨w.heap.size, 8, none⟩ = some (.slice (r.A 2) (r.Z 2).length (r.c 2)) := blk_cell HG0.out 8
  have x9 : W0.cell? ⟨w.heap.size, 9, none⟩ = some (.slice (r.A 3) (r.Z 3).length (r.c 3)) := blk_cell HG0.out 9
  have x10 : W0.cell? ⟨w.heap.size, 10, none⟩ = some (.slice (r.A 4) (r.Z 4).length (r.c 4)) := blk_cell HG0.out 10
  have HW := Lib.hid hW0
  unfold rlV rlC at K ⊢
  unfold rlC at HW
  clear hr hin hN hT h hW0
  go_enter Tryd.func15, Tryd.ntmps15
  go_wp2_with fail
  try rw [HW.out]
  refine K.mono ?_
  rintro e w1 ⟨rfl, hb⟩
  have HB1 := Lib.hid ((HB0.out.trans (hb.mono HB0.out.size)).alloc (HB0.out.trans (hb.mono HB0.out.size)).size (.cells #[.int .i64 0, .int .i64 0, .int .i64 0, .int .i64 0, .int .i64 0, .int .i64 0] 69))
  have HG1 := Lib.hid (blk_more ((hb.block _ (lt_of_block HG0.out)).trans HG0.out) (.cells #[.int .i64 0, .int .i64 0, .int .i64 0, .int .i64 0, .int .i64 0, .int .i64 0] 69))
  have HZ1 := Lib.hid (blk_more ((hb.block _ (lt_of_block HZ0.out)).trans HZ0.out) (.cells #[.int .i64 0, .int .i64 0, .int .i64 0, .int .i64 0, .int .i64 0, .int .i64 0] 69))
  clear hb K HW x0 x1 x2 x3 x4 x5 x6 x7 x8 x9 x10 HG0 HZ0 HB0
  go_upto_region 2 with (refine wpList_storeNew #[.int .i64 0, .int .i64 0, .int .i64 0, .int .i64 0, .int .i64 0, .int .i64 0] rfl _ _ _ rfl rfl rfl (by kernel_rfl) rfl (by simp [Value.oneCell']) ?_)
  generalize w1.alloc (.cells #[.int .i64 0, .int .i64 0, .int .i64 0, .int .i64 0, .int .i64 0, .int .i64 0] 69) = W2 at *
  go_wp2_with (first | (refine wpList_buildIs #[.int .i64 0, .bool false, .int .u64 0, .int .u64 0, .int .u64 0, .int .u64 0, .int .u64 0, .int .u64 0, .int .u64 0, .int .u64 0] rfl _ _ rfl (by kernel_rfl) ?_) | (refine wpList_storeRow HZ1.out #[.int .i64 0, .bool false, .int .u64 0, .int .u64 0, .int .u64 0, .int .u64 0, .int .u64 0, .int .u64 0, .int .u64 0, .int .u64 0] rfl _ _ _ rfl rfl rfl (by kernel_rfl) rfl (by simp [Value.oneCell']) ?_))
  exact bodyPost_ret (results2c rfl rfl (row_set HZ1.out) rfl) rfl ⟨rfl, Below.but HB1.out (row_but _ _ _) (fun i hi hx => by omega)⟩
end Go.Proofs.YtigbbepgfofcoaaDoor
namespace Go.Proofs.YtigbbepgfofcoaaDoor
open Go.RowKit Civ
set_option linter.unusedVariables false

theorem fld_wk (c : Cl) (w : World) : (Instr.field 75 (.agg (clC c)) 6).run Tryd.prog w = .ok (.int .u64 (c.wk : Nat)) w := by
  have hu := Tryd.underlying75
  have he := Tryd.underlying35
  have hg : (clC c)[6]? = some (.int .u64 (c.wk : Nat)) := rfl
  simp [Instr.field, run_underlying hu, go_sem, asAgg, part, isAgg, run_underlying he, hg]
set_option maxHeartbeats 3200000 in
set_option maxRecDepth 20000 in
theorem week_a (r : Rl) (w : World) (hr : RlAt w r) (hin : RlIn r) (hN : r.N.length ≤ 100000) (hT : TabUn w) (h : chkE r = 0) (y m d : Int) (hd : IsDate (r.start / 86400) y m d) (h0 : r.N.length = 0) (h4 : r.freq = 4) :
    Calls Tryd.prog 15 #[rlV r] w fun e w' => e = .returned (.tuple #[.int .u64 (mk (inL [wd (r.start / 86400)]) : Nat), .agg #[.int .i64 0, .bool false, .int .u64 0, .int .u64 0, .int .u64 0, .int .u64 0, .int .u64 0, .int .u64 0, .int .u64 0, .int .u64 0]]) ∧ Below w.heap.size w w' := by
  obtain ⟨s1, s2⟩ := chk_start r h
  have KS := Lib.hid (fun W => mSplit_yes r.start W s1 s2)
  have KD := Lib.hid (fun W => wday_any (r.start / 86400) W (by unfold I64; omega))
  have KO := Lib.hid (fun (g : Nat) (x : Int) (W : World) (h : Ints .i64 W (some ⟨g, 0, none⟩) [x]) => show Calls Tryd.prog 66 #[.slice (some ⟨g, 0, none⟩) 1 1] W (fun e w' => e = .returned (.int .u64 (mk (inL [x]) : Nat)) ∧ W = w') from of_any (some ⟨g, 0, none⟩) 1 [x] W (show 1 ≤ 1000000 by decide) h)
  have KO1 := Lib.hid (fun g W h => KO.out g (wd (r.start / 86400)) W h)
  clear KO
  generalize mk (inL [wd (r.start / 86400)]) = M at KO1 ⊢
  generalize wd (r.start / 86400) = wdy at KD KO1
  have d7 : ((r.N.length : Int) == 0) = true := by rw [h0]; rfl
  have d7n : (r.N.length == 0) = true := by rw [h0]; rfl
  have d1 : (r.freq == 4) = true := by rw [h4]; rfl
  have HG0 := Lib.hid (blk_more (blk_new w (.cells (rlC r) 25)) (.cells #[.int .i64 0, .bool false, .int .u64 0, .int .u64 0, .int .u64 0, .int .u64 0, .int .u64 0, .int .u64 0, .int .u64 0, .int .u64 0] 41))
  have HZ0 := Lib.hid (show ((w.alloc (.cells (rlC r) 25)).alloc (.cells #[.int .i64 0, .bool false, .int .u64 0, .int .u64 0, .int .u64 0, .int .u64 0, .int .u64 0, .int .u64 0, .int .u64 0, .int .u64 0] 41)).heap[w.heap.size + 1]? = some (.cells #[.int .i64 0, .bool false, .int .u64 0, .int .u64 0, .int .u64 0, .int .u64 0, .int .u64 0, .int .u64 0, .int .u64 0, .int .u64 0] 41 (0, 0)) from by
    have q := blk_new (w.alloc (.cells (rlC r) 25)) (.cells #[.int .i64 0, .bool false, .int .u64 0, .int .u64 0, .int .u64 0, .int .u64 0, .int .u64 0, .int .u64 0, .int .u64 0, .int .u64 0] 41)
    rw [World.size_alloc] at q
    exact q)
  have HB0 := Lib.hid (show Below w.heap.size w ((w.alloc (.cells (rlC r) 25)).alloc (.cells #[.int .i64 0, .bool false, .int .u64 0, .int .u64 0, .int .u64 0, .int .u64 0, .int .u64 0, .int .u64 0, .int .u64 0, .int .u64 0] 41)) from ((Below.refl _ _).alloc (Nat.le_refl _) _).alloc (by rw [World.size_alloc]; omega) _)
  have K := begun_yes r ((w.alloc (.cells (rlC r) 25)).alloc (.cells #[.int .i64 0, .bool false, .int .u64 0, .int .u64 0, .int .u64 0, .int .u64 0, .int .u64 0, .int .u64 0, .int .u64 0, .int .u64 0] 41)) (hr.below HB0.out) hin hN (hT.bel HB0.out) h y m d hd
  have HR := Lib.hid hr
  obtain ⟨W0, hW0⟩ : ∃ W0, (w.alloc (.cells (rlC r) 25)).alloc (.cells #[.int .i64 0, .bool false, .int .u64 0, .int .u64 0, .int .u64 0, .int .u64 0, .int .u64 0, .int .u64 0, .int .u64 0, .int .u64 0] 41) = W0 := ⟨_, rfl⟩
  rw [hW0] at HG0 HB0 HZ0 K
  unfold stampV at K
  have x0 : W0.cell? ⟨w.heap.size, 0, none⟩ = some (.int .i64 r.start) := blk_cell HG0.out 0
  have x1 : W0.cell? ⟨w.heap.size, 1, none⟩ = some (.int .i64 r.freq) := blk_cell HG0.out 1
  have x2 : W0.cell? ⟨w.heap.size, 2, none⟩ = some (.int .i64 r.itv) := blk_cell HG0.out 2
  have x3 : W0.cell? ⟨w.heap.size, 3, none⟩ = some (.int .i64 r.cnt) := blk_cell HG0.out 3
  have x4 : W0.cell? ⟨w.heap.size, 4, none⟩ = some (.int .i64 r.unt) := blk_cell HG0.out 4
  have x5 : W0.cell? ⟨w.heap.size, 5, none⟩ = some (.slice (r.A 0) (r.Z 0).length (r.c 0)) := blk_cell HG0.out 5
  have x6 : W0.cell? ⟨w.heap.size, 6, none⟩ = some (.slice (r.A 1) (r.Z 1).length (r.c 1)) := blk_cell HG0.out 6
  have x7 : W0.cell? ⟨w.heap.size, 7, none⟩ = some (.slice r.AW r.N.length r.cw) := blk_cell HG0.out 7
  have x8 : W0.cell? ⟨w.heap.size, 8, none⟩ = some (.slice (r.A 2) (r.Z 2).length (r.c 2)) := blk_cell HG0.out 8
  have x9 : W0.cell? ⟨w.heap.size, 9, none⟩ = some (.slice (r.A 3) (r.Z 3).length (r.c 3)) := blk_cell HG0.out 9
  have x10 : W0.cell? ⟨w.heap.size, 10, none⟩ = some (.slice (r.A 4) (r.Z 4).length (r.c 4)) := blk_cell HG0.out 10
  have HW := Lib.hid hW0
  unfold rlV rlC at K ⊢
  unfold rlC at HW
  clear hr hin hN hT h hW0 hd s1 s2 h0 h4
  go_enter Tryd.func15, Tryd.ntmps15
  go_wp2_with fail
  try rw [HW.out]
  refine K.mono ?_
  rintro e w1 ⟨rfl, hb⟩
  have HB1 := Lib.hid ((HB0.out.trans (hb.mono HB0.out.size)).alloc (HB0.out.trans (hb.mono HB0.out.size)).size (.cells #[.int .i64 y, .int .i64 m, .int .i64 d, .int .i64 (r.start % 86400 / 3600), .int .i64 (r.start % 86400 / 60 % 60), .int .i64 (r.start % 60)] 69))
  have HG1 := Lib.hid (blk_more ((hb.block _ (lt_of_block HG0.out)).trans HG0.out) (.cells #[.int .i64 y, .int .i64 m, .int .i64 d, .int .i64 (r.start % 86400 / 3600), .int .i64 (r.start % 86400 / 60 % 60), .int .i64 (r.start % 60)] 69))
  have HZ1 := Lib.hid (blk_more ((hb.block _ (lt_of_block HZ0.out)).trans HZ0.out) (.cells #[.int .i64 y, .int .i64 m, .int .i64 d, .int .i64 (r.start % 86400 / 3600), .int .i64 (r.start % 86400 / 60 % 60), .int .i64 (r.start % 60)] 69))
  clear hb K HW x0 x1 x2 x3 x4 x5 x6 x7 x8 x9 x10 HG0 HZ0 HB0
  go_upto_region 2 with (refine wpList_storeNew #[.int .i64 y, .int .i64 m, .int .i64 d, .int .i64 (r.start % 86400 / 3600), .int .i64 (r.start % 86400 / 60 % 60), .int .i64 (r.start % 60)] rfl _ _ _ rfl rfl rfl (by kernel_rfl) rfl (by simp [Value.oneCell']) ?_)
  generalize w1.alloc (.cells #[.int .i64 y, .int .i64 m, .int .i64 d, .int .i64 (r.start % 86400 / 3600), .int .i64 (r.start % 86400 / 60 % 60), .int .i64 (r.start % 60)] 69) = W2 at *
  have HR2 := Lib.hid (HR.out.below HB1.out)
  have y0 : W2.cell? ⟨w.heap.size, 0, none⟩ = some (.int .i64 r.start) := blk_cell HG1.out 0
  have y1 : W2.cell? ⟨w.heap.size, 1, none⟩ = some (.int .i64 r.freq) := blk_cell HG1.out 1
  have y7 : W2.cell? ⟨w.heap.size, 7, none⟩ = some (.slice r.AW r.N.length r.cw) := blk_cell HG1.out 7
  clear HG1
  go_wp2_with fail
  refine (KS.out _).mono ?_
  rintro e w3 ⟨rfl, rfl⟩
  go_wp2_with fail
  refine (KD.out _).mono ?_
  rintro e w3 ⟨rfl, rfl⟩
  go_wp2_with fail
  refine (KO1.out W2.heap.size _ (ints1_of (blk_new W2 (.cells #[.int .i64 wdy] 3)))).mono ?_
  rintro e w3 ⟨rfl, rfl⟩
  have HZ2 := Lib.hid (blk_more HZ1.out (.cells #[.int .i64 wdy] 3))
  have HB2 := Lib.hid (HB1.out.alloc HB1.out.size (.cells #[.int .i64 wdy] 3))
  generalize W2.alloc (.cells #[.int .i64 wdy] 3) = W3 at *
  go_wp2_with (first | (refine wpList_buildIs #[.int .i64 0, .bool false, .int .u64 0, .int .u64 0, .int .u64 0, .int .u64 0, .int .u64 0, .int .u64 0, .int .u64 0, .int .u64 0] rfl _ _ rfl (by kernel_rfl) ?_) | (refine wpList_storeRow HZ2.out #[.int .i64 0, .bool false, .int .u64 0, .int .u64 0, .int .u64 0, .int .u64 0, .int .u64 0, .int .u64 0, .int .u64 0, .int .u64 0] rfl _ _ _ rfl rfl rfl (by kernel_rfl) rfl (by simp [Value.oneCell']) ?_))
  exact bodyPost_ret (results2c rfl rfl (row_set HZ2.out) rfl) rfl ⟨rfl, Below.but HB2.out (row_but _ _ _) (fun i hi hx => by omega)⟩
set_option maxHeartbeats 3200000 in
set_option maxRecDepth 20000 in
theorem week_b (r : Rl) (w : World) (hr : RlAt w r) (hin : RlIn r) (hN : r.N.length ≤ 100000) (hT : TabUn w) (h : chkE r = 0) (y m d : Int) (hd : IsDate (r.start / 86400) y m d) (h0 : r.N.length = 0) (h4 : r.freq ≠ 4) :
    Calls Tryd.prog 15 #[rlV r] w fun e w' => e = .returned (.tuple #[.int .u64 (fullC.wk : Nat), .agg #[.int .i64 0, .bool false, .int .u64 0, .int .u64 0, .int .u64 0, .int .u64 0, .int .u64 0, .int .u64 0, .int .u64 0, .int .u64 0]]) ∧ Below w.heap.size w w' := by
  have KF := Lib.hid (fun W => cfull_any W)
  unfold clV at KF
  generalize fullC = fc at KF ⊢
  have d7 : ((r.N.length : Int) == 0) = true := by rw [h0]; rfl
  have d7n : (r.N.length == 0) = true := by rw [h0]; rfl
  have d1 : (r.freq == 4) = false := by rw [beq_eq_false_iff_ne]; exact h4
  have HG0 := Lib.hid (blk_more (blk_new w (.cells (rlC r) 25)) (.cells #[.int .i64 0, .bool false, .int .u64 0, .int .u64 0, .int .u64 0, .int .u64 0, .int .u64 0, .int .u64 0, .int .u64 0, .int .u64 0] 41))
  have HZ0 := Lib.hid (show ((w.alloc (.cells (rlC r) 25)).alloc (.cells #[.int .i64 0, .bool false, .int .u64 0, .int .u64 0, .int .u64 0, .int .u64 0, .int .u64 0, .int .u64 0, .int .u64 0, .int .u64 0] 41)).heap[w.heap.size + 1]? = some (.cells #[.int .i64 0, .bool false, .int .u64 0, .int .u64 0, .int .u64 0, .int .u64 0, .int .u64 0, .int .u64 0, .int .u64 0, .int .u64 0] 41 (0, 0)) from by
    have q := blk_new (w.alloc (.cells (rlC r) 25)) (.cells #[.int .i64 0, .bool false, .int .u64 0, .int .u64 0, .int .u64 0, .int .u64 0, .int .u64 0, .int .u64 0, .int .u64 0, .int .u64 0] 41)
    rw [World.size_alloc] at q
    exact q)
  have HB0 := Lib.hid (show Below w.heap.size w ((w.alloc (.cells (rlC r) 25)).alloc (.cells #[.int .i64 0, .bool false, .int .u64 0, .int .u64 0, .int .u64 0, .int .u64 0, .int .u64 0, .int .u64 0, .int .u64 0, .int .u64 0] 41)) from ((Below.refl _ _).alloc (Nat.le_refl _) _).alloc (by rw [World.size_alloc]; omega) _)
  have K := begun_yes r ((w.alloc (.cells (rlC r) 25)).alloc (.cells #[.int .i64 0, .bool false, .int .u64 0, .int .u64 0, .int .u64 0, .int .u64 0, .int .u64 0, .int .u64 0, .int .u64 0, .int .u64 0] 41)) (hr.below HB0.out) hin hN (hT.bel HB0.out) h y m d hd
  have HR := Lib.hid hr
  obtain ⟨W0, hW0⟩ : ∃ W0, (w.alloc (.cells (rlC r) 25)).alloc (.cells #[.int .i64 0, .bool false, .int .u64 0, .int .u64 0, .int .u64 0, .int .u64 0, .int .u64 0, .int .u64 0, .int .u64 0, .int .u64 0] 41) = W0 := ⟨_, rfl⟩
  rw [hW0] at HG0 HB0 HZ0 K
  unfold stampV at K
  have x0 : W0.cell? ⟨w.heap.size, 0, none⟩ = some (.int .i64 r.start) := blk_cell HG0.out 0
  have x1 : W0.cell? ⟨w.heap.size, 1, none⟩ = some (.int .i64 r.freq) := blk_cell HG0.out 1
  have x2 : W0.cell? ⟨w.heap.size, 2, none⟩ = some (.int .i64 r.itv) := blk_cell HG0.out 2
  have x3 : W0.cell? ⟨w.heap.size, 3, none⟩ = some (.int .i64 r.cnt) := blk_cell HG0.out 3
  have x4 : W0.cell? ⟨w.heap.size, 4, none⟩ = some (.int .i64 r.unt) := blk_cell HG0.out 4
  have x5 : W0.cell? ⟨w.heap.size, 5, none⟩ = some (.slice (r.A 0) (r.Z 0).length (r.c 0)) := blk_cell HG0.out 5
  have x6 : W0.cell? ⟨w.heap.size, 6, none⟩ = some (.slice (r.A 1) (r.Z 1).length (r.c 1)) := blk_cell HG0.out 6
  have x7 : W0.cell? ⟨w.heap.size, 7, none⟩ = some (.slice r.AW r.N.length r.cw) := blk_cell HG0.out 7
  have x8 : W0.cell? ⟨w.heap.size, 8, none⟩ = some (.slice (r.A 2) (r.Z 2).length (r.c 2)) := blk_cell HG0.out 8
  have x9 : W0.cell? ⟨w.heap.size, 9, none⟩ = some (.slice (r.A 3) (r.Z 3).length (r.c 3)) := blk_cell HG0.out 9
  have x10 : W0.cell? ⟨w.heap.size, 10, none⟩ = some (.slice (r.A 4) (r.Z 4).length (r.c 4)) := blk_cell HG0.out 10
  have HW := Lib.hid hW0
  unfold rlV rlC at K ⊢
  unfold rlC at HW
  clear hr hin hN hT h hW0 hd h0 h4
  go_enter Tryd.func15, Tryd.ntmps15
  go_wp2_with fail
  try rw [HW.out]
  refine K.mono ?_
  rintro e w1 ⟨rfl, hb⟩
  have HB1 := Lib.hid ((HB0.out.trans (hb.mono HB0.out.size)).alloc (HB0.out.trans (hb.mono HB0.out.size)).size (.cells #[.int .i64 y, .int .i64 m, .int .i64 d, .int .i64 (r.start % 86400 / 3600), .int .i64 (r.start % 86400 / 60 % 60), .int .i64 (r.start % 60)] 69))
  have HG1 := Lib.hid (blk_more ((hb.block _ (lt_of_block HG0.out)).trans HG0.out) (.cells #[.int .i64 y, .int .i64 m, .int .i64 d, .int .i64 (r.start % 86400 / 3600), .int .i64 (r.start % 86400 / 60 % 60), .int .i64 (r.start % 60)] 69))
  have HZ1 := Lib.hid (blk_more ((hb.block _ (lt_of_block HZ0.out)).trans HZ0.out) (.cells #[.int .i64 y, .int .i64 m, .int .i64 d, .int .i64 (r.start % 86400 / 3600), .int .i64 (r.start % 86400 / 60 % 60), .int .i64 (r.start % 60)] 69))
  clear hb K HW x0 x1 x2 x3 x4 x5 x6 x7 x8 x9 x10 HG0 HZ0 HB0
  go_upto_region 2 with (refine wpList_storeNew #[.int .i64 y, .int .i64 m, .int .i64 d, .int .i64 (r.start % 86400 / 3600), .int .i64 (r.start % 86400 / 60 % 60), .int .i64 (r.start % 60)] rfl _ _ _ rfl rfl rfl (by kernel_rfl) rfl (by simp [Value.oneCell']) ?_)
  generalize w1.alloc (.cells #[.int .i64 y, .int .i64 m, .int .i64 d, .int .i64 (r.start % 86400 / 3600), .int .i64 (r.start % 86400 / 60 % 60), .int .i64 (r.start % 60)] 69) = W2 at *
  have HR2 := Lib.hid (HR.out.below HB1.out)
  have y0 : W2.cell? ⟨w.heap.size, 0, none⟩ = some (.int .i64 r.start) := blk_cell HG1.out 0
  have y1 : W2.cell? ⟨w.heap.size, 1, none⟩ = some (.int .i64 r.freq) := blk_cell HG1.out 1
  have y7 : W2.cell? ⟨w.heap.size, 7, none⟩ = some (.slice r.AW r.N.length r.cw) := blk_cell HG1.out 7
  clear HG1
  go_wp2_with fail
  refine (KF.out _).mono ?_
  rintro e w3 ⟨rfl, hb3⟩
  have HZ2 := Lib.hid ((hb3.block _ (lt_of_block HZ1.out)).trans HZ1.out)
  have HB2 := Lib.hid (HB1.out.trans (hb3.mono HB1.out.size))
  clear hb3
  have hfw := fld_wk fc
  go_wp2_with (first | (refine wpList_buildIs #[.int .i64 0, .bool false, .int .u64 0, .int .u64 0, .int .u64 0, .int .u64 0, .int .u64 0, .int .u64 0, .int .u64 0, .int .u64 0] rfl _ _ rfl (by kernel_rfl) ?_) | (refine wpList_storeRow HZ2.out #[.int .i64 0, .bool false, .int .u64 0, .int .u64 0, .int .u64 0, .int .u64 0, .int .u64 0, .int .u64 0, .int .u64 0, .int .u64 0] rfl _ _ _ rfl rfl rfl (by kernel_rfl) rfl (by simp [Value.oneCell']) ?_))
  exact bodyPost_ret (results2c rfl rfl (row_set HZ2.out) rfl) rfl ⟨rfl, Below.but HB2.out (row_but _ _ _) (fun i hi hx => by omega)⟩
end Go.Proofs.YtigbbepgfofcoaaDoor
namespace Go.Proofs.YtigbbepgfofcoaaDoor
open Go.RowKit Civ
set_option linter.unusedVariables false

theorem wp_storeRowK {op : Oper} {a : Act} {w : World} {K : Act → World → Prop} {Q : Exit → Act → World → Prop} {g : Nat} {old : Array Value} {t : TypeId} (hg : w.heap[g]? = some (.cells old t (0, 0))) (cs : Array Value) (ty : TypeId) (x y : Operand) (ho : op.op = .store ty x y)
    (hx : a.eval x = .pointer (some ⟨g, 0, none⟩)) (hy : a.eval y = .agg cs) (hi : (Tryd.prog.info? ty).map (·.size) = some cs.size) (hs : old.size = cs.size) (h1 : cs.all (·.oneCell') = true)
    (h : K (a.put op.dst undef) (w.setRow g cs)) : Oper.wp Tryd.prog op a w K Q := by
  unfold Oper.wp execOp
  simp only [ho, hx, hy, Instr.storeAt, Instr.sureAddr, Sem.run_bind, Sem.run_pure, Result.andThen_ok, run_storeVar_row w g t ty old cs hg hi hs h1]
  exact h
theorem rdC_one (i : Int) (b : Bool) (ds : Nat → Nat) : (rdC i b ds).all (·.oneCell') = true := by simp [rdC, Value.oneCell']
theorem ord_pre {r : Rl} (h : chkE r = 0) : ∀ k, k < r.N.length → 0 ≤ (nthN r.N k).2 ∧ (nthN r.N k).2 < 8 ∧ -100 ≤ (nthN r.N k).1 ∧ (nthN r.N k).1 ≤ 100 := fun k hk => by
  have q := (weeks_parts (chk_all h).2.2.2.1).2.1 _ (nth_mem r.N k hk)
  omega
set_option maxHeartbeats 3200000 in
set_option maxRecDepth 20000 in
theorem week_c (r : Rl) (w : World) (hr : RlAt w r) (hin : RlIn r) (hN : r.N.length ≤ 100000) (hT : TabUn w) (h : chkE r = 0) (y m d : Int) (hd : IsDate (r.start / 86400) y m d) (h0 : r.N.length ≠ 0) (hp : plnB r.N = false) :
    Calls Tryd.prog 15 #[rlV r] w fun e w' => e = .returned (.tuple #[.int .u64 (fullC.wk : Nat), .agg (rdV r)]) ∧ Below w.heap.size w w' := by
  have HO := Lib.hid (ord_pre h)
  have KP := plain_any r
  rw [hp] at KP
  have KPL := Lib.hid (fun W hr => KP W hr hin)
  have KOR := Lib.hid (fun W hr => ordOf_any r W hr hN HO.out)
  have KF := Lib.hid (fun W => cfull_any W)
  unfold clV at KF
  generalize fullC = fc at KF ⊢
  have hfw := fld_wk fc
  have d7 : ((r.N.length : Int) == 0) = false := by rw [beq_eq_false_iff_ne]; omega
  have d7n : (r.N.length == 0) = false := by rw [beq_eq_false_iff_ne]; omega
  clear KP
  have HG0 := Lib.hid (blk_more (blk_new w (.cells (rlC r) 25)) (.cells #[.int .i64 0, .bool false, .int .u64 0, .int .u64 0, .int .u64 0, .int .u64 0, .int .u64 0, .int .u64 0, .int .u64 0, .int .u64 0] 41))
  have HZ0 := Lib.hid (show ((w.alloc (.cells (rlC r) 25)).alloc (.cells #[.int .i64 0, .bool false, .int .u64 0, .int .u64 0, .int .u64 0, .int .u64 0, .int .u64 0, .int .u64 0, .int .u64 0, .int .u64 0] 41)).heap[w.heap.size + 1]? = some (.cells #[.int .i64 0, .bool false, .int .u64 0, .int .u64 0, .int .u64 0, .int .u64 0, .int .u64 0, .int .u64 0, .int .u64 0, .int .u64 0] 41 (0, 0)) from by
    have q := blk_new (w.alloc (.cells (rlC r) 25)) (.cells #[.int .i64 0, .bool false, .int .u64 0, .int .u64 0, .int .u64 0, .int .u64 0, .int .u64 0, .int .u64 0, .int .u64 0, .int .u64 0] 41)
    rw [World.size_alloc] at q
    exact q)
  have HB0 := Lib.hid (show Below w.heap.size w ((w.alloc (.cells (rlC r) 25)).alloc (.cells #[.int .i64 0, .bool false, .int .u64 0, .int .u64 0, .int .u64 0, .int .u64 0, .int .u64 0, .int .u64 0, .int .u64 0, .int .u64 0] 41)) from ((Below.refl _ _).alloc (Nat.le_refl _) _).alloc (by rw [World.size_alloc]; omega) _)
  have K := begun_yes r ((w.alloc (.cells (rlC r) 25)).alloc (.cells #[.int .i64 0, .bool false, .int .u64 0, .int .u64 0, .int .u64 0, .int .u64 0, .int .u64 0, .int .u64 0, .int .u64 0, .int .u64 0] 41)) (hr.below HB0.out) hin hN (hT.bel HB0.out) h y m d hd
  have HR := Lib.hid hr
  obtain ⟨W0, hW0⟩ : ∃ W0, (w.alloc (.cells (rlC r) 25)).alloc (.cells #[.int .i64 0, .bool false, .int .u64 0, .int .u64 0, .int .u64 0, .int .u64 0, .int .u64 0, .int .u64 0, .int .u64 0, .int .u64 0] 41) = W0 := ⟨_, rfl⟩
  rw [hW0] at HG0 HB0 HZ0 K
  unfold stampV at K
  have x0 : W0.cell? ⟨w.heap.size, 0, none⟩ = some (.int .i64 r.start) := blk_cell HG0.out 0
  have x1 : W0.cell? ⟨w.heap.size, 1, none⟩ = some (.int .i64 r.freq) := blk_cell HG0.out 1
  have x2 : W0.cell? ⟨w.heap.size, 2, none⟩ = some (.int .i64 r.itv) := blk_cell HG0.out 2
  have x3 : W0.cell? ⟨w.heap.size, 3, none⟩ = some (.int .i64 r.cnt) := blk_cell HG0.out 3
  have x4 : W0.cell? ⟨w.heap.size, 4, none⟩ = some (.int .i64 r.unt) := blk_cell HG0.out 4
  have x5 : W0.cell? ⟨w.heap.size, 5, none⟩ = some (.slice (r.A 0) (r.Z 0).length (r.c 0)) := blk_cell HG0.out 5
  have x6 : W0.cell? ⟨w.heap.size, 6, none⟩ = some (.slice (r.A 1) (r.Z 1).length (r.c 1)) := blk_cell HG0.out 6
  have x7 : W0.cell? ⟨w.heap.size, 7, none⟩ = some (.slice r.AW r.N.length r.cw) := blk_cell HG0.out 7
  have x8 : W0.cell? ⟨w.heap.size, 8, none⟩ = some (.slice (r.A 2) (r.Z 2).length (r.c 2)) := blk_cell HG0.out 8
  have x9 : W0.cell? ⟨w.heap.size, 9, none⟩ = some (.slice (r.A 3) (r.Z 3).length (r.c 3)) := blk_cell HG0.out 9
  have x10 : W0.cell? ⟨w.heap.size, 10, none⟩ = some (.slice (r.A 4) (r.Z 4).length (r.c 4)) := blk_cell HG0.out 10
  have HW := Lib.hid hW0
  unfold rlV rlC at K ⊢
  unfold rlC at HW
  clear hr hin hN hT h hW0 hd h0 hp
  go_enter Tryd.func15, Tryd.ntmps15
  go_wp2_with fail
  try rw [HW.out]
  refine K.mono ?_
  rintro e w1 ⟨rfl, hb⟩
  have HB1 := Lib.hid ((HB0.out.trans (hb.mono HB0.out.size)).alloc (HB0.out.trans (hb.mono HB0.out.size)).size (.cells #[.int .i64 y, .int .i64 m, .int .i64 d, .int .i64 (r.start % 86400 / 3600), .int .i64 (r.start % 86400 / 60 % 60), .int .i64 (r.start % 60)] 69))
  have HG1 := Lib.hid (blk_more ((hb.block _ (lt_of_block HG0.out)).trans HG0.out) (.cells #[.int .i64 y, .int .i64 m, .int .i64 d, .int .i64 (r.start % 86400 / 3600), .int .i64 (r.start % 86400 / 60 % 60), .int .i64 (r.start % 60)] 69))
  have HZ1 := Lib.hid (blk_more ((hb.block _ (lt_of_block HZ0.out)).trans HZ0.out) (.cells #[.int .i64 y, .int .i64 m, .int .i64 d, .int .i64 (r.start % 86400 / 3600), .int .i64 (r.start % 86400 / 60 % 60), .int .i64 (r.start % 60)] 69))
  clear hb K HW x0 x1 x2 x3 x4 x5 x6 x7 x8 x9 x10 HG0 HZ0 HB0
  go_upto_region 2 with (refine wpList_storeNew #[.int .i64 y, .int .i64 m, .int .i64 d, .int .i64 (r.start % 86400 / 3600), .int .i64 (r.start % 86400 / 60 % 60), .int .i64 (r.start % 60)] rfl _ _ _ rfl rfl rfl (by kernel_rfl) rfl (by simp [Value.oneCell']) ?_)
  generalize w1.alloc (.cells #[.int .i64 y, .int .i64 m, .int .i64 d, .int .i64 (r.start % 86400 / 3600), .int .i64 (r.start % 86400 / 60 % 60), .int .i64 (r.start % 60)] 69) = W2 at *
  have HR2 := Lib.hid (HR.out.below HB1.out)
  have y0 : W2.cell? ⟨w.heap.size, 0, none⟩ = some (.int .i64 r.start) := blk_cell HG1.out 0
  have y1 : W2.cell? ⟨w.heap.size, 1, none⟩ = some (.int .i64 r.freq) := blk_cell HG1.out 1
  have y2 : W2.cell? ⟨w.heap.size, 2, none⟩ = some (.int .i64 r.itv) := blk_cell HG1.out 2
  have y3 : W2.cell? ⟨w.heap.size, 3, none⟩ = some (.int .i64 r.cnt) := blk_cell HG1.out 3
  have y4 : W2.cell? ⟨w.heap.size, 4, none⟩ = some (.int .i64 r.unt) := blk_cell HG1.out 4
  have y5 : W2.cell? ⟨w.heap.size, 5, none⟩ = some (.slice (r.A 0) (r.Z 0).length (r.c 0)) := blk_cell HG1.out 5
  have y6 : W2.cell? ⟨w.heap.size, 6, none⟩ = some (.slice (r.A 1) (r.Z 1).length (r.c 1)) := blk_cell HG1.out 6
  have y7 : W2.cell? ⟨w.heap.size, 7, none⟩ = some (.slice r.AW r.N.length r.cw) := blk_cell HG1.out 7
  have y8 : W2.cell? ⟨w.heap.size, 8, none⟩ = some (.slice (r.A 2) (r.Z 2).length (r.c 2)) := blk_cell HG1.out 8
  have y9 : W2.cell? ⟨w.heap.size, 9, none⟩ = some (.slice (r.A 3) (r.Z 3).length (r.c 3)) := blk_cell HG1.out 9
  have y10 : W2.cell? ⟨w.heap.size, 10, none⟩ = some (.slice (r.A 4) (r.Z 4).length (r.c 4)) := blk_cell HG1.out 10
  go_wp2_with fail
  refine (KPL.out _ HR2.out).mono ?_
  rintro e w3 ⟨rfl, hb3⟩
  have HB3 := Lib.hid (HB1.out.trans (hb3.mono HB1.out.size))
  have HG3 := Lib.hid ((hb3.block _ (lt_of_block HG1.out)).trans HG1.out)
  have HZ3 := Lib.hid ((hb3.block _ (lt_of_block HZ1.out)).trans HZ1.out)
  have HR3 := Lib.hid (HR2.out.below hb3)
  clear hb3 HB1 HG1 HZ1 HR2 y0 y1 y2 y3 y4 y5 y6 y7 y8 y9 y10 KPL
  go_upto_region 10 with fail
  have HMK := Lib.hid (fun (X : World) (hb : But (fun j => j = w.heap.size + 1) w3 X) => show But (fun j => j = w.heap.size + 1) w3 X ∧ X.heap[w.heap.size]? = some (.cells (rlC r) 25 (0, 0)) from ⟨hb, hb.blk HG3.out (by omega)⟩)
  have HS := HMK.out w3.drew (But.refl _ _).drew
  have hz : w3.drew.heap[w.heap.size + 1]? = some (.cells #[.int .i64 0, .bool false, .int .u64 0, .int .u64 0, .int .u64 0, .int .u64 0, .int .u64 0, .int .u64 0, .int .u64 0, .int .u64 0] 41 (0, 0)) := HZ3.out
  have HRK := Lib.hid (fun (X : World) (hb : But (fun j => j = w.heap.size + 1) w3 X) => HR.out.below (Below.but HB3.out hb (fun i hi hx => by omega)))
  refine wp_region_held_drew (S := fun X => But (fun j => j = w.heap.size + 1) w3 X ∧ X.heap[w.heap.size]? = some (.cells (rlC r) 25 (0, 0))) (by kernel_rfl) HS (fun hHeld => ?_)
  refine heldVal 2 rfl rfl (by kernel_rfl) (by kernel_rfl) (by kernel_rfl) (fun _ _ _ h => h) (by rfl) (fun w hSw => exec_loadRow hSw.2 rfl rfl Tryd.underlying25 rfl (by kernel_rfl)) (by assumption) ?_
  try simp only [Act.put, List.setIfInBounds_toArray, List.set_cons_zero, List.set_cons_succ]
  refine wpAnyH_ready (rs := [0]) (by kernel_rfl) (by simp) ?_
  refine AllReadyH.cons (o := _) (by first | exact at_of (i := 0) rfl rfl | rfl) (fun K hK => ?_) ?_
  · rw [if_pos (by rfl)]
    go_simp
    go_at_call 67
    refine (KF.out _).mono ?_
    rintro e v0 ⟨rfl, hbn⟩
    have hSn := HMK.out _ (hHeld.1.trans (But.of_below hbn))
    have hz := (hbn.block _ (lt_of_block hz)).trans hz
    go_wp2_with fail
    refine hK.out _ _ ?hS (fun hHeld => ?_)
    case hS => exact hSn
    clear hK K
    try simp only [Act.put, List.setIfInBounds_toArray, List.set_cons_zero, List.set_cons_succ]
    refine heldVal (v := ?v1) 1 rfl rfl (by kernel_rfl) (by kernel_rfl) (by kernel_rfl) (fun _ _ _ h => h) (by rfl) (fun w hSw => ?hy1) (by assumption) ?_
    case hy1 => ((try dsimp only at hSw); go_simp; (try with_reducible rfl))
    try simp only [Act.put, List.setIfInBounds_toArray, List.set_cons_zero, List.set_cons_succ]
    refine wpAnyH_ready (rs := [3]) (by kernel_rfl) (by simp) ?_
    refine AllReadyH.cons (o := _) (by first | exact at_of (i := 3) rfl rfl | rfl) (fun K hK => ?_) ?_
    · rw [if_pos (by rfl)]
      go_simp
      go_at_call 71
      refine (KOR.out _ (HRK.out _ hHeld.1)).mono ?_
      rintro e v1 ⟨rfl, hbn⟩
      have hSn := HMK.out _ (hHeld.1.trans (But.of_below hbn))
      have hz := (hbn.block _ (lt_of_block hz)).trans hz
      go_wp2_with fail
      refine hK.out _ _ ?hS (fun hHeld => ?_)
      case hS => exact hSn
      clear hK K
      try simp only [Act.put, List.setIfInBounds_toArray, List.set_cons_zero, List.set_cons_succ]
      refine heldVal (v := ?v2) 4 rfl rfl (by kernel_rfl) (by kernel_rfl) (by kernel_rfl) (fun _ _ _ h => h) (by rfl) (fun w hSw => ?hy2) (by assumption) ?_
      case hy2 => ((try dsimp only at hSw); go_simp; (try with_reducible rfl))
      try simp only [Act.put, List.setIfInBounds_toArray, List.set_cons_zero, List.set_cons_succ]
      refine wpAnyH_ready (rs := [5]) (by kernel_rfl) (by simp) ?_
      refine AllReadyH.cons (o := _) (by first | exact at_of (i := 5) rfl rfl | rfl) (fun K hK => ?_) ?_
      · rw [if_pos (by rfl)]
        refine wp_storeRowK hz (rdV r) _ _ _ rfl rfl rfl (by kernel_rfl) (by kernel_rfl) (rdC_one _ _ _) ?_
        have hSn := HMK.out _ (hHeld.1.trans (row_but _ _ (rdV r)))
        have hzr := Lib.hid (row_set (cs := rdV r) hz)
        have HBE := Lib.hid (Below.but HB3.out hSn.1 (fun i hi hx => by omega))
        refine hK.out _ _ hSn (fun hHeld => ?_)
        clear hK K
        try simp only [Act.put]
        refine wpAnyH_done (by kernel_rfl) ?_ _
        go_wp2_with fail
        exact bodyPost_ret (results2c rfl rfl hzr.out rfl) rfl ⟨rfl, HBE.out⟩
      exact AllReadyH.nil
    exact AllReadyH.nil
  exact AllReadyH.nil
set_option maxHeartbeats 3200000 in
set_option maxRecDepth 20000 in
theorem week_d (r : Rl) (w : World) (hr : RlAt w r) (hin : RlIn r) (hN : r.N.length ≤ 100000) (hT : TabUn w) (h : chkE r = 0) (y m d : Int) (hd : IsDate (r.start / 86400) y m d) (h0 : r.N.length ≠ 0) (hp : plnB r.N = true) :
    Calls Tryd.prog 15 #[rlV r] w fun e w' => e = .returned (.tuple #[.int .u64 (mk (inL (dysL r.N)) : Nat), .agg #[.int .i64 0, .bool false, .int .u64 0, .int .u64 0, .int .u64 0, .int .u64 0, .int .u64 0, .int .u64 0, .int .u64 0, .int .u64 0]]) ∧ Below w.heap.size w w' := by
  have HDY := Lib.hid (fun k h => dys_step r.N k h)
  have HDA := Lib.hid (show mk (inL (dysL (r.N.take r.N.length))) = mk (inL (dysL r.N)) by rw [List.take_length])
  obtain ⟨MR, hMR⟩ : ∃ MR, mk (inL (dysL r.N)) = MR := ⟨_, rfl⟩
  rw [hMR] at HDA ⊢
  clear hMR
  have HD0 := Lib.hid (show mk (inL (dysL (r.N.take 0))) = 0 from by rw [List.take_zero]; exact mk_nil)
  have HLT := Lib.hid (fun k => mk_lt (inL (dysL (r.N.take k))))
  have HO := Lib.hid (ord_pre h)
  have HL := Lib.hid hN
  have KP := plain_any r
  rw [hp] at KP
  have KPL := Lib.hid (fun W hr => KP W hr hin)
  have KO := Lib.hid (fun (x : Int) (g : Nat) (W : World) (h : Ints .i64 W (some ⟨g, 0, none⟩) [x]) => show Calls Tryd.prog 66 #[.slice (some ⟨g, 0, none⟩) 1 1] W (fun e w' => e = .returned (.int .u64 (mk (inL [x]) : Nat)) ∧ W = w') from of_any (some ⟨g, 0, none⟩) 1 [x] W (show 1 ≤ 1000000 by decide) h)
  have d7 : ((r.N.length : Int) == 0) = false := by rw [beq_eq_false_iff_ne]; omega
  have d7n : (r.N.length == 0) = false := by rw [beq_eq_false_iff_ne]; omega
  clear KP
  have HG0 := Lib.hid (blk_more (blk_new w (.cells (rlC r) 25)) (.cells #[.int .i64 0, .bool false, .int .u64 0, .int .u64 0, .int .u64 0, .int .u64 0, .int .u64 0, .int .u64 0, .int .u64 0, .int .u64 0] 41))
  have HZ0 := Lib.hid (show ((w.alloc (.cells (rlC r) 25)).alloc (.cells #[.int .i64 0, .bool false, .int .u64 0, .int .u64 0, .int .u64 0, .int .u64 0, .int .u64 0, .int .u64 0, .int .u64 0, .int .u64 0] 41)).heap[w.heap.size + 1]? = some (.cells #[.int .i64 0, .bool false, .int .u64 0, .int .u64 0, .int .u64 0, .int .u64 0, .int .u64 0, .int .u64 0, .int .u64 0, .int .u64 0] 41 (0, 0)) from by
    have q := blk_new (w.alloc (.cells (rlC r) 25)) (.cells #[.int .i64 0, .bool false, .int .u64 0, .int .u64 0, .int .u64 0, .int .u64 0, .int .u64 0, .int .u64 0, .int .u64 0, .int .u64 0] 41)
    rw [World.size_alloc] at q
    exact q)
  have HB0 := Lib.hid (show Below w.heap.size w ((w.alloc (.cells (rlC r) 25)).alloc (.cells #[.int .i64 0, .bool false, .int .u64 0, .int .u64 0, .int .u64 0, .int .u64 0, .int .u64 0, .int .u64 0, .int .u64 0, .int .u64 0] 41)) from ((Below.refl _ _).alloc (Nat.le_refl _) _).alloc (by rw [World.size_alloc]; omega) _)
  have K := begun_yes r ((w.alloc (.cells (rlC r) 25)).alloc (.cells #[.int .i64 0, .bool false, .int .u64 0, .int .u64 0, .int .u64 0, .int .u64 0, .int .u64 0, .int .u64 0, .int .u64 0, .int .u64 0] 41)) (hr.below HB0.out) hin hN (hT.bel HB0.out) h y m d hd
  have HR := Lib.hid hr
  obtain ⟨W0, hW0⟩ : ∃ W0, (w.alloc (.cells (rlC r) 25)).alloc (.cells #[.int .i64 0, .bool false, .int .u64 0, .int .u64 0, .int .u64 0, .int .u64 0, .int .u64 0, .int .u64 0, .int .u64 0, .int .u64 0] 41) = W0 := ⟨_, rfl⟩
  rw [hW0] at HG0 HB0 HZ0 K
  unfold stampV at K
  have x0 : W0.cell? ⟨w.heap.size, 0, none⟩ = some (.int .i64 r.start) := blk_cell HG0.out 0
  have x1 : W0.cell? ⟨w.heap.size, 1, none⟩ = some (.int .i64 r.freq) := blk_cell HG0.out 1
  have x2 : W0.cell? ⟨w.heap.size, 2, none⟩ = some (.int .i64 r.itv) := blk_cell HG0.out 2
  have x3 : W0.cell? ⟨w.heap.size, 3, none⟩ = some (.int .i64 r.cnt) := blk_cell HG0.out 3
  have x4 : W0.cell? ⟨w.heap.size, 4, none⟩ = some (.int .i64 r.unt) := blk_cell HG0.out 4
  have x5 : W0.cell? ⟨w.heap.size, 5, none⟩ = some (.slice (r.A 0) (r.Z 0).length (r.c 0)) := blk_cell HG0.out 5
  have x6 : W0.cell? ⟨w.heap.size, 6, none⟩ = some (.slice (r.A 1) (r.Z 1).length (r.c 1)) := blk_cell HG0.out 6
  have x7 : W0.cell? ⟨w.heap.size, 7, none⟩ = some (.slice r.AW r.N.length r.cw) := blk_cell HG0.out 7
  have x8 : W0.cell? ⟨w.heap.size, 8, none⟩ = some (.slice (r.A 2) (r.Z 2).length (r.c 2)) := blk_cell HG0.out 8
  have x9 : W0.cell? ⟨w.heap.size, 9, none⟩ = some (.slice (r.A 3) (r.Z 3).length (r.c 3)) := blk_cell HG0.out 9
  have x10 : W0.cell? ⟨w.heap.size, 10, none⟩ = some (.slice (r.A 4) (r.Z 4).length (r.c 4)) := blk_cell HG0.out 10
  have HW := Lib.hid hW0
  unfold rlV rlC at K ⊢
  unfold rlC at HW
  clear hr hin hN hT h hW0 hd h0 hp
  go_enter Tryd.func15, Tryd.ntmps15
  go_wp2_with fail
  try rw [HW.out]
  refine K.mono ?_
  rintro e w1 ⟨rfl, hb⟩
  have HB1 := Lib.hid ((HB0.out.trans (hb.mono HB0.out.size)).alloc (HB0.out.trans (hb.mono HB0.out.size)).size (.cells #[.int .i64 y, .int .i64 m, .int .i64 d, .int .i64 (r.start % 86400 / 3600), .int .i64 (r.start % 86400 / 60 % 60), .int .i64 (r.start % 60)] 69))
  have HG1 := Lib.hid (blk_more ((hb.block _ (lt_of_block HG0.out)).trans HG0.out) (.cells #[.int .i64 y, .int .i64 m, .int .i64 d, .int .i64 (r.start % 86400 / 3600), .int .i64 (r.start % 86400 / 60 % 60), .int .i64 (r.start % 60)] 69))
  have HZ1 := Lib.hid (blk_more ((hb.block _ (lt_of_block HZ0.out)).trans HZ0.out) (.cells #[.int .i64 y, .int .i64 m, .int .i64 d, .int .i64 (r.start % 86400 / 3600), .int .i64 (r.start % 86400 / 60 % 60), .int .i64 (r.start % 60)] 69))
  clear hb K HW x0 x1 x2 x3 x4 x5 x6 x7 x8 x9 x10 HG0 HZ0 HB0
  go_upto_region 2 with (refine wpList_storeNew #[.int .i64 y, .int .i64 m, .int .i64 d, .int .i64 (r.start % 86400 / 3600), .int .i64 (r.start % 86400 / 60 % 60), .int .i64 (r.start % 60)] rfl _ _ _ rfl rfl rfl (by kernel_rfl) rfl (by simp [Value.oneCell']) ?_)
  generalize w1.alloc (.cells #[.int .i64 y, .int .i64 m, .int .i64 d, .int .i64 (r.start % 86400 / 3600), .int .i64 (r.start % 86400 / 60 % 60), .int .i64 (r.start % 60)] 69) = W2 at *
  have HR2 := Lib.hid (HR.out.below HB1.out)
  have y0 : W2.cell? ⟨w.heap.size, 0, none⟩ = some (.int .i64 r.start) := blk_cell HG1.out 0
  have y1 : W2.cell? ⟨w.heap.size, 1, none⟩ = some (.int .i64 r.freq) := blk_cell HG1.out 1
  have y2 : W2.cell? ⟨w.heap.size, 2, none⟩ = some (.int .i64 r.itv) := blk_cell HG1.out 2
  have y3 : W2.cell? ⟨w.heap.size, 3, none⟩ = some (.int .i64 r.cnt) := blk_cell HG1.out 3
  have y4 : W2.cell? ⟨w.heap.size, 4, none⟩ = some (.int .i64 r.unt) := blk_cell HG1.out 4
  have y5 : W2.cell? ⟨w.heap.size, 5, none⟩ = some (.slice (r.A 0) (r.Z 0).length (r.c 0)) := blk_cell HG1.out 5
  have y6 : W2.cell? ⟨w.heap.size, 6, none⟩ = some (.slice (r.A 1) (r.Z 1).length (r.c 1)) := blk_cell HG1.out 6
  have y7 : W2.cell? ⟨w.heap.size, 7, none⟩ = some (.slice r.AW r.N.length r.cw) := blk_cell HG1.out 7
  have y8 : W2.cell? ⟨w.heap.size, 8, none⟩ = some (.slice (r.A 2) (r.Z 2).length (r.c 2)) := blk_cell HG1.out 8
  have y9 : W2.cell? ⟨w.heap.size, 9, none⟩ = some (.slice (r.A 3) (r.Z 3).length (r.c 3)) := blk_cell HG1.out 9
  have y10 : W2.cell? ⟨w.heap.size, 10, none⟩ = some (.slice (r.A 4) (r.Z 4).length (r.c 4)) := blk_cell HG1.out 10
  go_wp2_with fail
  refine (KPL.out _ HR2.out).mono ?_
  rintro e w3 ⟨rfl, hb3⟩
  have HB3 := Lib.hid (HB1.out.trans (hb3.mono HB1.out.size))
  have HG3 := Lib.hid ((hb3.block _ (lt_of_block HG1.out)).trans HG1.out)
  have HZ3 := Lib.hid ((hb3.block _ (lt_of_block HZ1.out)).trans HZ1.out)
  have HN3 := Lib.hid (HR2.out.below hb3).2
  clear hb3 HB1 HG1 HZ1 HR2 HR y0 y1 y2 y3 y4 y5 y6 y7 y8 y9 y10 KPL
  have z7 : w3.cell? ⟨w.heap.size, 7, none⟩ = some (.slice r.AW r.N.length r.cw) := blk_cell HG3.out 7
  clear HG3
  go_wp2_with fail
  clear z7
  generalize r.N = l at *
  generalize r.AW = A at *
  go_loopw [9, 62] (fun v i wr => ∃ k : Nat, k ≤ l.length ∧ i = .int .i64 k ∧ v = .int .u64 (mk (inL (dysL (l.take k))) : Nat) ∧ Below w3.heap.size w3 wr) (fun _ i _ => l.length - (intOf i).toNat)
  case atStart => exact ⟨0, Nat.zero_le _, rfl, by rw [HD0.out]; rfl, Below.refl _ _⟩
  case round =>
    obtain ⟨k, hk, rfl, rfl, hb⟩ := hrel
    have HB := Lib.hid hb
    by_cases hlt : k < l.length
    · obtain ⟨bk, off, rfl, hbl, x0, x1⟩ := (HN3.out.below hb) k hlt
      have hl := HL.out
      have d0 : decide (k < l.length) = true := dec_t hlt
      have ik0 : (0 : Int) ≤ (k : Int) := by omega
      have ik1 : (k : Int) < (l.length : Int) := by omega
      have hw1 : IntKind.i64.wrap ((k : Int) + 1) = (k : Int) + 1 := IntWalk.i64_in _ ⟨by omega, by omega⟩
      have HK := Lib.hid (And.intro hk hlt)
      have hdy := HDY.out k hlt
      have hmk := mk_lt (inL [(nthN l k).2])
      have KOx := Lib.hid (fun g W h => KO.out (nthN l k).2 g W h)
      generalize mk (inL [(nthN l k).2]) = mx at hdy hmk KOx
      have hlt1 := HLT.out k
      have HNX := Lib.hid hdy.symm
      obtain ⟨mn, hmn⟩ : ∃ mn, mk (inL (dysL (l.take (k + 1)))) = mn := ⟨_, rfl⟩
      have HMN := Lib.hid hmn
      rw [hmn] at HNX
      clear hmn
      generalize mk (inL (dysL (l.take k))) = mo at HNX hlt1 ⊢
      have hor := or_nat mo mx hlt1 hmk
      rw [HNX.out] at hor
      have HE := Lib.hid hor
      generalize nthN l k = q at x0 x1 KOx
      have HB1 := Lib.hid ((HB.out.alloc HB.out.size (.cells #[.int .i64 q.1, .int .i64 q.2] 29)).alloc (HB.out.alloc HB.out.size (.cells #[.int .i64 q.1, .int .i64 q.2] 29)).size (.cells #[.int .i64 q.2] 3))
      clear hk hlt hb hl hbl hdy hmk hlt1
      go_wp2_with fail
      refine (KOx.out _ _ (ints1_of (by have q9 := blk_new (wr.alloc (.cells #[.int .i64 q.1, .int .i64 q.2] 29)) (.cells #[.int .i64 q.2] 3); rw [World.size_alloc] at q9; exact q9))).mono ?_
      rintro e w5 ⟨rfl, rfl⟩
      go_wp2
      go_roundw
      case rel => exact ⟨k + 1, by have := HK.out; omega, by go_num, by rw [HMN.out], HB1.out⟩
      case measure =>
        have := HK.out
        simp [intOf]; omega
    · obtain rfl : k = l.length := by omega
      have d0 : decide (l.length < l.length) = false := dec_n (by omega)
      rw [HDA.out]
      have HZr := Lib.hid ((hb.block _ (lt_of_block HZ3.out)).trans HZ3.out)
      have HBr := Lib.hid (HB3.out.trans (hb.mono HB3.out.size))
      clear hk hlt hb
      go_wp2_with (first | (refine wpList_buildIs #[.int .i64 0, .bool false, .int .u64 0, .int .u64 0, .int .u64 0, .int .u64 0, .int .u64 0, .int .u64 0, .int .u64 0, .int .u64 0] rfl _ _ rfl (by kernel_rfl) ?_) | (refine wpList_storeRow HZr.out #[.int .i64 0, .bool false, .int .u64 0, .int .u64 0, .int .u64 0, .int .u64 0, .int .u64 0, .int .u64 0, .int .u64 0, .int .u64 0] rfl _ _ _ rfl rfl rfl (by kernel_rfl) rfl (by simp [Value.oneCell']) ?_))
      exact bodyPost_ret (results2c rfl rfl (row_set HZr.out) rfl) rfl ⟨rfl, Below.but HBr.out (row_but _ _ _) (fun i hi hx => by omega)⟩
theorem week_yes (r : Rl) (w : World) (hr : RlAt w r) (hin : RlIn r) (hN : r.N.length ≤ 100000) (hT : TabUn w) (h : chkE r = 0) (y m d : Int) (hd : IsDate (r.start / 86400) y m d) :
    Calls Tryd.prog 15 #[rlV r] w fun e w' => e = .returned (.tuple #[.int .u64 (wkM r : Nat), .agg (wkO r)]) ∧ Below w.heap.size w w' := by
  unfold wkM wkO
  by_cases h0 : r.N.length = 0
  · rw [if_pos h0, if_pos h0]
    by_cases h4 : r.freq = 4
    · rw [if_pos h4]
      exact week_a r w hr hin hN hT h y m d hd h0 h4
    · rw [if_neg h4]
      exact week_b r w hr hin hN hT h y m d hd h0 h4
  · rw [if_neg h0, if_neg h0]
    cases hp : plnB r.N
    · rw [if_neg (by simp), if_neg (by simp)]
      exact week_c r w hr hin hN hT h y m d hd h0 hp
    · rw [if_pos rfl, if_pos rfl]
      exact week_d r w hr hin hN hT h y m d hd h0 hp
end Go.Proofs.YtigbbepgfofcoaaDoor
namespace Go.Proofs.YtigbbepgfofcoaaDoor
open Go.RowKit Civ
set_option linter.unusedVariables false

/-- the chapter's example: the last Friday of March -/
def exR (g : Nat) : Rl := ⟨0, 6, 1, 0, -1, fun i => if i = 0 then some ⟨g, 0, none⟩ else none, fun i => if i = 0 then 1 else 0, fun i => if i = 0 then [3] else [], some ⟨g + 1, 0, none⟩, 1, [(-1, 5)]⟩
def exO : Array Value := #[.int .i64 1, .bool true, .int .u64 0, .int .u64 0, .int .u64 0, .int .u64 0, .int .u64 0, .int .u64 2, .int .u64 0, .int .u64 0]
theorem ex_chk (g : Nat) : chkE (exR g) = 0 := rfl
theorem ex_full : fullC.wk = 254 := by decide +kernel
theorem ex_m (g : Nat) : wkM (exR g) = 254 := by
  have h : plnB (exR g).N = false := rfl
  have h0 : ¬ (exR g).N.length = 0 := by show ¬ (1 : Nat) = 0; decide
  unfold wkM
  rw [if_neg h0, h, if_neg (by simp), ex_full]
theorem mk_2 : mk (inL [1]) = 2 := by decide +kernel
theorem ex_o (g : Nat) : wkO (exR g) = exO := by
  have h : plnB (exR g).N = false := rfl
  have h0 : ¬ (exR g).N.length = 0 := by show ¬ (1 : Nat) = 0; decide
  have h1 : rdI (exR g) = 1 := rfl
  have hN : (exR g).N = [(-1, 5)] := rfl
  unfold wkO
  rw [if_neg h0, h, if_neg (by simp)]
  unfold rdV
  rw [h1, hN]
  have e : rdS [(-1, 5)] (false, fun _ => 0) = (true, updF (fun _ => 0) 5 (0 ||| mk (inL [1]))) := rfl
  rw [e, mk_2]
  rfl
set_option maxHeartbeats 1600000 in
set_option maxRecDepth 20000 in
theorem lives32_any (w : World) (hT : TabUn w) : Calls Tryd.prog 7 #[] w fun e w' => e = .returned (.bool true) ∧ Below w.heap.size w w' := by
  obtain ⟨W1, hW1⟩ : ∃ W1, (w.alloc (.cells #[.int .i64 3] 3)).alloc (.cells #[.int .i64 (-1), .int .i64 5] 29) = W1 := ⟨_, rfl⟩
  have HI := blk_more (blk_new w (.cells #[.int .i64 3] 3)) (.cells #[.int .i64 (-1), .int .i64 5] 29)
  have HN := blk_new (w.alloc (.cells #[.int .i64 3] 3)) (.cells #[.int .i64 (-1), .int .i64 5] 29)
  rw [World.size_alloc] at HN
  have HB1 := Lib.hid (show Below w.heap.size w ((w.alloc (.cells #[.int .i64 3] 3)).alloc (.cells #[.int .i64 (-1), .int .i64 5] 29)) from ((Below.refl _ _).alloc (Nat.le_refl _) _).alloc (by rw [World.size_alloc]; omega) _)
  rw [hW1] at HI HN HB1
  have hat : RlAt W1 (exR w.heap.size) := ⟨fun i hi => by
    by_cases h : i = 0
    · subst h
      exact fun j hj => by
        match j, hj with
        | 0, _ => exact ⟨_, 0, rfl, lt_of_block HI, blk_cell HI 0⟩
    · have e : (exR w.heap.size).Z i = [] := if_neg h
      rw [e]
      exact fun j hj => by simp at hj, fun k hk => by
    match k, hk with
    | 0, _ => exact ⟨w.heap.size + 1, 0, rfl, lt_of_block HN, blk_cell HN 0, blk_cell HN 1⟩⟩
  have hin : RlIn (exR w.heap.size) := ⟨by show I64 0; unfold I64; decide, by show I64 6; unfold I64; decide, by show I64 1; unfold I64; decide, by show I64 0; unfold I64; decide, by show I64 (-1); unfold I64; decide, fun i hi => by
    by_cases h : i = 0
    · subst h
      exact ⟨fun z hz => by
        have hz' : z ∈ [(3 : Int)] := hz
        rw [List.mem_singleton] at hz'
        subst hz'
        unfold I64
        decide, by show (1 : Nat) ≤ _; decide⟩
    · have e : (exR w.heap.size).Z i = [] := if_neg h
      rw [e]
      exact ⟨fun z hz => absurd hz List.not_mem_nil, by simp⟩, fun k hk => by
    match k, hk with
    | 0, _ => exact ⟨by show I64 (-1); unfold I64; decide, by show I64 5; unfold I64; decide⟩, by show (1 : Nat) ≤ _; decide⟩
  obtain ⟨y, m, d, hd⟩ := exists_date ((exR w.heap.size).start / 86400)
  have K := week_yes (exR w.heap.size) W1 hat hin (by show (1 : Nat) ≤ _; decide) (hT.bel HB1.out) (ex_chk _) y m d hd
  rw [ex_m, ex_o] at K
  have K' := Lib.hid (show Calls Tryd.prog 15 #[.agg #[.int .i64 0, .int .i64 6, .int .i64 1, .int .i64 0, .int .i64 (-1), .slice (some ⟨w.heap.size, 0, none⟩) 1 1, .slice none 0 0, .slice (some ⟨w.heap.size + 1, 0, none⟩) 1 1, .slice none 0 0, .slice none 0 0, .slice none 0 0]] W1 (fun e w' => e = .returned (.tuple #[.int .u64 254, .agg exO]) ∧ Below W1.heap.size W1 w') from K)
  unfold exO at K'
  have HW := Lib.hid hW1
  clear K HI HN hat hin hd hW1 hT
  go_enter Tryd.func7, Tryd.ntmps7
  go_wp2_with (first | (refine wpList_buildIs #[.int .i64 (-1), .int .i64 5] rfl 29 _ rfl (by kernel_rfl) ?_) | (refine wpList_buildIs #[.int .i64 0, .int .i64 6, .int .i64 1, .int .i64 0, .int .i64 (-1), .slice (some ⟨w.heap.size, 0, none⟩) 1 1, .slice none 0 0, .slice (some ⟨w.heap.size + 1, 0, none⟩) 1 1, .slice none 0 0, .slice none 0 0, .slice none 0 0] rfl 25 _ rfl (by kernel_rfl) ?_) | fail)
  rw [HW.out]
  refine K'.out.mono ?_
  rintro e w2 ⟨rfl, hb⟩
  have HB2 := Lib.hid ((HB1.out.trans (hb.mono HB1.out.size)).alloc (HB1.out.trans (hb.mono HB1.out.size)).size (.cells #[.int .i64 1, .bool true, .int .u64 0, .int .u64 0, .int .u64 0, .int .u64 0, .int .u64 0, .int .u64 2, .int .u64 0, .int .u64 0] 41))
  clear hb K' HW
  go_wp2_with (refine wpList_storeNew #[.int .i64 1, .bool true, .int .u64 0, .int .u64 0, .int .u64 0, .int .u64 0, .int .u64 0, .int .u64 2, .int .u64 0, .int .u64 0] rfl _ _ _ rfl rfl rfl (by kernel_rfl) rfl (by simp [Value.oneCell']) ?_)
  go_ret
  exact ⟨rfl, HB2.out⟩
end Go.Proofs.YtigbbepgfofcoaaDoor
