/- The document's stamp of an instant, by itself (layer 8). The stamp of a rule's start: rule.begun (layer 32). -/
import Derived.Test.YtigbbepgfofcoaaDoorRefCivil
import Derived.Test.YtigbbepgfofcoaaDoorMoment
import Derived.BigQuiet
import Derived.Test.YtigbbepgfofcoaaDoorRlK
import Derived.Test.YtigbbepgfofcoaaDoorMomentB
import Derived.Test.YtigbbepgfofcoaaDoorShA
namespace Go.Proofs.YtigbbepgfofcoaaDoor
open Go.RowKit Civ

theorem rstp_yes (t y m d hh hm hs : Int) (w : World) (h1 : 0 ≤ t) (h2 : t < 12622780800) (hd : IsDate (t / 86400) y m d) (hy : 0 ≤ y) (hy2 : y ≤ 9999)
    (eh : t % 86400 / 3600 = hh) (em : t % 3600 / 60 = hm) (es : t % 60 = hs) :
    Calls Tryd.prog 78 #[.int .i64 t] w fun e w' => e = .returned (.agg #[.int .i64 y, .int .i64 m, .int .i64 d, .int .i64 hh, .int .i64 hm, .int .i64 hs]) ∧ Below w.heap.size w w' := by
  have k1 := fun w => rdate_near (t / 86400) y m d w hd (by omega) (by omega)
  rw [dateV_yes (by omega) (by omega)] at k1
  clear hd
  go_enter Tryd.func78, Tryd.ntmps78
  go_wp2_with fail
  refine (k1 _).mono ?_
  rintro e w1 ⟨rfl, rfl⟩
  go_wp2
  refine bodyPost_ret (v := .agg #[.int .i64 y, .int .i64 m, .int .i64 d, .int .i64 hh, .int .i64 hm, .int .i64 hs]) (by simp [results, Tryd.results78, go_sem]) rfl ⟨rfl, below_a1 _ _⟩
end Go.Proofs.YtigbbepgfofcoaaDoor
namespace Go.Proofs.YtigbbepgfofcoaaDoor
open Go.RowKit Civ
set_option linter.unusedVariables false

theorem chk_start (r : Rl) (h : chkE r = 0) : 0 ≤ r.start ∧ r.start < 12622780800 := by
  unfold chkE numB inWn at h
  by_cases h1 : 0 ≤ r.start
  · by_cases h2 : r.start < 12622780800
    · exact ⟨h1, h2⟩
    · rw [dec_n h2] at h; simp at h
  · rw [dec_n h1] at h; simp at h
theorem results6b {fn : Func} {p u : Tmp} {tmps : Array Value} {w : World} {g : Nat} {cs : Array Value} {v : Value} (h : fn.results = #[.cell p 69, .tmp u]) (hp : tmps.getD p undef = .pointer (some ⟨g, 0, none⟩)) (hg : w.heap[g]? = some (.cells cs 69 (0, 0))) (hv : tmps.getD u undef = v) (hc : (Tryd.prog.info? 69).map (·.size) = some cs.size := by kernel_rfl) : (results fn tmps).run Tryd.prog w = .ok (.tuple #[.agg cs, v]) w := by
  have hp' : tmps[p]?.getD undef = .pointer (some ⟨g, 0, none⟩) := by simpa using hp
  have hv' : tmps[u]?.getD undef = v := by simpa using hv
  simp [results, h, hp', hv', asAddr, run_loadVar_row w g _ _ cs (0, 0) _ hg Tryd.underlying69 rfl hc]
set_option maxHeartbeats 1600000 in
set_option maxRecDepth 20000 in
theorem begun_no (r : Rl) (w : World) (hr : RlAt w r) (hin : RlIn r) (hN : r.N.length ≤ 100000) (hT : TabUn w) (h : chkE r ≠ 0) :
    Calls Tryd.prog 65 #[rlV r] w fun e w' => e = .returned (.tuple #[.agg #[.int .i64 0, .int .i64 0, .int .i64 0, .int .i64 0, .int .i64 0, .int .i64 0], .bool false]) ∧ Below w.heap.size w w' := by
  have HG0 := Lib.hid (blk_more (blk_new w (.cells (rlC r) 25)) (.cells #[.int .i64 0, .int .i64 0, .int .i64 0, .int .i64 0, .int .i64 0, .int .i64 0] 69))
  have HB0 := Lib.hid (show Below w.heap.size w ((w.alloc (.cells (rlC r) 25)).alloc (.cells #[.int .i64 0, .int .i64 0, .int .i64 0, .int .i64 0, .int .i64 0, .int .i64 0] 69)) from ((Below.refl _ _).alloc (Nat.le_refl _) _).alloc (by rw [World.size_alloc]; omega) _)
  have HZ0 := Lib.hid (show ((w.alloc (.cells (rlC r) 25)).alloc (.cells #[.int .i64 0, .int .i64 0, .int .i64 0, .int .i64 0, .int .i64 0, .int .i64 0] 69)).heap[w.heap.size + 1]? = some (.cells #[.int .i64 0, .int .i64 0, .int .i64 0, .int .i64 0, .int .i64 0, .int .i64 0] 69 (0, 0)) from by
    have q := blk_new (w.alloc (.cells (rlC r) 25)) (.cells #[.int .i64 0, .int .i64 0, .int .i64 0, .int .i64 0, .int .i64 0, .int .i64 0] 69)
    rw [World.size_alloc] at q
    exact q)
  have K := check32_any r ((w.alloc (.cells (rlC r) 25)).alloc (.cells #[.int .i64 0, .int .i64 0, .int .i64 0, .int .i64 0, .int .i64 0, .int .i64 0] 69)) (hr.below HB0.out) hin hN (hT.bel HB0.out)
  obtain ⟨W0, hW0⟩ : ∃ W0, (w.alloc (.cells (rlC r) 25)).alloc (.cells #[.int .i64 0, .int .i64 0, .int .i64 0, .int .i64 0, .int .i64 0, .int .i64 0] 69) = W0 := ⟨_, rfl⟩
  rw [hW0] at HG0 HB0 HZ0 K
  generalize chkE r = e0 at K h
  have e1 : (e0 != 0) = true := by simp [h]
  have e2 : (e0 == 0) = false := by rw [beq_eq_false_iff_ne]; exact h
  have x0 : W0.cell? ⟨w.heap.size, 0, none⟩ = some (.int .i64 r.start) := blk_cell HG0.out 0
  have x1 : W0.cell? ⟨w.heap.size, 1, none⟩ = some (.int .i64 r.freq) := blk_cell HG0.out 1
  have x2 : W0.cell? ⟨w.heap.size, 2, none⟩ = some (.int .i64 r.itv) := blk_cell HG0.out 2
  have x3 : W0.cell? ⟨w.heap.size, 3, none⟩ = some (.int .i64 r.cnt) := blk_cell HG0.out 3
  have x4 : W0.cell? ⟨w.heap.size, 4, none⟩ = some (.int .i64 r.unt) := blk_cell HG0.out 4
  have x5 : W0.cell? ⟨w.heap.size, 5, none⟩ = some (.slice (r.A 0) (r.Z 0).length (r.c 0)) := blk_cell HG0.out 5
  have x6 : W0.cell? ⟨w.heap.size, 6, none⟩ = some (.slice (r.A 1) (r.Z 1).length (r.c 1)) := blk_cell HG0.out 6
  have x7 : W0.cell? ⟨w.heap.size, 7, none⟩ = some (.slice r.AW r.N.length r.cw) := blk_cell HG0.out 7
  have x8 : W0.cell? ⟨w.heap.size, 8, none⟩ = some (.slice (r.A 2) (r.Z 2).length (r.c 2)) := blk_cell HG0.out 8
  have x9 : W0.cell? ⟨w.heap.size, 9, none⟩ = some (.slice (r.A 3) (r.Z 3).length (r.c 3)) := blk_cell HG0.out 9
  have x10 : W0.cell? ⟨w.heap.size, 10, none⟩ = some (.slice (r.A 4) (r.Z 4).length (r.c 4)) := blk_cell HG0.out 10
  have HW := Lib.hid hW0
  unfold rlV rlC at K ⊢
  unfold rlC at HW
  clear hr hin hN hT h hW0
  go_enter Tryd.func65, Tryd.ntmps65
  go_wp2_with fail
  try rw [HW.out]
  refine K.mono ?_
  rintro e w1 ⟨rfl, hb⟩
  have HB1 := Lib.hid (HB0.out.trans (hb.mono HB0.out.size))
  have HG1 := Lib.hid ((hb.block _ (lt_of_block HG0.out)).trans HG0.out)
  have HZ1 := Lib.hid ((hb.block _ (lt_of_block HZ0.out)).trans HZ0.out)
  clear hb K HW x0 x1 x2 x3 x4 x5 x6 x7 x8 x9 x10
  go_wp2_with (first | (refine wpList_buildIs #[.int .i64 0, .int .i64 0, .int .i64 0, .int .i64 0, .int .i64 0, .int .i64 0] rfl _ _ rfl (by kernel_rfl) ?_) | (refine wpList_storeRow HZ1.out #[.int .i64 0, .int .i64 0, .int .i64 0, .int .i64 0, .int .i64 0, .int .i64 0] rfl _ _ _ rfl rfl rfl (by kernel_rfl) rfl (by simp [Value.oneCell']) ?_))
  refine bodyPost_ret (results6b rfl rfl (row_set HZ1.out) rfl) rfl ⟨rfl, Below.but HB1.out (row_but _ _ _) (fun i hi hx => by omega)⟩
set_option maxHeartbeats 1600000 in
set_option maxRecDepth 20000 in
theorem begun_yes (r : Rl) (w : World) (hr : RlAt w r) (hin : RlIn r) (hN : r.N.length ≤ 100000) (hT : TabUn w) (h : chkE r = 0) (y m d : Int) (hd : IsDate (r.start / 86400) y m d) :
    Calls Tryd.prog 65 #[rlV r] w fun e w' => e = .returned (.tuple #[stampV y m d r.start, .bool true]) ∧ Below w.heap.size w w' := by
  obtain ⟨s1, s2⟩ := chk_start r h
  obtain ⟨y1, y2⟩ := year_bd hd (by omega) (by omega)
  have KS := Lib.hid (fun W => stamp_yes r.start y m d W s1 s2 hd (by omega) (by omega))
  have HG0 := Lib.hid (blk_more (blk_new w (.cells (rlC r) 25)) (.cells #[.int .i64 0, .int .i64 0, .int .i64 0, .int .i64 0, .int .i64 0, .int .i64 0] 69))
  have HB0 := Lib.hid (show Below w.heap.size w ((w.alloc (.cells (rlC r) 25)).alloc (.cells #[.int .i64 0, .int .i64 0, .int .i64 0, .int .i64 0, .int .i64 0, .int .i64 0] 69)) from ((Below.refl _ _).alloc (Nat.le_refl _) _).alloc (by rw [World.size_alloc]; omega) _)
  have HZ0 := Lib.hid (show ((w.alloc (.cells (rlC r) 25)).alloc (.cells #[.int .i64 0, .int .i64 0, .int .i64 0, .int .i64 0, .int .i64 0, .int .i64 0] 69)).heap[w.heap.size + 1]? = some (.cells #[.int .i64 0, .int .i64 0, .int .i64 0, .int .i64 0, .int .i64 0, .int .i64 0] 69 (0, 0)) from by
    have q := blk_new (w.alloc (.cells (rlC r) 25)) (.cells #[.int .i64 0, .int .i64 0, .int .i64 0, .int .i64 0, .int .i64 0, .int .i64 0] 69)
    rw [World.size_alloc] at q
    exact q)
  have K := check32_any r ((w.alloc (.cells (rlC r) 25)).alloc (.cells #[.int .i64 0, .int .i64 0, .int .i64 0, .int .i64 0, .int .i64 0, .int .i64 0] 69)) (hr.below HB0.out) hin hN (hT.bel HB0.out)
  obtain ⟨W0, hW0⟩ : ∃ W0, (w.alloc (.cells (rlC r) 25)).alloc (.cells #[.int .i64 0, .int .i64 0, .int .i64 0, .int .i64 0, .int .i64 0, .int .i64 0] 69) = W0 := ⟨_, rfl⟩
  rw [hW0] at HG0 HB0 HZ0 K
  rw [h] at K
  unfold stampV at KS ⊢
  have x0 : W0.cell? ⟨w.heap.size, 0, none⟩ = some (.int .i64 r.start) := blk_cell HG0.out 0
  have x1 : W0.cell? ⟨w.heap.size, 1, none⟩ = some (.int .i64 r.freq) := blk_cell HG0.out 1
  have x2 : W0.cell? ⟨w.heap.size, 2, none⟩ = some (.int .i64 r.itv) := blk_cell HG0.out 2
  have x3 : W0.cell? ⟨w.heap.size, 3, none⟩ = some (.int .i64 r.cnt) := blk_cell HG0.out 3
  have x4 : W0.cell? ⟨w.heap.size, 4, none⟩ = some (.int .i64 r.unt) := blk_cell HG0.out 4
  have x5 : W0.cell? ⟨w.heap.size, 5, none⟩ = some (.slice (r.A 0) (r.Z 0).length (r.c 0)) := blk_cell HG0.out 5
  have x6 : W0.cell? ⟨w.heap.size, 6, none⟩ = some (.slice (r.A 1) (r.Z 1).length (r.c 1)) := blk_cell HG0.out 6
  have x7 : W0.cell? ⟨w.heap.size, 7, none⟩ = some (.slice r.AW r.N.length r.cw) := blk_cell HG0.out 7
  have x8 : W0.cell? ⟨w.heap.size, 8, none⟩ = some (.slice (r.A 2) (r.Z 2).length (r.c 2)) := blk_cell HG0.out 8
  have x9 : W0.cell? ⟨w.heap.size, 9, none⟩ = some (.slice (r.A 3) (r.Z 3).length (r.c 3)) := blk_cell HG0.out 9
  have x10 : W0.cell? ⟨w.heap.size, 10, none⟩ = some (.slice (r.A 4) (r.Z 4).length (r.c 4)) := blk_cell HG0.out 10
  have HW := Lib.hid hW0
  unfold rlV rlC at K ⊢
  unfold rlC at HW
  clear hr hin hN hT h hW0 s1 s2 hd y1 y2
  go_enter Tryd.func65, Tryd.ntmps65
  go_wp2_with fail
  try rw [HW.out]
  refine K.mono ?_
  rintro e w1 ⟨rfl, hb⟩
  have HB1 := Lib.hid (HB0.out.trans (hb.mono HB0.out.size))
  have HG1 := Lib.hid ((hb.block _ (lt_of_block HG0.out)).trans HG0.out)
  have HZ1 := Lib.hid ((hb.block _ (lt_of_block HZ0.out)).trans HZ0.out)
  clear hb K HW x0 x1 x2 x3 x4 x5 x6 x7 x8 x9 x10
  have y0 : w1.cell? ⟨w.heap.size, 0, none⟩ = some (.int .i64 r.start) := blk_cell HG1.out 0
  go_wp2_with fail
  refine (KS.out _).mono ?_
  rintro e w2 ⟨rfl, hb2⟩
  have HB2 := Lib.hid (HB1.out.trans (hb2.mono HB1.out.size))
  have HZ2 := Lib.hid ((hb2.block _ (lt_of_block HZ1.out)).trans HZ1.out)
  clear hb2 y0
  go_wp2_with (refine wpList_storeRow HZ2.out #[.int .i64 y, .int .i64 m, .int .i64 d, .int .i64 (r.start % 86400 / 3600), .int .i64 (r.start % 86400 / 60 % 60), .int .i64 (r.start % 60)] rfl _ _ _ rfl rfl rfl (by kernel_rfl) rfl (by simp [Value.oneCell']) ?_)
  refine bodyPost_ret (results6b rfl rfl (row_set HZ2.out) rfl) rfl ⟨rfl, Below.but HB2.out (row_but _ _ _) (fun i hi hx => by omega)⟩
end Go.Proofs.YtigbbepgfofcoaaDoor
