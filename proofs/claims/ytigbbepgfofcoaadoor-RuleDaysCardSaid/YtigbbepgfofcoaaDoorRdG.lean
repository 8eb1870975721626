/- Has a day a rule's months, days and weekdays: feriaref32.Date (layer 32). Has a day an Ord: ferialaw32.ord (layer 32). A rule's days by its masks are its days by its words (layer 32): mathematics. The walk of RuleDays (layer 32). -/
import Derived.Test.YtigbbepgfofcoaaDoorRdC
import Derived.Test.YtigbbepgfofcoaaDoorRlN
namespace Go.Proofs.YtigbbepgfofcoaaDoor
open Go.RowKit Civ
set_option linter.unusedVariables false

def barB (r : Rl) : Bool := decide ((r.Z 1).length = 0) && decide (r.N.length = 0)
def monB (r : Rl) (x : Sx) (m : Int) : Bool := (decide ((r.Z 0).length = 0) && (decide (r.freq ≠ 6) || (!barB r || decide (x.m = m)))) || (r.Z 0).any (fun z => decide (z = x.m))
def domB (r : Rl) (x : Sx) (d : Int) : Bool := ((decide ((r.Z 1).length = 0) && (decide (r.freq < 5) || (!barB r || decide (x.d = d)))) || (r.Z 1).any (fun z => decide (z = x.d))) || (r.Z 1).any (fun z => decide (z = -x.b))
def datB (r : Rl) (x : Sx) (m d : Int) : Bool := monB r x m && (domB r x d && wkB r x)
set_option maxHeartbeats 6400000 in
set_option maxRecDepth 20000 in
theorem date32_any (r : Rl) (x : Sx) (w : World) (hr : RlAt w r) (hin : RlIn r) (hN : r.N.length ≤ 100000) (hx : SxIn x) (hs1 : 0 ≤ r.start) (hs2 : r.start < 12622780800) (y m d : Int) (hd : IsDate (r.start / 86400) y m d) :
    Calls Tryd.prog 19 #[rlV r, .agg (sxC x)] w fun e w' => e = .returned (.bool (datB r x m d)) ∧ Below w.heap.size w w' := by
  have HG1 := Lib.hid (blk_more (blk_new w (.cells (rlC r) 25)) (.cells (sxC x) 45))
  have HG2 := Lib.hid (show ((w.alloc (.cells (rlC r) 25)).alloc (.cells (sxC x) 45)).heap[w.heap.size + 1]? = some (.cells (sxC x) 45 (0, 0)) from by
    have q := blk_new (w.alloc (.cells (rlC r) 25)) (.cells (sxC x) 45)
    rw [World.size_alloc] at q
    exact q)
  have HB0 := Lib.hid (show Below w.heap.size w ((w.alloc (.cells (rlC r) 25)).alloc (.cells (sxC x) 45)) from ((Below.refl _ _).alloc (Nat.le_refl _) _).alloc (by rw [World.size_alloc]; omega) _)
  obtain ⟨W0, hW0⟩ : ∃ W0, (w.alloc (.cells (rlC r) 25)).alloc (.cells (sxC x) 45) = W0 := ⟨_, rfl⟩
  rw [hW0] at HG1 HG2 HB0
  have HR := Lib.hid (hr.below HB0.out)
  obtain ⟨yb1, yb2⟩ := year_bd hd (by omega) (by omega)
  have KS := Lib.hid (fun W => rstp_yes r.start y m d _ _ _ W hs1 hs2 hd (by omega) (by omega) rfl rfl rfl)
  have hL := hin.2.2.2.2.2.1
  have KH := fun j (hj : j < 5) v W (h : Ints .i64 W (r.A j) (r.Z j)) => rhas32_any v (r.A j) (r.c j) (r.Z j) W (hL j hj).2 h
  have KH0 := Lib.hid (fun W h => KH 0 (by decide) x.m W h)
  have KH1 := Lib.hid (fun W h => KH 1 (by decide) x.d W h)
  have KH2 := Lib.hid (fun W h => KH 1 (by decide) (-x.b) W h)
  have KW := Lib.hid (fun W h => week32_any r x W h hin hN hx hs1 hs2)
  obtain ⟨p0, hp0⟩ : ∃ b, decide ((r.Z 0).length = 0) = b := ⟨_, rfl⟩
  obtain ⟨p1, hp1⟩ : ∃ b, decide ((r.Z 1).length = 0) = b := ⟨_, rfl⟩
  obtain ⟨p3, hp3⟩ : ∃ b, decide (r.N.length = 0) = b := ⟨_, rfl⟩
  obtain ⟨q6, hq6⟩ : ∃ b, decide (r.freq ≠ 6) = b := ⟨_, rfl⟩
  obtain ⟨q5, hq5⟩ : ∃ b, decide (r.freq < 5) = b := ⟨_, rfl⟩
  obtain ⟨um, hum⟩ : ∃ b, decide (x.m = m) = b := ⟨_, rfl⟩
  obtain ⟨ud, hud⟩ : ∃ b, decide (x.d = d) = b := ⟨_, rfl⟩
  obtain ⟨d0, hd0⟩ : ∃ b, (r.Z 0).any (fun z => decide (z = x.m)) = b := ⟨_, rfl⟩
  obtain ⟨d1, hd1⟩ : ∃ b, (r.Z 1).any (fun z => decide (z = x.d)) = b := ⟨_, rfl⟩
  obtain ⟨d2, hd2⟩ : ∃ b, (r.Z 1).any (fun z => decide (z = -x.b)) = b := ⟨_, rfl⟩
  have HBA := Lib.hid (show barB r = (p1 && p3) by rw [← hp1, ← hp3]; rfl)
  have HMB := Lib.hid (show monB r x m = ((p0 && (q6 || (!barB r || um))) || d0) by rw [← hp0, ← hq6, ← hum, ← hd0]; rfl)
  have HDB := Lib.hid (show domB r x d = (((p1 && (q5 || (!barB r || ud))) || d1) || d2) by rw [← hp1, ← hq5, ← hud, ← hd1, ← hd2]; rfl)
  have HRE := Lib.hid (show datB r x m d = (monB r x m && (domB r x d && wkB r x)) from rfl)
  rw [hd0] at KH0
  rw [hd1] at KH1
  rw [hd2] at KH2
  generalize datB r x m d = res at HRE ⊢
  generalize monB r x m = M at HMB HRE
  generalize domB r x d = D at HDB HRE
  generalize barB r = ba at HBA HMB HDB
  generalize wkB r x = K at HRE KW
  have a0 : (((r.Z 0).length : Int) == 0) = p0 := by rw [← hp0, Bool.eq_iff_iff]; simp
  have a0n : ((r.Z 0).length == 0) = p0 := by rw [← hp0, Bool.eq_iff_iff]; simp
  have a1 : (((r.Z 1).length : Int) == 0) = p1 := by rw [← hp1, Bool.eq_iff_iff]; simp
  have a1n : ((r.Z 1).length == 0) = p1 := by rw [← hp1, Bool.eq_iff_iff]; simp
  have a3 : ((r.N.length : Int) == 0) = p3 := by rw [← hp3, Bool.eq_iff_iff]; simp
  have a3n : (r.N.length == 0) = p3 := by rw [← hp3, Bool.eq_iff_iff]; simp
  have a4 : (r.freq != 6) = q6 := by rw [← hq6, Bool.eq_iff_iff]; simp
  have a6 : (x.m == m) = um := by rw [← hum]; rfl
  have a7 : (x.d == d) = ud := by rw [← hud]; rfl
  obtain ⟨g1, g2, g3, g4, g5, g6, gr⟩ := hx
  have nb : IntKind.i64.wrap (-x.b) = -x.b := IntWalk.i64_in _ ⟨by omega, by omega⟩
  clear hp0 hp1 hp3 hq6 hum hud hd0 hd1 hd2 KH hL yb1 yb2 gr g1 g2 g3 g4 g5 g6
  have HW := Lib.hid hW0
  unfold rlV rlC sxC
  unfold rlC sxC at HW
  have y0 : W0.cell? ⟨w.heap.size, 0, none⟩ = some (.int .i64 r.start) := blk_cell HG1.out 0
  clear hr hin hN hs1 hs2 hd hW0
  go_enter Tryd.func19, Tryd.ntmps19
  go_upto_region 1 with fail
  rw [HW.out]
  clear HW
  go_wp2_with fail
  refine (KS.out _).mono ?_
  rintro e w1 ⟨rfl, hb⟩
  have HB1 := Lib.hid ((HB0.out.trans (hb.mono HB0.out.size)).alloc (HB0.out.trans (hb.mono HB0.out.size)).size (.cells #[.int .i64 y, .int .i64 m, .int .i64 d, .int .i64 (r.start % 86400 / 3600), .int .i64 (r.start % 3600 / 60), .int .i64 (r.start % 60)] 69))
  have HG3 := Lib.hid (blk_more ((hb.block _ (lt_of_block HG1.out)).trans HG1.out) (.cells #[.int .i64 y, .int .i64 m, .int .i64 d, .int .i64 (r.start % 86400 / 3600), .int .i64 (r.start % 3600 / 60), .int .i64 (r.start % 60)] 69))
  have HG4 := Lib.hid (blk_more ((hb.block _ (lt_of_block HG2.out)).trans HG2.out) (.cells #[.int .i64 y, .int .i64 m, .int .i64 d, .int .i64 (r.start % 86400 / 3600), .int .i64 (r.start % 3600 / 60), .int .i64 (r.start % 60)] 69))
  have HS1 := Lib.hid (blk_new w1 (.cells #[.int .i64 y, .int .i64 m, .int .i64 d, .int .i64 (r.start % 86400 / 3600), .int .i64 (r.start % 3600 / 60), .int .i64 (r.start % 60)] 69))
  have HR2 := Lib.hid ((HR.out.below hb).below ((Below.refl _ _).alloc (Nat.le_refl _) (.cells #[.int .i64 y, .int .i64 m, .int .i64 d, .int .i64 (r.start % 86400 / 3600), .int .i64 (r.start % 3600 / 60), .int .i64 (r.start % 60)] 69)))
  clear hb y0 HG1 HG2 HB0 HR KS
  go_upto_region 2 with (refine wpList_storeNew #[.int .i64 y, .int .i64 m, .int .i64 d, .int .i64 (r.start % 86400 / 3600), .int .i64 (r.start % 3600 / 60), .int .i64 (r.start % 60)] rfl _ _ _ rfl rfl rfl (by kernel_rfl) rfl (by simp [Value.oneCell']) ?_)
  try simp only [Act.put]
  generalize w1.heap.size = gs at HS1 ⊢
  generalize w1.alloc (.cells #[.int .i64 y, .int .i64 m, .int .i64 d, .int .i64 (r.start % 86400 / 3600), .int .i64 (r.start % 3600 / 60), .int .i64 (r.start % 60)] 69) = W2 at *
  have s1 : W2.cell? ⟨gs, 1, none⟩ = some (.int .i64 m) := blk_cell HS1.out 1
  have s2 : W2.cell? ⟨gs, 2, none⟩ = some (.int .i64 d) := blk_cell HS1.out 2
  have y0 : W2.cell? ⟨w.heap.size, 0, none⟩ = some (.int .i64 r.start) := blk_cell HG3.out 0
  have y1 : W2.cell? ⟨w.heap.size, 1, none⟩ = some (.int .i64 r.freq) := blk_cell HG3.out 1
  have y2 : W2.cell? ⟨w.heap.size, 2, none⟩ = some (.int .i64 r.itv) := blk_cell HG3.out 2
  have y3 : W2.cell? ⟨w.heap.size, 3, none⟩ = some (.int .i64 r.cnt) := blk_cell HG3.out 3
  have y4 : W2.cell? ⟨w.heap.size, 4, none⟩ = some (.int .i64 r.unt) := blk_cell HG3.out 4
  have y5 : W2.cell? ⟨w.heap.size, 5, none⟩ = some (.slice (r.A 0) (r.Z 0).length (r.c 0)) := blk_cell HG3.out 5
  have y6 : W2.cell? ⟨w.heap.size, 6, none⟩ = some (.slice (r.A 1) (r.Z 1).length (r.c 1)) := blk_cell HG3.out 6
  have y7 : W2.cell? ⟨w.heap.size, 7, none⟩ = some (.slice r.AW r.N.length r.cw) := blk_cell HG3.out 7
  have y8 : W2.cell? ⟨w.heap.size, 8, none⟩ = some (.slice (r.A 2) (r.Z 2).length (r.c 2)) := blk_cell HG3.out 8
  have y9 : W2.cell? ⟨w.heap.size, 9, none⟩ = some (.slice (r.A 3) (r.Z 3).length (r.c 3)) := blk_cell HG3.out 9
  have y10 : W2.cell? ⟨w.heap.size, 10, none⟩ = some (.slice (r.A 4) (r.Z 4).length (r.c 4)) := blk_cell HG3.out 10
  have sx0 : W2.cell? ⟨w.heap.size + 1, 0, none⟩ = some (.int .i64 x.n) := blk_cell HG4.out 0
  have sx1 : W2.cell? ⟨w.heap.size + 1, 1, none⟩ = some (.int .i64 x.y) := blk_cell HG4.out 1
  have sx2 : W2.cell? ⟨w.heap.size + 1, 2, none⟩ = some (.int .i64 x.m) := blk_cell HG4.out 2
  have sx3 : W2.cell? ⟨w.heap.size + 1, 3, none⟩ = some (.int .i64 x.d) := blk_cell HG4.out 3
  have sx4 : W2.cell? ⟨w.heap.size + 1, 4, none⟩ = some (.int .i64 x.b) := blk_cell HG4.out 4
  have sx5 : W2.cell? ⟨w.heap.size + 1, 5, none⟩ = some (.int .i64 x.k) := blk_cell HG4.out 5
  have sx6 : W2.cell? ⟨w.heap.size + 1, 6, none⟩ = some (.int .i64 x.im) := blk_cell HG4.out 6
  have sx7 : W2.cell? ⟨w.heap.size + 1, 7, none⟩ = some (.int .i64 x.om) := blk_cell HG4.out 7
  have sx8 : W2.cell? ⟨w.heap.size + 1, 8, none⟩ = some (.int .i64 x.iy) := blk_cell HG4.out 8
  have sx9 : W2.cell? ⟨w.heap.size + 1, 9, none⟩ = some (.int .i64 x.oy) := blk_cell HG4.out 9
  clear HS1
  go_cut [6] (fun s6 wx => s6 = .bool ba ∧ W2 = wx)
  case first =>
    cases p1
    · go_wp2_with fail
      go_meet
      exact ⟨by rw [HBA.out]; rfl, rfl⟩
    · go_wp2_with fail
      go_meet
      exact ⟨by rw [HBA.out]; rfl, rfl⟩
  case rest =>
  obtain ⟨rfl, rfl⟩ := hcut
  clear HBA
  go_upto_region 3 with fail
  go_cut [7] (fun s7 wx => s7 = .bool M ∧ W2 = wx)
  case first =>
    cases p0
    · go_wp2_with fail
      refine (KH0.out _ (HR2.out.1 0 (by decide))).mono ?_
      rintro e w4 ⟨rfl, rfl⟩
      go_wp2_with fail
      go_meet
      exact ⟨by rw [HMB.out]; cases d0 <;> rfl, rfl⟩
    · cases q6
      · cases ba
        · go_wp2_with fail
          go_meet
          exact ⟨by rw [HMB.out]; rfl, rfl⟩
        · cases um
          · go_wp2_with fail
            refine (KH0.out _ (HR2.out.1 0 (by decide))).mono ?_
            rintro e w4 ⟨rfl, rfl⟩
            go_wp2_with fail
            go_meet
            exact ⟨by rw [HMB.out]; cases d0 <;> rfl, rfl⟩
          · go_wp2_with fail
            go_meet
            exact ⟨by rw [HMB.out]; rfl, rfl⟩
      · go_wp2_with fail
        go_meet
        exact ⟨by rw [HMB.out]; rfl, rfl⟩
  case rest =>
  obtain ⟨rfl, rfl⟩ := hcut
  clear HMB a0 a0n a4 a6 KH0
  go_upto_region 4 with fail
  go_cut [8] (fun s8 wx => s8 = .bool D ∧ W2 = wx)
  case first =>
    cases p1
    · go_wp2_with fail
      refine (KH1.out _ (HR2.out.1 1 (by decide))).mono ?_
      rintro e w4 ⟨rfl, rfl⟩
      cases d1
      · go_wp2_with fail
        refine (KH2.out _ (HR2.out.1 1 (by decide))).mono ?_
        rintro e w4 ⟨rfl, rfl⟩
        go_wp2_with fail
        go_meet
        exact ⟨by rw [HDB.out]; cases d2 <;> rfl, rfl⟩
      · go_wp2_with fail
        go_meet
        exact ⟨by rw [HDB.out]; rfl, rfl⟩
    · cases q5
      · cases ba
        · go_wp2_with fail
          go_meet
          exact ⟨by rw [HDB.out]; rfl, rfl⟩
        · cases ud
          · go_wp2_with fail
            refine (KH1.out _ (HR2.out.1 1 (by decide))).mono ?_
            rintro e w4 ⟨rfl, rfl⟩
            cases d1
            · go_wp2_with fail
              refine (KH2.out _ (HR2.out.1 1 (by decide))).mono ?_
              rintro e w4 ⟨rfl, rfl⟩
              go_wp2_with fail
              go_meet
              exact ⟨by rw [HDB.out]; cases d2 <;> rfl, rfl⟩
            · go_wp2_with fail
              go_meet
              exact ⟨by rw [HDB.out]; rfl, rfl⟩
          · go_wp2_with fail
            go_meet
            exact ⟨by rw [HDB.out]; rfl, rfl⟩
      · go_wp2_with fail
        go_meet
        exact ⟨by rw [HDB.out]; rfl, rfl⟩
  case rest =>
  obtain ⟨rfl, rfl⟩ := hcut
  clear HDB a1 a1n a3 a3n a7 KH1 KH2 nb
  have HRR := HR2
  unfold rlV rlC sxC at KW
  cases M
  case false =>
    go_wp2_with fail
    go_ret
    exact ⟨by rw [HRE.out]; rfl, HB1.out⟩
  case true =>
  cases D
  case false =>
    go_wp2_with fail
    go_ret
    exact ⟨by rw [HRE.out]; rfl, HB1.out⟩
  case true =>
    go_wp2_with fail
    refine (KW.out _ HRR.out).mono ?_
    rintro e w5 ⟨rfl, hb⟩
    have HBE := Lib.hid (HB1.out.trans (hb.mono HB1.out.size))
    clear hb
    go_wp2_with fail
    go_ret
    exact ⟨by rw [HRE.out]; rfl, HBE.out⟩
end Go.Proofs.YtigbbepgfofcoaaDoor
namespace Go.Proofs.YtigbbepgfofcoaaDoor
open Go.RowKit Civ
set_option linter.unusedVariables false

def rdoB (i : Int) (b : Bool) (D : Nat → Nat) (x : Sx) : Bool := if i = 0 then true else inM (D x.k.toNat) (if b = true then (if i = 1 then x.om else x.oy) else (if i = 1 then x.im else x.iy))
set_option maxHeartbeats 3200000 in
set_option maxRecDepth 20000 in
theorem ord32_0 (D : Nat → Nat) (b : Bool) (x : Sx) (w : World) (hD : ∀ j, j < 8 → D j < 18446744073709551616) (hx : SxIn x) :
    Calls Tryd.prog 18 #[.agg (rdC 0 b D), .agg (sxC x)] w fun e w' => e = .returned (.bool (true)) ∧ Below w.heap.size w w' := by
  have HG1 := Lib.hid (blk_more (blk_new w (.cells (rdC 0 b D) 41)) (.cells (sxC x) 45))
  have HG2 := Lib.hid (show ((w.alloc (.cells (rdC 0 b D) 41)).alloc (.cells (sxC x) 45)).heap[w.heap.size + 1]? = some (.cells (sxC x) 45 (0, 0)) from by
    have q := blk_new (w.alloc (.cells (rdC 0 b D) 41)) (.cells (sxC x) 45)
    rw [World.size_alloc] at q
    exact q)
  have HB0 := Lib.hid (show Below w.heap.size w ((w.alloc (.cells (rdC 0 b D) 41)).alloc (.cells (sxC x) 45)) from ((Below.refl _ _).alloc (Nat.le_refl _) _).alloc (by rw [World.size_alloc]; omega) _)
  have hsz : ((w.alloc (.cells (rdC 0 b D) 41)).alloc (.cells (sxC x) 45)).heap.size = w.heap.size + 1 + 1 := by rw [World.size_alloc, World.size_alloc]
  obtain ⟨W0, hW0⟩ : ∃ W0, (w.alloc (.cells (rdC 0 b D) 41)).alloc (.cells (sxC x) 45) = W0 := ⟨_, rfl⟩
  rw [hW0] at HG1 HG2 HB0 hsz
  have HSZ := Lib.hid hsz
  have HW := Lib.hid hW0
  unfold rdC sxC
  unfold rdC sxC at HW
  have sx6 : W0.cell? ⟨w.heap.size + 1, 6, none⟩ = some (.int .i64 x.im) := blk_cell HG2.out 6
  have sx7 : W0.cell? ⟨w.heap.size + 1, 7, none⟩ = some (.int .i64 x.om) := blk_cell HG2.out 7
  have sx8 : W0.cell? ⟨w.heap.size + 1, 8, none⟩ = some (.int .i64 x.iy) := blk_cell HG2.out 8
  have sx9 : W0.cell? ⟨w.heap.size + 1, 9, none⟩ = some (.int .i64 x.oy) := blk_cell HG2.out 9
  clear hD hx hW0 hsz
  go_enter Tryd.func18, Tryd.ntmps18
  go_upto_region 1 with fail
  rw [HW.out]
  clear HW
  go_upto_region 2 with fail
  have HN := Lib.hid (show (W0.alloc (.cells #[.int .i64 x.im, .int .i64 x.om, .int .i64 x.iy, .int .i64 x.oy] 3)).heap[w.heap.size + 1 + 1]? = some (.cells #[.int .i64 x.im, .int .i64 x.om, .int .i64 x.iy, .int .i64 x.oy] 3 (0, 0)) from by have q := blk_new W0 (.cells #[.int .i64 x.im, .int .i64 x.om, .int .i64 x.iy, .int .i64 x.oy] 3); rw [HSZ.out] at q; exact q)
  have HB1 := Lib.hid (HB0.out.alloc HB0.out.size (.cells #[.int .i64 x.im, .int .i64 x.om, .int .i64 x.iy, .int .i64 x.oy] 3))
  have HG3 := Lib.hid (blk_more HG1.out (.cells #[.int .i64 x.im, .int .i64 x.om, .int .i64 x.iy, .int .i64 x.oy] 3))
  have HG4 := Lib.hid (blk_more HG2.out (.cells #[.int .i64 x.im, .int .i64 x.om, .int .i64 x.iy, .int .i64 x.oy] 3))
  have hz := HSZ.out
  try rw [hz]
  clear hz HSZ HG1 HG2 HB0 sx6 sx7 sx8 sx9
  generalize W0.alloc (.cells #[.int .i64 x.im, .int .i64 x.om, .int .i64 x.iy, .int .i64 x.oy] 3) = W1 at *
  have y0 : W1.cell? ⟨w.heap.size, 0, none⟩ = some (.int .i64 0) := blk_cell HG3.out 0
  go_wp2_with fail
  go_ret
  exact ⟨rfl, HB1.out⟩
set_option maxHeartbeats 3200000 in
set_option maxRecDepth 20000 in
theorem ord32_1f (D : Nat → Nat) (x : Sx) (w : World) (hD : ∀ j, j < 8 → D j < 18446744073709551616) (hx : SxIn x) :
    Calls Tryd.prog 18 #[.agg (rdC 1 false D), .agg (sxC x)] w fun e w' => e = .returned (.bool (inM (D x.k.toNat) x.im)) ∧ Below w.heap.size w w' := by
  have HG1 := Lib.hid (blk_more (blk_new w (.cells (rdC 1 false D) 41)) (.cells (sxC x) 45))
  have HG2 := Lib.hid (show ((w.alloc (.cells (rdC 1 false D) 41)).alloc (.cells (sxC x) 45)).heap[w.heap.size + 1]? = some (.cells (sxC x) 45 (0, 0)) from by
    have q := blk_new (w.alloc (.cells (rdC 1 false D) 41)) (.cells (sxC x) 45)
    rw [World.size_alloc] at q
    exact q)
  have HB0 := Lib.hid (show Below w.heap.size w ((w.alloc (.cells (rdC 1 false D) 41)).alloc (.cells (sxC x) 45)) from ((Below.refl _ _).alloc (Nat.le_refl _) _).alloc (by rw [World.size_alloc]; omega) _)
  have hsz : ((w.alloc (.cells (rdC 1 false D) 41)).alloc (.cells (sxC x) 45)).heap.size = w.heap.size + 1 + 1 := by rw [World.size_alloc, World.size_alloc]
  obtain ⟨W0, hW0⟩ : ∃ W0, (w.alloc (.cells (rdC 1 false D) 41)).alloc (.cells (sxC x) 45) = W0 := ⟨_, rfl⟩
  rw [hW0] at HG1 HG2 HB0 hsz
  have HSZ := Lib.hid hsz
  obtain ⟨kn, hkn⟩ : ∃ kn : Nat, x.k = (kn : Int) := ⟨x.k.toNat, by unfold SxIn at hx; omega⟩
  have hk1 : kn < 8 := by unfold SxIn at hx; omega
  have hk2 : x.k.toNat = kn := by rw [hkn]; rfl
  rw [hk2]
  have HKN := Lib.hid hkn
  have KH := Lib.hid (fun W => rhas_any (D kn) x.im W (hD kn hk1))
  generalize inM (D kn) x.im = res at KH ⊢
  have i0 : (0 : Int) ≤ (kn : Int) := by omega
  have i1 : (kn : Int) < 8 := by omega
  have HW := Lib.hid hW0
  unfold rdC sxC
  unfold rdC sxC at HW
  have sx6 : W0.cell? ⟨w.heap.size + 1, 6, none⟩ = some (.int .i64 x.im) := blk_cell HG2.out 6
  have sx7 : W0.cell? ⟨w.heap.size + 1, 7, none⟩ = some (.int .i64 x.om) := blk_cell HG2.out 7
  have sx8 : W0.cell? ⟨w.heap.size + 1, 8, none⟩ = some (.int .i64 x.iy) := blk_cell HG2.out 8
  have sx9 : W0.cell? ⟨w.heap.size + 1, 9, none⟩ = some (.int .i64 x.oy) := blk_cell HG2.out 9
  clear hD hx hW0 hsz hk2 hkn
  go_enter Tryd.func18, Tryd.ntmps18
  go_upto_region 1 with fail
  rw [HW.out]
  clear HW
  go_upto_region 2 with fail
  have HN := Lib.hid (show (W0.alloc (.cells #[.int .i64 x.im, .int .i64 x.om, .int .i64 x.iy, .int .i64 x.oy] 3)).heap[w.heap.size + 1 + 1]? = some (.cells #[.int .i64 x.im, .int .i64 x.om, .int .i64 x.iy, .int .i64 x.oy] 3 (0, 0)) from by have q := blk_new W0 (.cells #[.int .i64 x.im, .int .i64 x.om, .int .i64 x.iy, .int .i64 x.oy] 3); rw [HSZ.out] at q; exact q)
  have HB1 := Lib.hid (HB0.out.alloc HB0.out.size (.cells #[.int .i64 x.im, .int .i64 x.om, .int .i64 x.iy, .int .i64 x.oy] 3))
  have HG3 := Lib.hid (blk_more HG1.out (.cells #[.int .i64 x.im, .int .i64 x.om, .int .i64 x.iy, .int .i64 x.oy] 3))
  have HG4 := Lib.hid (blk_more HG2.out (.cells #[.int .i64 x.im, .int .i64 x.om, .int .i64 x.iy, .int .i64 x.oy] 3))
  have hz := HSZ.out
  try rw [hz]
  clear hz HSZ HG1 HG2 HB0 sx6 sx7 sx8 sx9
  generalize W0.alloc (.cells #[.int .i64 x.im, .int .i64 x.om, .int .i64 x.iy, .int .i64 x.oy] 3) = W1 at *
  have y0 : W1.cell? ⟨w.heap.size, 0, none⟩ = some (.int .i64 1) := blk_cell HG3.out 0
  have y1 : W1.cell? ⟨w.heap.size, 1, none⟩ = some (.bool false) := blk_cell HG3.out 1
  have y2 : W1.cell? ⟨w.heap.size, 2 + kn, none⟩ = some (.int .u64 (D kn : Nat)) := (blk_cell HG3.out (2 + kn)).trans (rdC_get _ _ D kn hk1)
  have z5 : W1.cell? ⟨w.heap.size + 1, 5, none⟩ = some (.int .i64 (kn : Int)) := (blk_cell HG4.out 5).trans (by rw [← HKN.out]; rfl)
  have zv : W1.cell? ⟨w.heap.size + 1 + 1, 0, none⟩ = some (.int .i64 x.im) := blk_cell HN.out 0
  clear HG3 HG4 HN hk1
  go_upto_region 7 with fail
  refine wp_region_held_drew (S := fun X => Below W1.heap.size W1 X ∧ X.cell? ⟨w.heap.size, 2 + kn, none⟩ = some (.int .u64 (D kn : Nat)) ∧ X.cell? ⟨w.heap.size + 1, 5, none⟩ = some (.int .i64 (kn : Int)) ∧ X.cell? ⟨w.heap.size + 1 + 1, 0, none⟩ = some (.int .i64 x.im)) (by kernel_rfl) ⟨(Below.refl _ _).drew, y2, z5, zv⟩ (fun hHeld => ?_)
  refine heldVal (v := ?v1) 0 rfl rfl (by kernel_rfl) (by kernel_rfl) (by kernel_rfl) (fun _ _ _ h => h) (by rfl) (fun w hSw => ?hy1) (by assumption) ?_
  case hy1 => ((try dsimp only at hSw); go_simp; (try with_reducible rfl))
  try simp only [Act.put, List.setIfInBounds_toArray, List.set_cons_zero, List.set_cons_succ]
  refine heldVal (v := ?v2) 1 rfl rfl (by kernel_rfl) (by kernel_rfl) (by kernel_rfl) (fun _ _ _ h => h) (by rfl) (fun w hSw => ?hy2) (by assumption) ?_
  case hy2 => ((try dsimp only at hSw); go_simp; (try with_reducible rfl))
  try simp only [Act.put, List.setIfInBounds_toArray, List.set_cons_zero, List.set_cons_succ]
  refine heldVal (v := ?v3) 2 rfl rfl (by kernel_rfl) (by kernel_rfl) (by kernel_rfl) (fun _ _ _ h => h) (by rfl) (fun w hSw => ?hy3) (by assumption) ?_
  case hy3 => ((try dsimp only at hSw); go_simp; (try with_reducible rfl))
  try simp only [Act.put, List.setIfInBounds_toArray, List.set_cons_zero, List.set_cons_succ]
  refine heldVal (v := ?v4) 3 rfl rfl (by kernel_rfl) (by kernel_rfl) (by kernel_rfl) (fun _ _ _ h => h) (by rfl) (fun w hSw => ?hy4) (by assumption) ?_
  case hy4 => ((try dsimp only at hSw); go_simp; (try with_reducible rfl))
  try simp only [Act.put, List.setIfInBounds_toArray, List.set_cons_zero, List.set_cons_succ]
  refine heldVal (v := ?v5) 4 rfl rfl (by kernel_rfl) (by kernel_rfl) (by kernel_rfl) (fun _ _ _ h => h) (by rfl) (fun w hSw => ?hy5) (by assumption) ?_
  case hy5 => ((try dsimp only at hSw); go_simp; (try with_reducible rfl))
  try simp only [Act.put, List.setIfInBounds_toArray, List.set_cons_zero, List.set_cons_succ]
  refine heldVal (v := ?v6) 5 rfl rfl (by kernel_rfl) (by kernel_rfl) (by kernel_rfl) (fun _ _ _ h => h) (by rfl) (fun w hSw => ?hy6) (by assumption) ?_
  case hy6 => ((try dsimp only at hSw); go_simp; (try with_reducible rfl))
  try simp only [Act.put, List.setIfInBounds_toArray, List.set_cons_zero, List.set_cons_succ]
  refine heldVal (v := ?v7) 6 rfl rfl (by kernel_rfl) (by kernel_rfl) (by kernel_rfl) (fun _ _ _ h => h) (by rfl) (fun w hSw => ?hy7) (by assumption) ?_
  case hy7 => ((try dsimp only at hSw); go_simp; (try with_reducible rfl))
  try simp only [Act.put, List.setIfInBounds_toArray, List.set_cons_zero, List.set_cons_succ]
  refine heldVal (v := ?v8) 7 rfl rfl (by kernel_rfl) (by kernel_rfl) (by kernel_rfl) (fun _ _ _ h => h) (by rfl) (fun w hSw => ?hy8) (by assumption) ?_
  case hy8 => ((try dsimp only at hSw); go_simp; (try with_reducible rfl))
  try simp only [Act.put, List.setIfInBounds_toArray, List.set_cons_zero, List.set_cons_succ]
  refine heldVal (v := ?v9) 8 rfl rfl (by kernel_rfl) (by kernel_rfl) (by kernel_rfl) (fun _ _ _ h => h) (by rfl) (fun w hSw => ?hy9) (by assumption) ?_
  case hy9 => ((try dsimp only at hSw); go_simp; (try with_reducible rfl))
  try simp only [Act.put, List.setIfInBounds_toArray, List.set_cons_zero, List.set_cons_succ]
  refine heldVal (v := ?v10) 9 rfl rfl (by kernel_rfl) (by kernel_rfl) (by kernel_rfl) (fun _ _ _ h => h) (by rfl) (fun w hSw => ?hy10) (by assumption) ?_
  case hy10 => ((try dsimp only at hSw); go_simp; (try with_reducible rfl))
  try simp only [Act.put, List.setIfInBounds_toArray, List.set_cons_zero, List.set_cons_succ]
  refine heldVal (v := ?v11) 10 rfl rfl (by kernel_rfl) (by kernel_rfl) (by kernel_rfl) (fun _ _ _ h => h) (by rfl) (fun w hSw => ?hy11) (by assumption) ?_
  case hy11 => ((try dsimp only at hSw); go_simp; (try with_reducible rfl))
  try simp only [Act.put, List.setIfInBounds_toArray, List.set_cons_zero, List.set_cons_succ]
  refine heldVal (v := ?v12) 11 rfl rfl (by kernel_rfl) (by kernel_rfl) (by kernel_rfl) (fun _ _ _ h => h) (by rfl) (fun w hSw => ?hy12) (by assumption) ?_
  case hy12 => ((try dsimp only at hSw); go_simp; (try with_reducible rfl))
  try simp only [Act.put, List.setIfInBounds_toArray, List.set_cons_zero, List.set_cons_succ]
  refine heldVal (v := ?v13) 12 rfl rfl (by kernel_rfl) (by kernel_rfl) (by kernel_rfl) (fun _ _ _ h => h) (by rfl) (fun w hSw => ?hy13) (by assumption) ?_
  case hy13 => ((try dsimp only at hSw); go_simp; (try with_reducible rfl))
  try simp only [Act.put, List.setIfInBounds_toArray, List.set_cons_zero, List.set_cons_succ]
  refine heldVal (v := ?v14) 13 rfl rfl (by kernel_rfl) (by kernel_rfl) (by kernel_rfl) (fun _ _ _ h => h) (by rfl) (fun w hSw => ?hy14) (by assumption) ?_
  case hy14 => ((try dsimp only at hSw); go_simp; (try with_reducible rfl))
  try simp only [Act.put, List.setIfInBounds_toArray, List.set_cons_zero, List.set_cons_succ]
  refine heldVal (v := ?v15) 14 rfl rfl (by kernel_rfl) (by kernel_rfl) (by kernel_rfl) (fun _ _ _ h => h) (by rfl) (fun w hSw => ?hy15) (by assumption) ?_
  case hy15 => ((try dsimp only at hSw); go_simp; (try with_reducible rfl))
  try simp only [Act.put, List.setIfInBounds_toArray, List.set_cons_zero, List.set_cons_succ]
  refine heldVal (v := ?v16) 15 rfl rfl (by kernel_rfl) (by kernel_rfl) (by kernel_rfl) (fun _ _ _ h => h) (by rfl) (fun w hSw => ?hy16) (by assumption) ?_
  case hy16 => ((try dsimp only at hSw); go_simp; (try with_reducible rfl))
  try simp only [Act.put, List.setIfInBounds_toArray, List.set_cons_zero, List.set_cons_succ]
  refine heldVal (v := ?v17) 16 rfl rfl (by kernel_rfl) (by kernel_rfl) (by kernel_rfl) (fun _ _ _ h => h) (by rfl) (fun w hSw => ?hy17) (by assumption) ?_
  case hy17 => ((try dsimp only at hSw); go_simp; (try with_reducible rfl))
  try simp only [Act.put, List.setIfInBounds_toArray, List.set_cons_zero, List.set_cons_succ]
  refine heldVal (v := ?v18) 17 rfl rfl (by kernel_rfl) (by kernel_rfl) (by kernel_rfl) (fun _ _ _ h => h) (by rfl) (fun w hSw => ?hy18) (by assumption) ?_
  case hy18 => ((try dsimp only at hSw); go_simp; (try with_reducible rfl))
  try simp only [Act.put, List.setIfInBounds_toArray, List.set_cons_zero, List.set_cons_succ]
  refine heldCall 18 rfl rfl (by kernel_rfl) (by rfl) (fun K hK => ?_)
  go_simp
  go_at_call 17
  refine (KH.out _).mono ?_
  rintro e v1 ⟨rfl, rfl⟩
  go_wp2_with fail
  refine hK.out _ _ ?hS (fun hHeld => ?_)
  case hS => (exact hHeld)
  clear hK K
  try simp only [Act.put, List.setIfInBounds_toArray, List.set_cons_zero, List.set_cons_succ]
  refine heldVal (v := ?v19) 19 rfl rfl (by kernel_rfl) (by kernel_rfl) (by kernel_rfl) (fun _ _ _ h => h) (by rfl) (fun w hSw => ?hy19) (by assumption) ?_
  case hy19 => ((try dsimp only at hSw); go_simp; (try with_reducible rfl))
  try simp only [Act.put, List.setIfInBounds_toArray, List.set_cons_zero, List.set_cons_succ]
  refine heldVal (v := ?v20) 20 rfl rfl (by kernel_rfl) (by kernel_rfl) (by kernel_rfl) (fun _ _ _ h => h) (by rfl) (fun w hSw => ?hy20) (by assumption) ?_
  case hy20 => ((try dsimp only at hSw); go_simp; (try with_reducible rfl))
  try simp only [Act.put, List.setIfInBounds_toArray, List.set_cons_zero, List.set_cons_succ]
  refine wpAnyH_done (by kernel_rfl) ?_ _
  go_wp2_with fail
  go_ret
  exact ⟨rfl, HB1.out.trans (hHeld.1.mono HB1.out.size)⟩
set_option maxHeartbeats 3200000 in
set_option maxRecDepth 20000 in
theorem ord32_1t (D : Nat → Nat) (x : Sx) (w : World) (hD : ∀ j, j < 8 → D j < 18446744073709551616) (hx : SxIn x) :
    Calls Tryd.prog 18 #[.agg (rdC 1 true D), .agg (sxC x)] w fun e w' => e = .returned (.bool (inM (D x.k.toNat) x.om)) ∧ Below w.heap.size w w' := by
  have HG1 := Lib.hid (blk_more (blk_new w (.cells (rdC 1 true D) 41)) (.cells (sxC x) 45))
  have HG2 := Lib.hid (show ((w.alloc (.cells (rdC 1 true D) 41)).alloc (.cells (sxC x) 45)).heap[w.heap.size + 1]? = some (.cells (sxC x) 45 (0, 0)) from by
    have q := blk_new (w.alloc (.cells (rdC 1 true D) 41)) (.cells (sxC x) 45)
    rw [World.size_alloc] at q
    exact q)
  have HB0 := Lib.hid (show Below w.heap.size w ((w.alloc (.cells (rdC 1 true D) 41)).alloc (.cells (sxC x) 45)) from ((Below.refl _ _).alloc (Nat.le_refl _) _).alloc (by rw [World.size_alloc]; omega) _)
  have hsz : ((w.alloc (.cells (rdC 1 true D) 41)).alloc (.cells (sxC x) 45)).heap.size = w.heap.size + 1 + 1 := by rw [World.size_alloc, World.size_alloc]
  obtain ⟨W0, hW0⟩ : ∃ W0, (w.alloc (.cells (rdC 1 true D) 41)).alloc (.cells (sxC x) 45) = W0 := ⟨_, rfl⟩
  rw [hW0] at HG1 HG2 HB0 hsz
  have HSZ := Lib.hid hsz
  obtain ⟨kn, hkn⟩ : ∃ kn : Nat, x.k = (kn : Int) := ⟨x.k.toNat, by unfold SxIn at hx; omega⟩
  have hk1 : kn < 8 := by unfold SxIn at hx; omega
  have hk2 : x.k.toNat = kn := by rw [hkn]; rfl
  rw [hk2]
  have HKN := Lib.hid hkn
  have KH := Lib.hid (fun W => rhas_any (D kn) x.om W (hD kn hk1))
  generalize inM (D kn) x.om = res at KH ⊢
  have i0 : (0 : Int) ≤ (kn : Int) := by omega
  have i1 : (kn : Int) < 8 := by omega
  have HW := Lib.hid hW0
  unfold rdC sxC
  unfold rdC sxC at HW
  have sx6 : W0.cell? ⟨w.heap.size + 1, 6, none⟩ = some (.int .i64 x.im) := blk_cell HG2.out 6
  have sx7 : W0.cell? ⟨w.heap.size + 1, 7, none⟩ = some (.int .i64 x.om) := blk_cell HG2.out 7
  have sx8 : W0.cell? ⟨w.heap.size + 1, 8, none⟩ = some (.int .i64 x.iy) := blk_cell HG2.out 8
  have sx9 : W0.cell? ⟨w.heap.size + 1, 9, none⟩ = some (.int .i64 x.oy) := blk_cell HG2.out 9
  clear hD hx hW0 hsz hk2 hkn
  go_enter Tryd.func18, Tryd.ntmps18
  go_upto_region 1 with fail
  rw [HW.out]
  clear HW
  go_upto_region 2 with fail
  have HN := Lib.hid (show (W0.alloc (.cells #[.int .i64 x.im, .int .i64 x.om, .int .i64 x.iy, .int .i64 x.oy] 3)).heap[w.heap.size + 1 + 1]? = some (.cells #[.int .i64 x.im, .int .i64 x.om, .int .i64 x.iy, .int .i64 x.oy] 3 (0, 0)) from by have q := blk_new W0 (.cells #[.int .i64 x.im, .int .i64 x.om, .int .i64 x.iy, .int .i64 x.oy] 3); rw [HSZ.out] at q; exact q)
  have HB1 := Lib.hid (HB0.out.alloc HB0.out.size (.cells #[.int .i64 x.im, .int .i64 x.om, .int .i64 x.iy, .int .i64 x.oy] 3))
  have HG3 := Lib.hid (blk_more HG1.out (.cells #[.int .i64 x.im, .int .i64 x.om, .int .i64 x.iy, .int .i64 x.oy] 3))
  have HG4 := Lib.hid (blk_more HG2.out (.cells #[.int .i64 x.im, .int .i64 x.om, .int .i64 x.iy, .int .i64 x.oy] 3))
  have hz := HSZ.out
  try rw [hz]
  clear hz HSZ HG1 HG2 HB0 sx6 sx7 sx8 sx9
  generalize W0.alloc (.cells #[.int .i64 x.im, .int .i64 x.om, .int .i64 x.iy, .int .i64 x.oy] 3) = W1 at *
  have y0 : W1.cell? ⟨w.heap.size, 0, none⟩ = some (.int .i64 1) := blk_cell HG3.out 0
  have y1 : W1.cell? ⟨w.heap.size, 1, none⟩ = some (.bool true) := blk_cell HG3.out 1
  have y2 : W1.cell? ⟨w.heap.size, 2 + kn, none⟩ = some (.int .u64 (D kn : Nat)) := (blk_cell HG3.out (2 + kn)).trans (rdC_get _ _ D kn hk1)
  have z5 : W1.cell? ⟨w.heap.size + 1, 5, none⟩ = some (.int .i64 (kn : Int)) := (blk_cell HG4.out 5).trans (by rw [← HKN.out]; rfl)
  have zv : W1.cell? ⟨w.heap.size + 1 + 1, 1, none⟩ = some (.int .i64 x.om) := blk_cell HN.out 1
  clear HG3 HG4 HN hk1
  go_upto_region 7 with fail
  refine wp_region_held_drew (S := fun X => Below W1.heap.size W1 X ∧ X.cell? ⟨w.heap.size, 2 + kn, none⟩ = some (.int .u64 (D kn : Nat)) ∧ X.cell? ⟨w.heap.size + 1, 5, none⟩ = some (.int .i64 (kn : Int)) ∧ X.cell? ⟨w.heap.size + 1 + 1, 1, none⟩ = some (.int .i64 x.om)) (by kernel_rfl) ⟨(Below.refl _ _).drew, y2, z5, zv⟩ (fun hHeld => ?_)
  refine heldVal (v := ?v1) 0 rfl rfl (by kernel_rfl) (by kernel_rfl) (by kernel_rfl) (fun _ _ _ h => h) (by rfl) (fun w hSw => ?hy1) (by assumption) ?_
  case hy1 => ((try dsimp only at hSw); go_simp; (try with_reducible rfl))
  try simp only [Act.put, List.setIfInBounds_toArray, List.set_cons_zero, List.set_cons_succ]
  refine heldVal (v := ?v2) 1 rfl rfl (by kernel_rfl) (by kernel_rfl) (by kernel_rfl) (fun _ _ _ h => h) (by rfl) (fun w hSw => ?hy2) (by assumption) ?_
  case hy2 => ((try dsimp only at hSw); go_simp; (try with_reducible rfl))
  try simp only [Act.put, List.setIfInBounds_toArray, List.set_cons_zero, List.set_cons_succ]
  refine heldVal (v := ?v3) 2 rfl rfl (by kernel_rfl) (by kernel_rfl) (by kernel_rfl) (fun _ _ _ h => h) (by rfl) (fun w hSw => ?hy3) (by assumption) ?_
  case hy3 => ((try dsimp only at hSw); go_simp; (try with_reducible rfl))
  try simp only [Act.put, List.setIfInBounds_toArray, List.set_cons_zero, List.set_cons_succ]
  refine heldVal (v := ?v4) 3 rfl rfl (by kernel_rfl) (by kernel_rfl) (by kernel_rfl) (fun _ _ _ h => h) (by rfl) (fun w hSw => ?hy4) (by assumption) ?_
  case hy4 => ((try dsimp only at hSw); go_simp; (try with_reducible rfl))
  try simp only [Act.put, List.setIfInBounds_toArray, List.set_cons_zero, List.set_cons_succ]
  refine heldVal (v := ?v5) 4 rfl rfl (by kernel_rfl) (by kernel_rfl) (by kernel_rfl) (fun _ _ _ h => h) (by rfl) (fun w hSw => ?hy5) (by assumption) ?_
  case hy5 => ((try dsimp only at hSw); go_simp; (try with_reducible rfl))
  try simp only [Act.put, List.setIfInBounds_toArray, List.set_cons_zero, List.set_cons_succ]
  refine heldVal (v := ?v6) 5 rfl rfl (by kernel_rfl) (by kernel_rfl) (by kernel_rfl) (fun _ _ _ h => h) (by rfl) (fun w hSw => ?hy6) (by assumption) ?_
  case hy6 => ((try dsimp only at hSw); go_simp; (try with_reducible rfl))
  try simp only [Act.put, List.setIfInBounds_toArray, List.set_cons_zero, List.set_cons_succ]
  refine heldVal (v := ?v7) 6 rfl rfl (by kernel_rfl) (by kernel_rfl) (by kernel_rfl) (fun _ _ _ h => h) (by rfl) (fun w hSw => ?hy7) (by assumption) ?_
  case hy7 => ((try dsimp only at hSw); go_simp; (try with_reducible rfl))
  try simp only [Act.put, List.setIfInBounds_toArray, List.set_cons_zero, List.set_cons_succ]
  refine heldVal (v := ?v8) 7 rfl rfl (by kernel_rfl) (by kernel_rfl) (by kernel_rfl) (fun _ _ _ h => h) (by rfl) (fun w hSw => ?hy8) (by assumption) ?_
  case hy8 => ((try dsimp only at hSw); go_simp; (try with_reducible rfl))
  try simp only [Act.put, List.setIfInBounds_toArray, List.set_cons_zero, List.set_cons_succ]
  refine heldVal (v := ?v9) 8 rfl rfl (by kernel_rfl) (by kernel_rfl) (by kernel_rfl) (fun _ _ _ h => h) (by rfl) (fun w hSw => ?hy9) (by assumption) ?_
  case hy9 => ((try dsimp only at hSw); go_simp; (try with_reducible rfl))
  try simp only [Act.put, List.setIfInBounds_toArray, List.set_cons_zero, List.set_cons_succ]
  refine heldVal (v := ?v10) 9 rfl rfl (by kernel_rfl) (by kernel_rfl) (by kernel_rfl) (fun _ _ _ h => h) (by rfl) (fun w hSw => ?hy10) (by assumption) ?_
  case hy10 => ((try dsimp only at hSw); go_simp; (try with_reducible rfl))
  try simp only [Act.put, List.setIfInBounds_toArray, List.set_cons_zero, List.set_cons_succ]
  refine heldVal (v := ?v11) 10 rfl rfl (by kernel_rfl) (by kernel_rfl) (by kernel_rfl) (fun _ _ _ h => h) (by rfl) (fun w hSw => ?hy11) (by assumption) ?_
  case hy11 => ((try dsimp only at hSw); go_simp; (try with_reducible rfl))
  try simp only [Act.put, List.setIfInBounds_toArray, List.set_cons_zero, List.set_cons_succ]
  refine heldVal (v := ?v12) 11 rfl rfl (by kernel_rfl) (by kernel_rfl) (by kernel_rfl) (fun _ _ _ h => h) (by rfl) (fun w hSw => ?hy12) (by assumption) ?_
  case hy12 => ((try dsimp only at hSw); go_simp; (try with_reducible rfl))
  try simp only [Act.put, List.setIfInBounds_toArray, List.set_cons_zero, List.set_cons_succ]
  refine heldVal (v := ?v13) 12 rfl rfl (by kernel_rfl) (by kernel_rfl) (by kernel_rfl) (fun _ _ _ h => h) (by rfl) (fun w hSw => ?hy13) (by assumption) ?_
  case hy13 => ((try dsimp only at hSw); go_simp; (try with_reducible rfl))
  try simp only [Act.put, List.setIfInBounds_toArray, List.set_cons_zero, List.set_cons_succ]
  refine heldVal (v := ?v14) 13 rfl rfl (by kernel_rfl) (by kernel_rfl) (by kernel_rfl) (fun _ _ _ h => h) (by rfl) (fun w hSw => ?hy14) (by assumption) ?_
  case hy14 => ((try dsimp only at hSw); go_simp; (try with_reducible rfl))
  try simp only [Act.put, List.setIfInBounds_toArray, List.set_cons_zero, List.set_cons_succ]
  refine heldVal (v := ?v15) 14 rfl rfl (by kernel_rfl) (by kernel_rfl) (by kernel_rfl) (fun _ _ _ h => h) (by rfl) (fun w hSw => ?hy15) (by assumption) ?_
  case hy15 => ((try dsimp only at hSw); go_simp; (try with_reducible rfl))
  try simp only [Act.put, List.setIfInBounds_toArray, List.set_cons_zero, List.set_cons_succ]
  refine heldVal (v := ?v16) 15 rfl rfl (by kernel_rfl) (by kernel_rfl) (by kernel_rfl) (fun _ _ _ h => h) (by rfl) (fun w hSw => ?hy16) (by assumption) ?_
  case hy16 => ((try dsimp only at hSw); go_simp; (try with_reducible rfl))
  try simp only [Act.put, List.setIfInBounds_toArray, List.set_cons_zero, List.set_cons_succ]
  refine heldVal (v := ?v17) 16 rfl rfl (by kernel_rfl) (by kernel_rfl) (by kernel_rfl) (fun _ _ _ h => h) (by rfl) (fun w hSw => ?hy17) (by assumption) ?_
  case hy17 => ((try dsimp only at hSw); go_simp; (try with_reducible rfl))
  try simp only [Act.put, List.setIfInBounds_toArray, List.set_cons_zero, List.set_cons_succ]
  refine heldVal (v := ?v18) 17 rfl rfl (by kernel_rfl) (by kernel_rfl) (by kernel_rfl) (fun _ _ _ h => h) (by rfl) (fun w hSw => ?hy18) (by assumption) ?_
  case hy18 => ((try dsimp only at hSw); go_simp; (try with_reducible rfl))
  try simp only [Act.put, List.setIfInBounds_toArray, List.set_cons_zero, List.set_cons_succ]
  refine heldCall 18 rfl rfl (by kernel_rfl) (by rfl) (fun K hK => ?_)
  go_simp
  go_at_call 17
  refine (KH.out _).mono ?_
  rintro e v1 ⟨rfl, rfl⟩
  go_wp2_with fail
  refine hK.out _ _ ?hS (fun hHeld => ?_)
  case hS => (exact hHeld)
  clear hK K
  try simp only [Act.put, List.setIfInBounds_toArray, List.set_cons_zero, List.set_cons_succ]
  refine heldVal (v := ?v19) 19 rfl rfl (by kernel_rfl) (by kernel_rfl) (by kernel_rfl) (fun _ _ _ h => h) (by rfl) (fun w hSw => ?hy19) (by assumption) ?_
  case hy19 => ((try dsimp only at hSw); go_simp; (try with_reducible rfl))
  try simp only [Act.put, List.setIfInBounds_toArray, List.set_cons_zero, List.set_cons_succ]
  refine heldVal (v := ?v20) 20 rfl rfl (by kernel_rfl) (by kernel_rfl) (by kernel_rfl) (fun _ _ _ h => h) (by rfl) (fun w hSw => ?hy20) (by assumption) ?_
  case hy20 => ((try dsimp only at hSw); go_simp; (try with_reducible rfl))
  try simp only [Act.put, List.setIfInBounds_toArray, List.set_cons_zero, List.set_cons_succ]
  refine wpAnyH_done (by kernel_rfl) ?_ _
  go_wp2_with fail
  go_ret
  exact ⟨rfl, HB1.out.trans (hHeld.1.mono HB1.out.size)⟩
set_option maxHeartbeats 3200000 in
set_option maxRecDepth 20000 in
theorem ord32_2f (D : Nat → Nat) (x : Sx) (w : World) (hD : ∀ j, j < 8 → D j < 18446744073709551616) (hx : SxIn x) :
    Calls Tryd.prog 18 #[.agg (rdC 2 false D), .agg (sxC x)] w fun e w' => e = .returned (.bool (inM (D x.k.toNat) x.iy)) ∧ Below w.heap.size w w' := by
  have HG1 := Lib.hid (blk_more (blk_new w (.cells (rdC 2 false D) 41)) (.cells (sxC x) 45))
  have HG2 := Lib.hid (show ((w.alloc (.cells (rdC 2 false D) 41)).alloc (.cells (sxC x) 45)).heap[w.heap.size + 1]? = some (.cells (sxC x) 45 (0, 0)) from by
    have q := blk_new (w.alloc (.cells (rdC 2 false D) 41)) (.cells (sxC x) 45)
    rw [World.size_alloc] at q
    exact q)
  have HB0 := Lib.hid (show Below w.heap.size w ((w.alloc (.cells (rdC 2 false D) 41)).alloc (.cells (sxC x) 45)) from ((Below.refl _ _).alloc (Nat.le_refl _) _).alloc (by rw [World.size_alloc]; omega) _)
  have hsz : ((w.alloc (.cells (rdC 2 false D) 41)).alloc (.cells (sxC x) 45)).heap.size = w.heap.size + 1 + 1 := by rw [World.size_alloc, World.size_alloc]
  obtain ⟨W0, hW0⟩ : ∃ W0, (w.alloc (.cells (rdC 2 false D) 41)).alloc (.cells (sxC x) 45) = W0 := ⟨_, rfl⟩
  rw [hW0] at HG1 HG2 HB0 hsz
  have HSZ := Lib.hid hsz
  obtain ⟨kn, hkn⟩ : ∃ kn : Nat, x.k = (kn : Int) := ⟨x.k.toNat, by unfold SxIn at hx; omega⟩
  have hk1 : kn < 8 := by unfold SxIn at hx; omega
  have hk2 : x.k.toNat = kn := by rw [hkn]; rfl
  rw [hk2]
  have HKN := Lib.hid hkn
  have KH := Lib.hid (fun W => rhas_any (D kn) x.iy W (hD kn hk1))
  generalize inM (D kn) x.iy = res at KH ⊢
  have i0 : (0 : Int) ≤ (kn : Int) := by omega
  have i1 : (kn : Int) < 8 := by omega
  have HW := Lib.hid hW0
  unfold rdC sxC
  unfold rdC sxC at HW
  have sx6 : W0.cell? ⟨w.heap.size + 1, 6, none⟩ = some (.int .i64 x.im) := blk_cell HG2.out 6
  have sx7 : W0.cell? ⟨w.heap.size + 1, 7, none⟩ = some (.int .i64 x.om) := blk_cell HG2.out 7
  have sx8 : W0.cell? ⟨w.heap.size + 1, 8, none⟩ = some (.int .i64 x.iy) := blk_cell HG2.out 8
  have sx9 : W0.cell? ⟨w.heap.size + 1, 9, none⟩ = some (.int .i64 x.oy) := blk_cell HG2.out 9
  clear hD hx hW0 hsz hk2 hkn
  go_enter Tryd.func18, Tryd.ntmps18
  go_upto_region 1 with fail
  rw [HW.out]
  clear HW
  go_upto_region 2 with fail
  have HN := Lib.hid (show (W0.alloc (.cells #[.int .i64 x.im, .int .i64 x.om, .int .i64 x.iy, .int .i64 x.oy] 3)).heap[w.heap.size + 1 + 1]? = some (.cells #[.int .i64 x.im, .int .i64 x.om, .int .i64 x.iy, .int .i64 x.oy] 3 (0, 0)) from by have q := blk_new W0 (.cells #[.int .i64 x.im, .int .i64 x.om, .int .i64 x.iy, .int .i64 x.oy] 3); rw [HSZ.out] at q; exact q)
  have HB1 := Lib.hid (HB0.out.alloc HB0.out.size (.cells #[.int .i64 x.im, .int .i64 x.om, .int .i64 x.iy, .int .i64 x.oy] 3))
  have HG3 := Lib.hid (blk_more HG1.out (.cells #[.int .i64 x.im, .int .i64 x.om, .int .i64 x.iy, .int .i64 x.oy] 3))
  have HG4 := Lib.hid (blk_more HG2.out (.cells #[.int .i64 x.im, .int .i64 x.om, .int .i64 x.iy, .int .i64 x.oy] 3))
  have hz := HSZ.out
  try rw [hz]
  clear hz HSZ HG1 HG2 HB0 sx6 sx7 sx8 sx9
  generalize W0.alloc (.cells #[.int .i64 x.im, .int .i64 x.om, .int .i64 x.iy, .int .i64 x.oy] 3) = W1 at *
  have y0 : W1.cell? ⟨w.heap.size, 0, none⟩ = some (.int .i64 2) := blk_cell HG3.out 0
  have y1 : W1.cell? ⟨w.heap.size, 1, none⟩ = some (.bool false) := blk_cell HG3.out 1
  have y2 : W1.cell? ⟨w.heap.size, 2 + kn, none⟩ = some (.int .u64 (D kn : Nat)) := (blk_cell HG3.out (2 + kn)).trans (rdC_get _ _ D kn hk1)
  have z5 : W1.cell? ⟨w.heap.size + 1, 5, none⟩ = some (.int .i64 (kn : Int)) := (blk_cell HG4.out 5).trans (by rw [← HKN.out]; rfl)
  have zv : W1.cell? ⟨w.heap.size + 1 + 1, 2, none⟩ = some (.int .i64 x.iy) := blk_cell HN.out 2
  clear HG3 HG4 HN hk1
  go_upto_region 7 with fail
  refine wp_region_held_drew (S := fun X => Below W1.heap.size W1 X ∧ X.cell? ⟨w.heap.size, 2 + kn, none⟩ = some (.int .u64 (D kn : Nat)) ∧ X.cell? ⟨w.heap.size + 1, 5, none⟩ = some (.int .i64 (kn : Int)) ∧ X.cell? ⟨w.heap.size + 1 + 1, 2, none⟩ = some (.int .i64 x.iy)) (by kernel_rfl) ⟨(Below.refl _ _).drew, y2, z5, zv⟩ (fun hHeld => ?_)
  refine heldVal (v := ?v1) 0 rfl rfl (by kernel_rfl) (by kernel_rfl) (by kernel_rfl) (fun _ _ _ h => h) (by rfl) (fun w hSw => ?hy1) (by assumption) ?_
  case hy1 => ((try dsimp only at hSw); go_simp; (try with_reducible rfl))
  try simp only [Act.put, List.setIfInBounds_toArray, List.set_cons_zero, List.set_cons_succ]
  refine heldVal (v := ?v2) 1 rfl rfl (by kernel_rfl) (by kernel_rfl) (by kernel_rfl) (fun _ _ _ h => h) (by rfl) (fun w hSw => ?hy2) (by assumption) ?_
  case hy2 => ((try dsimp only at hSw); go_simp; (try with_reducible rfl))
  try simp only [Act.put, List.setIfInBounds_toArray, List.set_cons_zero, List.set_cons_succ]
  refine heldVal (v := ?v3) 2 rfl rfl (by kernel_rfl) (by kernel_rfl) (by kernel_rfl) (fun _ _ _ h => h) (by rfl) (fun w hSw => ?hy3) (by assumption) ?_
  case hy3 => ((try dsimp only at hSw); go_simp; (try with_reducible rfl))
  try simp only [Act.put, List.setIfInBounds_toArray, List.set_cons_zero, List.set_cons_succ]
  refine heldVal (v := ?v4) 3 rfl rfl (by kernel_rfl) (by kernel_rfl) (by kernel_rfl) (fun _ _ _ h => h) (by rfl) (fun w hSw => ?hy4) (by assumption) ?_
  case hy4 => ((try dsimp only at hSw); go_simp; (try with_reducible rfl))
  try simp only [Act.put, List.setIfInBounds_toArray, List.set_cons_zero, List.set_cons_succ]
  refine heldVal (v := ?v5) 4 rfl rfl (by kernel_rfl) (by kernel_rfl) (by kernel_rfl) (fun _ _ _ h => h) (by rfl) (fun w hSw => ?hy5) (by assumption) ?_
  case hy5 => ((try dsimp only at hSw); go_simp; (try with_reducible rfl))
  try simp only [Act.put, List.setIfInBounds_toArray, List.set_cons_zero, List.set_cons_succ]
  refine heldVal (v := ?v6) 5 rfl rfl (by kernel_rfl) (by kernel_rfl) (by kernel_rfl) (fun _ _ _ h => h) (by rfl) (fun w hSw => ?hy6) (by assumption) ?_
  case hy6 => ((try dsimp only at hSw); go_simp; (try with_reducible rfl))
  try simp only [Act.put, List.setIfInBounds_toArray, List.set_cons_zero, List.set_cons_succ]
  refine heldVal (v := ?v7) 6 rfl rfl (by kernel_rfl) (by kernel_rfl) (by kernel_rfl) (fun _ _ _ h => h) (by rfl) (fun w hSw => ?hy7) (by assumption) ?_
  case hy7 => ((try dsimp only at hSw); go_simp; (try with_reducible rfl))
  try simp only [Act.put, List.setIfInBounds_toArray, List.set_cons_zero, List.set_cons_succ]
  refine heldVal (v := ?v8) 7 rfl rfl (by kernel_rfl) (by kernel_rfl) (by kernel_rfl) (fun _ _ _ h => h) (by rfl) (fun w hSw => ?hy8) (by assumption) ?_
  case hy8 => ((try dsimp only at hSw); go_simp; (try with_reducible rfl))
  try simp only [Act.put, List.setIfInBounds_toArray, List.set_cons_zero, List.set_cons_succ]
  refine heldVal (v := ?v9) 8 rfl rfl (by kernel_rfl) (by kernel_rfl) (by kernel_rfl) (fun _ _ _ h => h) (by rfl) (fun w hSw => ?hy9) (by assumption) ?_
  case hy9 => ((try dsimp only at hSw); go_simp; (try with_reducible rfl))
  try simp only [Act.put, List.setIfInBounds_toArray, List.set_cons_zero, List.set_cons_succ]
  refine heldVal (v := ?v10) 9 rfl rfl (by kernel_rfl) (by kernel_rfl) (by kernel_rfl) (fun _ _ _ h => h) (by rfl) (fun w hSw => ?hy10) (by assumption) ?_
  case hy10 => ((try dsimp only at hSw); go_simp; (try with_reducible rfl))
  try simp only [Act.put, List.setIfInBounds_toArray, List.set_cons_zero, List.set_cons_succ]
  refine heldVal (v := ?v11) 10 rfl rfl (by kernel_rfl) (by kernel_rfl) (by kernel_rfl) (fun _ _ _ h => h) (by rfl) (fun w hSw => ?hy11) (by assumption) ?_
  case hy11 => ((try dsimp only at hSw); go_simp; (try with_reducible rfl))
  try simp only [Act.put, List.setIfInBounds_toArray, List.set_cons_zero, List.set_cons_succ]
  refine heldVal (v := ?v12) 11 rfl rfl (by kernel_rfl) (by kernel_rfl) (by kernel_rfl) (fun _ _ _ h => h) (by rfl) (fun w hSw => ?hy12) (by assumption) ?_
  case hy12 => ((try dsimp only at hSw); go_simp; (try with_reducible rfl))
  try simp only [Act.put, List.setIfInBounds_toArray, List.set_cons_zero, List.set_cons_succ]
  refine heldVal (v := ?v13) 12 rfl rfl (by kernel_rfl) (by kernel_rfl) (by kernel_rfl) (fun _ _ _ h => h) (by rfl) (fun w hSw => ?hy13) (by assumption) ?_
  case hy13 => ((try dsimp only at hSw); go_simp; (try with_reducible rfl))
  try simp only [Act.put, List.setIfInBounds_toArray, List.set_cons_zero, List.set_cons_succ]
  refine heldVal (v := ?v14) 13 rfl rfl (by kernel_rfl) (by kernel_rfl) (by kernel_rfl) (fun _ _ _ h => h) (by rfl) (fun w hSw => ?hy14) (by assumption) ?_
  case hy14 => ((try dsimp only at hSw); go_simp; (try with_reducible rfl))
  try simp only [Act.put, List.setIfInBounds_toArray, List.set_cons_zero, List.set_cons_succ]
  refine heldVal (v := ?v15) 14 rfl rfl (by kernel_rfl) (by kernel_rfl) (by kernel_rfl) (fun _ _ _ h => h) (by rfl) (fun w hSw => ?hy15) (by assumption) ?_
  case hy15 => ((try dsimp only at hSw); go_simp; (try with_reducible rfl))
  try simp only [Act.put, List.setIfInBounds_toArray, List.set_cons_zero, List.set_cons_succ]
  refine heldVal (v := ?v16) 15 rfl rfl (by kernel_rfl) (by kernel_rfl) (by kernel_rfl) (fun _ _ _ h => h) (by rfl) (fun w hSw => ?hy16) (by assumption) ?_
  case hy16 => ((try dsimp only at hSw); go_simp; (try with_reducible rfl))
  try simp only [Act.put, List.setIfInBounds_toArray, List.set_cons_zero, List.set_cons_succ]
  refine heldVal (v := ?v17) 16 rfl rfl (by kernel_rfl) (by kernel_rfl) (by kernel_rfl) (fun _ _ _ h => h) (by rfl) (fun w hSw => ?hy17) (by assumption) ?_
  case hy17 => ((try dsimp only at hSw); go_simp; (try with_reducible rfl))
  try simp only [Act.put, List.setIfInBounds_toArray, List.set_cons_zero, List.set_cons_succ]
  refine heldVal (v := ?v18) 17 rfl rfl (by kernel_rfl) (by kernel_rfl) (by kernel_rfl) (fun _ _ _ h => h) (by rfl) (fun w hSw => ?hy18) (by assumption) ?_
  case hy18 => ((try dsimp only at hSw); go_simp; (try with_reducible rfl))
  try simp only [Act.put, List.setIfInBounds_toArray, List.set_cons_zero, List.set_cons_succ]
  refine heldCall 18 rfl rfl (by kernel_rfl) (by rfl) (fun K hK => ?_)
  go_simp
  go_at_call 17
  refine (KH.out _).mono ?_
  rintro e v1 ⟨rfl, rfl⟩
  go_wp2_with fail
  refine hK.out _ _ ?hS (fun hHeld => ?_)
  case hS => (exact hHeld)
  clear hK K
  try simp only [Act.put, List.setIfInBounds_toArray, List.set_cons_zero, List.set_cons_succ]
  refine heldVal (v := ?v19) 19 rfl rfl (by kernel_rfl) (by kernel_rfl) (by kernel_rfl) (fun _ _ _ h => h) (by rfl) (fun w hSw => ?hy19) (by assumption) ?_
  case hy19 => ((try dsimp only at hSw); go_simp; (try with_reducible rfl))
  try simp only [Act.put, List.setIfInBounds_toArray, List.set_cons_zero, List.set_cons_succ]
  refine heldVal (v := ?v20) 20 rfl rfl (by kernel_rfl) (by kernel_rfl) (by kernel_rfl) (fun _ _ _ h => h) (by rfl) (fun w hSw => ?hy20) (by assumption) ?_
  case hy20 => ((try dsimp only at hSw); go_simp; (try with_reducible rfl))
  try simp only [Act.put, List.setIfInBounds_toArray, List.set_cons_zero, List.set_cons_succ]
  refine wpAnyH_done (by kernel_rfl) ?_ _
  go_wp2_with fail
  go_ret
  exact ⟨rfl, HB1.out.trans (hHeld.1.mono HB1.out.size)⟩
set_option maxHeartbeats 3200000 in
set_option maxRecDepth 20000 in
theorem ord32_2t (D : Nat → Nat) (x : Sx) (w : World) (hD : ∀ j, j < 8 → D j < 18446744073709551616) (hx : SxIn x) :
    Calls Tryd.prog 18 #[.agg (rdC 2 true D), .agg (sxC x)] w fun e w' => e = .returned (.bool (inM (D x.k.toNat) x.oy)) ∧ Below w.heap.size w w' := by
  have HG1 := Lib.hid (blk_more (blk_new w (.cells (rdC 2 true D) 41)) (.cells (sxC x) 45))
  have HG2 := Lib.hid (show ((w.alloc (.cells (rdC 2 true D) 41)).alloc (.cells (sxC x) 45)).heap[w.heap.size + 1]? = some (.cells (sxC x) 45 (0, 0)) from by
    have q := blk_new (w.alloc (.cells (rdC 2 true D) 41)) (.cells (sxC x) 45)
    rw [World.size_alloc] at q
    exact q)
  have HB0 := Lib.hid (show Below w.heap.size w ((w.alloc (.cells (rdC 2 true D) 41)).alloc (.cells (sxC x) 45)) from ((Below.refl _ _).alloc (Nat.le_refl _) _).alloc (by rw [World.size_alloc]; omega) _)
  have hsz : ((w.alloc (.cells (rdC 2 true D) 41)).alloc (.cells (sxC x) 45)).heap.size = w.heap.size + 1 + 1 := by rw [World.size_alloc, World.size_alloc]
  obtain ⟨W0, hW0⟩ : ∃ W0, (w.alloc (.cells (rdC 2 true D) 41)).alloc (.cells (sxC x) 45) = W0 := ⟨_, rfl⟩
  rw [hW0] at HG1 HG2 HB0 hsz
  have HSZ := Lib.hid hsz
  obtain ⟨kn, hkn⟩ : ∃ kn : Nat, x.k = (kn : Int) := ⟨x.k.toNat, by unfold SxIn at hx; omega⟩
  have hk1 : kn < 8 := by unfold SxIn at hx; omega
  have hk2 : x.k.toNat = kn := by rw [hkn]; rfl
  rw [hk2]
  have HKN := Lib.hid hkn
  have KH := Lib.hid (fun W => rhas_any (D kn) x.oy W (hD kn hk1))
  generalize inM (D kn) x.oy = res at KH ⊢
  have i0 : (0 : Int) ≤ (kn : Int) := by omega
  have i1 : (kn : Int) < 8 := by omega
  have HW := Lib.hid hW0
  unfold rdC sxC
  unfold rdC sxC at HW
  have sx6 : W0.cell? ⟨w.heap.size + 1, 6, none⟩ = some (.int .i64 x.im) := blk_cell HG2.out 6
  have sx7 : W0.cell? ⟨w.heap.size + 1, 7, none⟩ = some (.int .i64 x.om) := blk_cell HG2.out 7
  have sx8 : W0.cell? ⟨w.heap.size + 1, 8, none⟩ = some (.int .i64 x.iy) := blk_cell HG2.out 8
  have sx9 : W0.cell? ⟨w.heap.size + 1, 9, none⟩ = some (.int .i64 x.oy) := blk_cell HG2.out 9
  clear hD hx hW0 hsz hk2 hkn
  go_enter Tryd.func18, Tryd.ntmps18
  go_upto_region 1 with fail
  rw [HW.out]
  clear HW
  go_upto_region 2 with fail
  have HN := Lib.hid (show (W0.alloc (.cells #[.int .i64 x.im, .int .i64 x.om, .int .i64 x.iy, .int .i64 x.oy] 3)).heap[w.heap.size + 1 + 1]? = some (.cells #[.int .i64 x.im, .int .i64 x.om, .int .i64 x.iy, .int .i64 x.oy] 3 (0, 0)) from by have q := blk_new W0 (.cells #[.int .i64 x.im, .int .i64 x.om, .int .i64 x.iy, .int .i64 x.oy] 3); rw [HSZ.out] at q; exact q)
  have HB1 := Lib.hid (HB0.out.alloc HB0.out.size (.cells #[.int .i64 x.im, .int .i64 x.om, .int .i64 x.iy, .int .i64 x.oy] 3))
  have HG3 := Lib.hid (blk_more HG1.out (.cells #[.int .i64 x.im, .int .i64 x.om, .int .i64 x.iy, .int .i64 x.oy] 3))
  have HG4 := Lib.hid (blk_more HG2.out (.cells #[.int .i64 x.im, .int .i64 x.om, .int .i64 x.iy, .int .i64 x.oy] 3))
  have hz := HSZ.out
  try rw [hz]
  clear hz HSZ HG1 HG2 HB0 sx6 sx7 sx8 sx9
  generalize W0.alloc (.cells #[.int .i64 x.im, .int .i64 x.om, .int .i64 x.iy, .int .i64 x.oy] 3) = W1 at *
  have y0 : W1.cell? ⟨w.heap.size, 0, none⟩ = some (.int .i64 2) := blk_cell HG3.out 0
  have y1 : W1.cell? ⟨w.heap.size, 1, none⟩ = some (.bool true) := blk_cell HG3.out 1
  have y2 : W1.cell? ⟨w.heap.size, 2 + kn, none⟩ = some (.int .u64 (D kn : Nat)) := (blk_cell HG3.out (2 + kn)).trans (rdC_get _ _ D kn hk1)
  have z5 : W1.cell? ⟨w.heap.size + 1, 5, none⟩ = some (.int .i64 (kn : Int)) := (blk_cell HG4.out 5).trans (by rw [← HKN.out]; rfl)
  have zv : W1.cell? ⟨w.heap.size + 1 + 1, 3, none⟩ = some (.int .i64 x.oy) := blk_cell HN.out 3
  clear HG3 HG4 HN hk1
  go_upto_region 7 with fail
  refine wp_region_held_drew (S := fun X => Below W1.heap.size W1 X ∧ X.cell? ⟨w.heap.size, 2 + kn, none⟩ = some (.int .u64 (D kn : Nat)) ∧ X.cell? ⟨w.heap.size + 1, 5, none⟩ = some (.int .i64 (kn : Int)) ∧ X.cell? ⟨w.heap.size + 1 + 1, 3, none⟩ = some (.int .i64 x.oy)) (by kernel_rfl) ⟨(Below.refl _ _).drew, y2, z5, zv⟩ (fun hHeld => ?_)
  refine heldVal (v := ?v1) 0 rfl rfl (by kernel_rfl) (by kernel_rfl) (by kernel_rfl) (fun _ _ _ h => h) (by rfl) (fun w hSw => ?hy1) (by assumption) ?_
  case hy1 => ((try dsimp only at hSw); go_simp; (try with_reducible rfl))
  try simp only [Act.put, List.setIfInBounds_toArray, List.set_cons_zero, List.set_cons_succ]
  refine heldVal (v := ?v2) 1 rfl rfl (by kernel_rfl) (by kernel_rfl) (by kernel_rfl) (fun _ _ _ h => h) (by rfl) (fun w hSw => ?hy2) (by assumption) ?_
  case hy2 => ((try dsimp only at hSw); go_simp; (try with_reducible rfl))
  try simp only [Act.put, List.setIfInBounds_toArray, List.set_cons_zero, List.set_cons_succ]
  refine heldVal (v := ?v3) 2 rfl rfl (by kernel_rfl) (by kernel_rfl) (by kernel_rfl) (fun _ _ _ h => h) (by rfl) (fun w hSw => ?hy3) (by assumption) ?_
  case hy3 => ((try dsimp only at hSw); go_simp; (try with_reducible rfl))
  try simp only [Act.put, List.setIfInBounds_toArray, List.set_cons_zero, List.set_cons_succ]
  refine heldVal (v := ?v4) 3 rfl rfl (by kernel_rfl) (by kernel_rfl) (by kernel_rfl) (fun _ _ _ h => h) (by rfl) (fun w hSw => ?hy4) (by assumption) ?_
  case hy4 => ((try dsimp only at hSw); go_simp; (try with_reducible rfl))
  try simp only [Act.put, List.setIfInBounds_toArray, List.set_cons_zero, List.set_cons_succ]
  refine heldVal (v := ?v5) 4 rfl rfl (by kernel_rfl) (by kernel_rfl) (by kernel_rfl) (fun _ _ _ h => h) (by rfl) (fun w hSw => ?hy5) (by assumption) ?_
  case hy5 => ((try dsimp only at hSw); go_simp; (try with_reducible rfl))
  try simp only [Act.put, List.setIfInBounds_toArray, List.set_cons_zero, List.set_cons_succ]
  refine heldVal (v := ?v6) 5 rfl rfl (by kernel_rfl) (by kernel_rfl) (by kernel_rfl) (fun _ _ _ h => h) (by rfl) (fun w hSw => ?hy6) (by assumption) ?_
  case hy6 => ((try dsimp only at hSw); go_simp; (try with_reducible rfl))
  try simp only [Act.put, List.setIfInBounds_toArray, List.set_cons_zero, List.set_cons_succ]
  refine heldVal (v := ?v7) 6 rfl rfl (by kernel_rfl) (by kernel_rfl) (by kernel_rfl) (fun _ _ _ h => h) (by rfl) (fun w hSw => ?hy7) (by assumption) ?_
  case hy7 => ((try dsimp only at hSw); go_simp; (try with_reducible rfl))
  try simp only [Act.put, List.setIfInBounds_toArray, List.set_cons_zero, List.set_cons_succ]
  refine heldVal (v := ?v8) 7 rfl rfl (by kernel_rfl) (by kernel_rfl) (by kernel_rfl) (fun _ _ _ h => h) (by rfl) (fun w hSw => ?hy8) (by assumption) ?_
  case hy8 => ((try dsimp only at hSw); go_simp; (try with_reducible rfl))
  try simp only [Act.put, List.setIfInBounds_toArray, List.set_cons_zero, List.set_cons_succ]
  refine heldVal (v := ?v9) 8 rfl rfl (by kernel_rfl) (by kernel_rfl) (by kernel_rfl) (fun _ _ _ h => h) (by rfl) (fun w hSw => ?hy9) (by assumption) ?_
  case hy9 => ((try dsimp only at hSw); go_simp; (try with_reducible rfl))
  try simp only [Act.put, List.setIfInBounds_toArray, List.set_cons_zero, List.set_cons_succ]
  refine heldVal (v := ?v10) 9 rfl rfl (by kernel_rfl) (by kernel_rfl) (by kernel_rfl) (fun _ _ _ h => h) (by rfl) (fun w hSw => ?hy10) (by assumption) ?_
  case hy10 => ((try dsimp only at hSw); go_simp; (try with_reducible rfl))
  try simp only [Act.put, List.setIfInBounds_toArray, List.set_cons_zero, List.set_cons_succ]
  refine heldVal (v := ?v11) 10 rfl rfl (by kernel_rfl) (by kernel_rfl) (by kernel_rfl) (fun _ _ _ h => h) (by rfl) (fun w hSw => ?hy11) (by assumption) ?_
  case hy11 => ((try dsimp only at hSw); go_simp; (try with_reducible rfl))
  try simp only [Act.put, List.setIfInBounds_toArray, List.set_cons_zero, List.set_cons_succ]
  refine heldVal (v := ?v12) 11 rfl rfl (by kernel_rfl) (by kernel_rfl) (by kernel_rfl) (fun _ _ _ h => h) (by rfl) (fun w hSw => ?hy12) (by assumption) ?_
  case hy12 => ((try dsimp only at hSw); go_simp; (try with_reducible rfl))
  try simp only [Act.put, List.setIfInBounds_toArray, List.set_cons_zero, List.set_cons_succ]
  refine heldVal (v := ?v13) 12 rfl rfl (by kernel_rfl) (by kernel_rfl) (by kernel_rfl) (fun _ _ _ h => h) (by rfl) (fun w hSw => ?hy13) (by assumption) ?_
  case hy13 => ((try dsimp only at hSw); go_simp; (try with_reducible rfl))
  try simp only [Act.put, List.setIfInBounds_toArray, List.set_cons_zero, List.set_cons_succ]
  refine heldVal (v := ?v14) 13 rfl rfl (by kernel_rfl) (by kernel_rfl) (by kernel_rfl) (fun _ _ _ h => h) (by rfl) (fun w hSw => ?hy14) (by assumption) ?_
  case hy14 => ((try dsimp only at hSw); go_simp; (try with_reducible rfl))
  try simp only [Act.put, List.setIfInBounds_toArray, List.set_cons_zero, List.set_cons_succ]
  refine heldVal (v := ?v15) 14 rfl rfl (by kernel_rfl) (by kernel_rfl) (by kernel_rfl) (fun _ _ _ h => h) (by rfl) (fun w hSw => ?hy15) (by assumption) ?_
  case hy15 => ((try dsimp only at hSw); go_simp; (try with_reducible rfl))
  try simp only [Act.put, List.setIfInBounds_toArray, List.set_cons_zero, List.set_cons_succ]
  refine heldVal (v := ?v16) 15 rfl rfl (by kernel_rfl) (by kernel_rfl) (by kernel_rfl) (fun _ _ _ h => h) (by rfl) (fun w hSw => ?hy16) (by assumption) ?_
  case hy16 => ((try dsimp only at hSw); go_simp; (try with_reducible rfl))
  try simp only [Act.put, List.setIfInBounds_toArray, List.set_cons_zero, List.set_cons_succ]
  refine heldVal (v := ?v17) 16 rfl rfl (by kernel_rfl) (by kernel_rfl) (by kernel_rfl) (fun _ _ _ h => h) (by rfl) (fun w hSw => ?hy17) (by assumption) ?_
  case hy17 => ((try dsimp only at hSw); go_simp; (try with_reducible rfl))
  try simp only [Act.put, List.setIfInBounds_toArray, List.set_cons_zero, List.set_cons_succ]
  refine heldVal (v := ?v18) 17 rfl rfl (by kernel_rfl) (by kernel_rfl) (by kernel_rfl) (fun _ _ _ h => h) (by rfl) (fun w hSw => ?hy18) (by assumption) ?_
  case hy18 => ((try dsimp only at hSw); go_simp; (try with_reducible rfl))
  try simp only [Act.put, List.setIfInBounds_toArray, List.set_cons_zero, List.set_cons_succ]
  refine heldCall 18 rfl rfl (by kernel_rfl) (by rfl) (fun K hK => ?_)
  go_simp
  go_at_call 17
  refine (KH.out _).mono ?_
  rintro e v1 ⟨rfl, rfl⟩
  go_wp2_with fail
  refine hK.out _ _ ?hS (fun hHeld => ?_)
  case hS => (exact hHeld)
  clear hK K
  try simp only [Act.put, List.setIfInBounds_toArray, List.set_cons_zero, List.set_cons_succ]
  refine heldVal (v := ?v19) 19 rfl rfl (by kernel_rfl) (by kernel_rfl) (by kernel_rfl) (fun _ _ _ h => h) (by rfl) (fun w hSw => ?hy19) (by assumption) ?_
  case hy19 => ((try dsimp only at hSw); go_simp; (try with_reducible rfl))
  try simp only [Act.put, List.setIfInBounds_toArray, List.set_cons_zero, List.set_cons_succ]
  refine heldVal (v := ?v20) 20 rfl rfl (by kernel_rfl) (by kernel_rfl) (by kernel_rfl) (fun _ _ _ h => h) (by rfl) (fun w hSw => ?hy20) (by assumption) ?_
  case hy20 => ((try dsimp only at hSw); go_simp; (try with_reducible rfl))
  try simp only [Act.put, List.setIfInBounds_toArray, List.set_cons_zero, List.set_cons_succ]
  refine wpAnyH_done (by kernel_rfl) ?_ _
  go_wp2_with fail
  go_ret
  exact ⟨rfl, HB1.out.trans (hHeld.1.mono HB1.out.size)⟩
theorem ord32_any (i : Int) (b : Bool) (D : Nat → Nat) (x : Sx) (w : World) (hi : i = 0 ∨ i = 1 ∨ i = 2) (hD : ∀ j, j < 8 → D j < 18446744073709551616) (hx : SxIn x) :
    Calls Tryd.prog 18 #[.agg (rdC i b D), .agg (sxC x)] w fun e w' => e = .returned (.bool (rdoB i b D x)) ∧ Below w.heap.size w w' := by
  obtain rfl | rfl | rfl := hi
  · exact ord32_0 D b x w hD hx
  · cases b
    · exact ord32_1f D x w hD hx
    · exact ord32_1t D x w hD hx
  · cases b
    · exact ord32_2f D x w hD hx
    · exact ord32_2t D x w hD hx
end Go.Proofs.YtigbbepgfofcoaaDoor
namespace Go.Proofs.YtigbbepgfofcoaaDoor
open Go.RowKit Civ
set_option linter.unusedVariables false

theorem inM_mkD (p : Nat → Bool) (v : Int) (h0 : 0 ≤ v) (h1 : v < 64) : inM (mk p) v = p v.toNat := by
  unfold inM
  rw [mk_test, dec_t (show v.toNat < 64 by omega)]
  simp [h0, h1]
theorem any_memD (zs : List Int) (v : Int) (h0 : 0 ≤ v) : inL zs v.toNat = zs.any (fun z => decide (z = v)) := by
  unfold inL
  rw [Bool.eq_iff_iff, decide_eq_true_eq, List.any_eq_true, Int.toNat_of_nonneg h0]
  constructor
  · intro h; exact ⟨v, h, by simp⟩
  · rintro ⟨z, hz, h⟩
    rw [decide_eq_true_eq] at h
    subst h; exact hz
theorem inM_rng (m hi : Nat) (v : Int) (h0 : 1 ≤ v) (h1 : v ≤ hi) (h : ∀ i, i ≤ hi → 1 ≤ i → inM m (i : Int) = true) : inM m v = true := by
  have q := h v.toNat (by omega) (by omega)
  rwa [Int.toNat_of_nonneg (by omega)] at q
theorem full_mo (v : Int) (h0 : 1 ≤ v) (h1 : v ≤ 12) : inM fullC.mo v = true := inM_rng _ 12 v h0 h1 (by decide +kernel)
theorem full_d (v : Int) (h0 : 1 ≤ v) (h1 : v ≤ 31) : inM fullC.d v = true := inM_rng _ 31 v h0 h1 (by decide +kernel)
theorem full_e (v : Int) (h0 : 1 ≤ v) (h1 : v ≤ 31) : inM fullC.e v = true := inM_rng _ 31 v h0 h1 (by decide +kernel)
theorem full_wk (v : Int) (h0 : 1 ≤ v) (h1 : v ≤ 7) : inM fullC.wk v = true := inM_rng _ 7 v h0 h1 (by decide +kernel)
theorem mk_zero {p : Nat → Bool} (h : ∀ i, i < 64 → p i = false) : mk p = 0 := by
  rw [← mk_none]
  exact mk_congr h
theorem mk_pos {p : Nat → Bool} {i : Nat} (hi : i < 64) (h : p i = true) : mk p ≠ 0 := fun c => by
  have q := mk_test p i
  rw [c, Nat.zero_testBit, h, dec_t hi] at q
  cases q
theorem sg_all {zs : List Int} (h : sgB zs = false) (hn : ∃ z ∈ zs, z ≠ 0) : (∀ z ∈ zs, 0 < z) ∨ (∀ z ∈ zs, z < 0) := by
  cases zs with
  | nil => obtain ⟨z, hz, _⟩ := hn; cases hz
  | cons a l =>
    have q : ∀ z ∈ l, sgP a z = false := fun z hz => by
      unfold sgB at h
      rw [List.any_eq_false] at h
      have := h z hz
      simpa using this
    have q2 : ∀ z ∈ a :: l, ((z < 0) ↔ (a < 0)) ∧ ((z = 0) ↔ (a = 0)) := fun z hz => by
      rcases List.mem_cons.1 hz with rfl | hz
      · exact ⟨Iff.rfl, Iff.rfl⟩
      · have p := q z hz
        unfold sgP at p
        simpa using p
    obtain ⟨z, hz, h0⟩ := hn
    have ha : a ≠ 0 := fun c => h0 ((q2 z hz).2.2 c)
    rcases Int.lt_or_gt_of_ne ha with g | g
    · exact .inr fun z hz => (q2 z hz).1.2 g
    · exact .inl fun z hz => by
        have p := q2 z hz
        omega
theorem mon_eq (r : Rl) (x : Sx) (m : Int) (hx : SxIn x) : inM (moM r m) x.m = monB r x m := by
  obtain ⟨m1, m2, _⟩ := hx
  unfold moM monB
  by_cases h0 : 0 < (r.Z 0).length
  · rw [if_pos h0, inM_mkD _ _ (by omega) (by omega), any_memD _ _ (by omega), dec_n (show ¬ (r.Z 0).length = 0 by omega)]
    rfl
  · rw [if_neg h0, dec_t (show (r.Z 0).length = 0 by omega)]
    have e : r.Z 0 = [] := List.length_eq_zero_iff.1 (by omega)
    rw [e]
    by_cases c : r.freq = 6 ∧ (r.Z 1).length = 0 ∧ r.N.length = 0
    · rw [if_pos c, inM_mkD _ _ (by omega) (by omega), any_memD _ _ (by omega), dec_n (show ¬ r.freq ≠ 6 from fun k => k c.1)]
      have hb : barB r = true := by unfold barB; rw [dec_t c.2.1, dec_t c.2.2]; rfl
      rw [hb]
      simp [eq_comm]
    · rw [if_neg c, full_mo _ m1 m2]
      by_cases hf : r.freq = 6
      · have hb : barB r = false := by
          unfold barB
          rw [Bool.and_eq_false_iff, decide_eq_false_iff_not, decide_eq_false_iff_not]
          by_cases c1 : (r.Z 1).length = 0
          · exact .inr fun c2 => c ⟨hf, c1, c2⟩
          · exact .inl c1
        rw [hb]
        simp
      · rw [dec_t hf]
        rfl
theorem days_parts {r : Rl} (h : daysE r = 0) : (∀ z ∈ r.Z 1, -31 ≤ z ∧ z ≤ 31) ∧ (∀ z ∈ r.Z 1, z ≠ 0) ∧ sgB (r.Z 1) = false := by
  unfold daysE at h
  by_cases c : lstE (-31) 31 (r.Z 1) = 0
  · rw [if_neg (fun k => k c)] at h
    by_cases d : (r.Z 1).any (fun z => decide (z = 0)) = true
    · rw [if_pos d] at h; cases h
    · rw [if_neg d] at h
      by_cases e : (decide (0 < (r.Z 1).length) && decide (r.freq = 4) || sgB (r.Z 1)) = true
      · rw [if_pos e] at h; cases h
      · refine ⟨(lst_parts c).2, fun z hz k => d (List.any_eq_true.2 ⟨z, hz, by simp [k]⟩), ?_⟩
        cases hs : sgB (r.Z 1)
        · rfl
        · rw [hs] at e; simp at e
  · rw [if_pos c] at h; exact absurd h c
theorem any_none {zs : List Int} {v : Int} (h : ∀ z ∈ zs, z ≠ v) : zs.any (fun z => decide (z = v)) = false := by
  rw [List.any_eq_false]
  intro z hz
  simpa using h z hz
theorem neg_any (zs : List Int) (v : Int) : (negL zs).any (fun z => decide (z = v)) = zs.any (fun z => decide (z = -v)) := by
  unfold negL
  rw [List.any_map]
  congr 1
  funext z
  simp only [Function.comp]
  exact decide_eq_decide.2 (by omega)
theorem day_eq (r : Rl) (x : Sx) (d : Int) (hx : SxIn x) (h : daysE r = 0) : (inM (domM r d) x.d && inM (endM r) x.b) = domB r x d := by
  obtain ⟨_, _, d1, d2, b1, b2, _⟩ := hx
  obtain ⟨hr, hn, hs⟩ := days_parts h
  by_cases h0 : (r.Z 1).length = 0
  · have e : r.Z 1 = [] := List.length_eq_zero_iff.1 h0
    have e2 : endM r = fullC.e := by unfold endM negL; rw [e, List.map_nil, if_pos mk_nil]
    rw [e2, full_e _ b1 b2, Bool.and_true]
    unfold domB domM barB
    rw [e, mk_nil]
    by_cases c : r.N.length = 0 ∧ 5 ≤ r.freq
    · rw [if_pos ⟨rfl, c.1, c.2⟩, inM_mkD _ _ (by omega) (by omega), any_memD _ _ (by omega), dec_n (show ¬ r.freq < 5 by omega), dec_t c.1]
      simp [eq_comm]
    · rw [if_neg (fun k => c ⟨k.2.1, k.2.2⟩), if_pos rfl, full_d _ d1 d2]
      by_cases c1 : r.N.length = 0
      · have c2 : r.freq < 5 := by omega
        simp [c2]
      · simp [c1]
  · have hne : ∃ z ∈ r.Z 1, z ≠ 0 := by
      cases hz : r.Z 1 with
      | nil => rw [hz] at h0; exact absurd rfl h0
      | cons a l => exact ⟨a, List.mem_cons_self .., hn a (by rw [hz]; exact List.mem_cons_self ..)⟩
    unfold domB domM endM
    rw [if_neg (fun k => h0 k.1), dec_n h0, Bool.false_and, Bool.false_or]
    rcases sg_all hs hne with g | g
    · have z0 : mk (inL (negL (r.Z 1))) = 0 := mk_zero fun i _ => by
        unfold inL negL
        rw [decide_eq_false_iff_not, List.mem_map]
        rintro ⟨z, hz, hzi⟩
        have := g z hz
        omega
      have z1 : mk (inL (r.Z 1)) ≠ 0 := by
        obtain ⟨z, hz, _⟩ := hne
        have q1 := g z hz
        have q2 := hr z hz
        refine mk_pos (i := z.toNat) (by omega) ?_
        unfold inL
        rw [decide_eq_true_eq, Int.toNat_of_nonneg (by omega)]
        exact hz
      rw [if_neg z1, if_pos z0, full_e _ b1 b2, Bool.and_true, inM_mkD _ _ (by omega) (by omega), any_memD _ _ (by omega), any_none (v := -x.b) (fun z hz k => by have := g z hz; omega), Bool.or_false]
    · have z0 : mk (inL (r.Z 1)) = 0 := mk_zero fun i _ => by
        unfold inL
        rw [decide_eq_false_iff_not]
        intro hz
        have := g _ hz
        omega
      have z1 : mk (inL (negL (r.Z 1))) ≠ 0 := by
        obtain ⟨z, hz, _⟩ := hne
        have q1 := g z hz
        have q2 := hr z hz
        refine mk_pos (i := (-z).toNat) (by omega) ?_
        unfold inL negL
        rw [decide_eq_true_eq, Int.toNat_of_nonneg (by omega), List.mem_map]
        exact ⟨z, hz, rfl⟩
      rw [if_pos z0, if_neg z1, full_d _ d1 d2, Bool.true_and, inM_mkD _ _ (by omega) (by omega), any_memD _ _ (by omega), neg_any, any_none (v := x.d) (fun z hz k => by have := g z hz; omega), Bool.false_or]
def woI (r : Rl) : Int := if r.N.length = 0 then 0 else if plnB r.N = true then 0 else rdI r
def woB (r : Rl) : Bool := if r.N.length = 0 then false else if plnB r.N = true then false else (rdS r.N (false, fun _ => 0)).1
def woD (r : Rl) : Nat → Nat := if r.N.length = 0 then (fun _ => 0) else if plnB r.N = true then (fun _ => 0) else (rdS r.N (false, fun _ => 0)).2
theorem wkO_eq (r : Rl) : wkO r = rdC (woI r) (woB r) (woD r) := by
  unfold wkO woI woB woD
  by_cases h0 : r.N.length = 0
  · rw [if_pos h0, if_pos h0, if_pos h0, if_pos h0]
  · rw [if_neg h0, if_neg h0, if_neg h0, if_neg h0]
    cases plnB r.N
    · rfl
    · rfl
theorem woI_in (r : Rl) : woI r = 0 ∨ woI r = 1 ∨ woI r = 2 := by
  unfold woI rdI
  split
  · exact .inl rfl
  · split
    · exact .inl rfl
    · split
      · exact .inr (.inr rfl)
      · exact .inr (.inl rfl)
theorem rdS_get (l : List N2) : ∀ (s : Bool × (Nat → Nat)) (j : Nat), (rdS l s).2 j = s.2 j ||| mk (fun i => l.any fun q => decide (q.2.toNat = j) && decide (max q.1 (-q.1) = (i : Int))) := by
  induction l with
  | nil => intro s j; show s.2 j = s.2 j ||| mk (fun _ => false); rw [mk_none, Nat.or_zero]
  | cons a l ih =>
    intro s j
    show (rdS l _).2 j = _
    rw [ih]
    show updF s.2 a.2.toNat (s.2 a.2.toNat ||| mk (inL [max a.1 (-a.1)])) j ||| _ = _
    unfold updF
    by_cases h : j = a.2.toNat
    · rw [if_pos h, ← h, Nat.or_assoc, mk_or]
      congr 1
      refine mk_congr fun i _ => ?_
      rw [List.any_cons, dec_t (show a.2.toNat = j from h.symm), Bool.true_and]
      congr 1
      unfold inL
      exact decide_eq_decide.2 (by rw [List.mem_singleton]; exact eq_comm)
    · rw [if_neg h]
      congr 1
      refine mk_congr fun i _ => ?_
      rw [List.any_cons, dec_n (show ¬ a.2.toNat = j from fun k => h k.symm)]
      simp
theorem rdS_sign (b : Bool) (l : List N2) : ∀ (s : Bool × (Nat → Nat)), l ≠ [] → (∀ q ∈ l, decide (q.1 < 0) = b) → (rdS l s).1 = b := by
  induction l with
  | nil => intro s h; exact absurd rfl h
  | cons a l ih =>
    intro s _ hq
    show (rdS l (decide (a.1 < 0), _)).1 = b
    by_cases hl : l = []
    · subst hl
      exact hq a (List.mem_cons_self ..)
    · exact ih _ hl fun q h => hq q (List.mem_cons_of_mem _ h)
theorem woD_lt (r : Rl) (j : Nat) : woD r j < 18446744073709551616 := by
  unfold woD
  split
  · exact (by decide : 0 < 18446744073709551616)
  · split
    · exact (by decide : 0 < 18446744073709551616)
    · rw [rdS_get, Nat.zero_or]
      exact mk_lt _
theorem any_congrN {l : List N2} {p q : N2 → Bool} (h : ∀ y ∈ l, p y = q y) : l.any p = l.any q := by
  rw [Bool.eq_iff_iff, List.any_eq_true, List.any_eq_true]
  constructor
  · rintro ⟨y, hy, e⟩; exact ⟨y, hy, by rw [← h y hy]; exact e⟩
  · rintro ⟨y, hy, e⟩; exact ⟨y, hy, by rw [h y hy]; exact e⟩
theorem week_eq (r : Rl) (x : Sx) (hx : SxIn x) (h : weeksE r = 0) : (inM (wkM r) x.k && rdoB (woI r) (woB r) (woD r) x) = wkB r x := by
  obtain ⟨_, _, _, _, _, _, k1, k2, i1, i2, o1, o2, y1, y2, z1, z2⟩ := hx
  obtain ⟨hl, hq, h3, h4⟩ := weeks_parts h
  unfold wkM woI woB woD wkB
  by_cases h0 : r.N.length = 0
  · rw [if_pos h0, if_pos h0, if_pos h0, if_pos h0, if_pos h0]
    have e : rdoB 0 false (fun _ => 0) x = true := by unfold rdoB; rw [if_pos rfl]
    rw [e, Bool.and_true]
    by_cases h5 : r.freq = 4
    · rw [if_pos h5, inM_mkD _ _ (by omega) (by omega), any_memD _ _ (by omega), dec_n (show ¬ r.freq ≠ 4 from fun k => k h5)]
      simp [eq_comm]
    · rw [if_neg h5, full_wk _ k1 k2, dec_t h5]; rfl
  · rw [if_neg h0, if_neg h0, if_neg h0, if_neg h0, if_neg h0]
    cases hp : plnB r.N
    · rw [if_neg (by simp), if_neg (by simp), if_neg (by simp), if_neg (by simp), full_wk _ k1 k2, Bool.true_and]
      have hne : ∃ z ∈ nsL r.N, z ≠ 0 := by
        unfold plnB at hp
        have hp' : (r.N.any fun q => decide (q.1 ≠ 0)) = true := by simpa using hp
        obtain ⟨q, hq, hz⟩ := List.any_eq_true.1 hp'
        exact ⟨q.1, List.mem_map.2 ⟨q, hq, rfl⟩, by simpa using hz⟩
      have hsg : sgB (nsL r.N) = false := by
        cases hs : sgB (nsL r.N)
        · rfl
        · rw [hs] at h3; simp at h3
      have hnn : r.N ≠ [] := fun c => h0 (by rw [c]; rfl)
      unfold rdoB
      have hI : ¬ rdI r = 0 := by unfold rdI; split <;> decide
      rw [if_neg hI, rdS_get, Nat.zero_or]
      have hkn : (x.k.toNat : Int) = x.k := Int.toNat_of_nonneg (by omega)
      rcases sg_all hsg hne with g | g
      · have hb := rdS_sign false r.N (false, fun _ => 0) hnn (fun q hq => dec_n (by have := g q.1 (List.mem_map.2 ⟨q, hq, rfl⟩); omega))
        rw [hb, if_neg (by simp)]
        have hsel : ∀ q ∈ r.N, atV r x q.1 = if rdI r = 1 then x.im else x.iy := fun q hq => by
          have g0 := g q.1 (List.mem_map.2 ⟨q, hq, rfl⟩)
          unfold atV rdI
          rw [dec_n (show ¬ q.1 < 0 by omega), dec_t g0]
          cases decide (r.freq = 6) <;> cases decide ((r.Z 0).length = 0) <;> simp
        have hr : 0 ≤ (if rdI r = 1 then x.im else x.iy) ∧ (if rdI r = 1 then x.im else x.iy) < 64 := by split <;> omega
        rw [inM_mkD _ _ hr.1 hr.2]
        refine any_congrN fun q hq' => ?_
        have g0 := g q.1 (List.mem_map.2 ⟨q, hq', rfl⟩)
        have q2 := hq q hq'
        unfold atB
        rw [hsel q hq']
        congr 1
        · exact decide_eq_decide.2 (by omega)
        · rw [Int.toNat_of_nonneg hr.1]
          exact decide_eq_decide.2 (by rw [show max q.1 (-q.1) = q.1 by omega])
      · have hb := rdS_sign true r.N (false, fun _ => 0) hnn (fun q hq => dec_t (g q.1 (List.mem_map.2 ⟨q, hq, rfl⟩)))
        rw [hb, if_pos rfl]
        have hsel : ∀ q ∈ r.N, atV r x q.1 = if rdI r = 1 then -x.om else -x.oy := fun q hq => by
          have g0 := g q.1 (List.mem_map.2 ⟨q, hq, rfl⟩)
          unfold atV rdI
          rw [dec_n (show ¬ 0 < q.1 by omega), dec_t g0]
          cases decide (r.freq = 6) <;> cases decide ((r.Z 0).length = 0) <;> simp
        have hr : 0 ≤ (if rdI r = 1 then x.om else x.oy) ∧ (if rdI r = 1 then x.om else x.oy) < 64 := by split <;> omega
        rw [inM_mkD _ _ hr.1 hr.2]
        refine any_congrN fun q hq' => ?_
        have g0 := g q.1 (List.mem_map.2 ⟨q, hq', rfl⟩)
        have q2 := hq q hq'
        unfold atB
        rw [hsel q hq']
        congr 1
        · exact decide_eq_decide.2 (by omega)
        · rw [Int.toNat_of_nonneg hr.1]
          exact decide_eq_decide.2 (by split <;> omega)
    · rw [if_pos rfl, if_pos rfl, if_pos rfl, if_pos rfl]
      have e : rdoB 0 false (fun _ => 0) x = true := by unfold rdoB; rw [if_pos rfl]
      rw [e, Bool.and_true, inM_mkD _ _ (by omega) (by omega), any_memD _ _ (by omega)]
      unfold dysL
      rw [List.any_map]
      refine any_congrN fun q hq' => ?_
      have hz : q.1 = 0 := by
        unfold plnB at hp
        have hp' : (r.N.any fun q => decide (q.1 ≠ 0)) = false := by simpa using hp
        have := List.any_eq_false.1 hp' q hq'
        simpa using this
      unfold atB atV
      rw [hz]
      simp
theorem dat_eq (r : Rl) (x : Sx) (m d : Int) (hx : SxIn x) (h : chkE r = 0) :
    (inM (moM r m) x.m && inM (domM r d) x.d && inM (endM r) x.b && inM (wkM r) x.k && rdoB (woI r) (woB r) (woD r) x) = datB r x m d := by
  obtain ⟨_, _, c1, c2, _⟩ := chk_all h
  unfold datB
  rw [← mon_eq r x m hx, ← day_eq r x d hx c1, ← week_eq r x hx c2]
  simp only [Bool.and_assoc]
theorem moM_lt (r : Rl) (m : Int) : moM r m < 18446744073709551616 := by
  unfold moM
  split
  · exact mk_lt _
  · split
    · exact mk_lt _
    · decide +kernel
theorem domM_lt (r : Rl) (d : Int) : domM r d < 18446744073709551616 := by
  unfold domM
  split
  · exact mk_lt _
  · split
    · decide +kernel
    · exact mk_lt _
theorem endM_lt (r : Rl) : endM r < 18446744073709551616 := by
  unfold endM
  split
  · decide +kernel
  · exact mk_lt _
theorem wkM_lt (r : Rl) : wkM r < 18446744073709551616 := by
  unfold wkM
  split
  · split
    · exact mk_lt _
    · decide +kernel
  · split
    · exact mk_lt _
    · decide +kernel
end Go.Proofs.YtigbbepgfofcoaaDoor
namespace Go.Proofs.YtigbbepgfofcoaaDoor
open Go.RowKit Civ
set_option linter.unusedVariables false

theorem wf_u32 {a : Int} (h : (Lit.int .u32 a).wf = true) : 0 ≤ a ∧ a ≤ 4294967295 := by
  simp only [Lit.wf, Bool.and_eq_true, decide_eq_true_eq] at h
  exact h
theorem len_sumD (R : Rl) (hz : ∀ j, j < 5 → (R.Z j).length * 8 ≤ reachBytes) (hn : R.N.length * 16 ≤ reachBytes) : lenR R ≤ 9223372036854775807 := by
  have z0 := hz 0 (by decide)
  have z1 := hz 1 (by decide)
  have z2 := hz 2 (by decide)
  have z3 := hz 3 (by decide)
  have z4 := hz 4 (by decide)
  unfold reachBytes at *
  unfold lenR
  omega
def sxOf (n y m d : Int) : Sx := ⟨n, y, m, d, len y m - d + 1, wd n, (d - 1) / 7 + 1, (len y m - d) / 7 + 1, (cum y m + d - 1) / 7 + 1, (365 + lp y - (cum y m + d)) / 7 + 1⟩
theorem sxOf_in {n y m d : Int} (h : IsDate n y m d) : SxIn (sxOf n y m d) := by
  obtain ⟨h1, h2, h3, h4, h5⟩ := h
  have a := len_bd y m h1 h2
  have b := cum_bd y m h1 h2
  have c := lp_01 y
  unfold SxIn sxOf wd
  simp only
  omega
set_option maxHeartbeats 6400000 in
set_option maxRecDepth 20000 in
theorem ruleDays_g (R : Rl) (a : Int) (w : World) (hr : RlAt w R) (hi : RlIn R) (hsum : lenR R ≤ 9223372036854775807) (a0 : 0 ≤ a) (a1 : a ≤ 4294967295) (hT : TabUn w) (hg : 600 < lenR R) :
    Calls Tryd.prog 4 #[rlV R, .int .u32 a] w fun e w' => e = .returned (.bool true) ∧ Below w.heap.size w w' := by
  have HG0 := Lib.hid (blk_new w (.cells (rlC R) 25))
  have HB0 := Lib.hid (show Below w.heap.size w (w.alloc (.cells (rlC R) 25)) from (Below.refl _ _).alloc (Nat.le_refl _) _)
  have KG := great32_any R (w.alloc (.cells (rlC R) 25)) hsum
  have HR := Lib.hid hr
  have HT := Lib.hid hT
  have KL := Lib.hid (fun W h => lives32_any W h)
  rw [dec_t hg] at KG
  clear hg
  obtain ⟨W0, hW0⟩ : ∃ W0, w.alloc (.cells (rlC R) 25) = W0 := ⟨_, rfl⟩
  rw [hW0] at HG0 HB0 KG
  have x0_ : W0.cell? ⟨w.heap.size, 0, none⟩ = some (.int .i64 R.start) := blk_cell HG0.out 0
  have x1_ : W0.cell? ⟨w.heap.size, 1, none⟩ = some (.int .i64 R.freq) := blk_cell HG0.out 1
  have x2_ : W0.cell? ⟨w.heap.size, 2, none⟩ = some (.int .i64 R.itv) := blk_cell HG0.out 2
  have x3_ : W0.cell? ⟨w.heap.size, 3, none⟩ = some (.int .i64 R.cnt) := blk_cell HG0.out 3
  have x4_ : W0.cell? ⟨w.heap.size, 4, none⟩ = some (.int .i64 R.unt) := blk_cell HG0.out 4
  have x5_ : W0.cell? ⟨w.heap.size, 5, none⟩ = some (.slice (R.A 0) (R.Z 0).length (R.c 0)) := blk_cell HG0.out 5
  have x6_ : W0.cell? ⟨w.heap.size, 6, none⟩ = some (.slice (R.A 1) (R.Z 1).length (R.c 1)) := blk_cell HG0.out 6
  have x7_ : W0.cell? ⟨w.heap.size, 7, none⟩ = some (.slice R.AW R.N.length R.cw) := blk_cell HG0.out 7
  have x8_ : W0.cell? ⟨w.heap.size, 8, none⟩ = some (.slice (R.A 2) (R.Z 2).length (R.c 2)) := blk_cell HG0.out 8
  have x9_ : W0.cell? ⟨w.heap.size, 9, none⟩ = some (.slice (R.A 3) (R.Z 3).length (R.c 3)) := blk_cell HG0.out 9
  have x10_ : W0.cell? ⟨w.heap.size, 10, none⟩ = some (.slice (R.A 4) (R.Z 4).length (R.c 4)) := blk_cell HG0.out 10
  have HW := Lib.hid hW0
  unfold rlV rlC at KG ⊢
  unfold rlC at HW
  clear hr hT hW0 hi hsum
  go_enter Tryd.func4, Tryd.ntmps4
  go_wp2_with fail
  try rw [HW.out]
  refine KG.mono ?_
  rintro e w1 ⟨rfl, hb⟩
  have HB1 := Lib.hid (HB0.out.trans (hb.mono HB0.out.size))
  have HG1 := Lib.hid ((hb.block _ (lt_of_block HG0.out)).trans HG0.out)
  clear hb KG HW x0_ x1_ x2_ x3_ x4_ x5_ x6_ x7_ x8_ x9_ x10_ HB0 HG0
  go_wp2_with fail
  refine (KL.out _ (HT.out.bel HB1.out)).mono ?_
  rintro e w2 ⟨rfl, hb⟩
  go_wp2
  go_ret
  exact ⟨rfl, HB1.out.trans (hb.mono HB1.out.size)⟩
set_option maxHeartbeats 6400000 in
set_option maxRecDepth 20000 in
theorem ruleDays_n (R : Rl) (a : Int) (w : World) (hr : RlAt w R) (hi : RlIn R) (hsum : lenR R ≤ 9223372036854775807) (a0 : 0 ≤ a) (a1 : a ≤ 4294967295) (hT : TabUn w) (hg : ¬ 600 < lenR R) (hc : chkE R ≠ 0) :
    Calls Tryd.prog 4 #[rlV R, .int .u32 a] w fun e w' => e = .returned (.bool true) ∧ Below w.heap.size w w' := by
  have HG0 := Lib.hid (blk_new w (.cells (rlC R) 25))
  have HB0 := Lib.hid (show Below w.heap.size w (w.alloc (.cells (rlC R) 25)) from (Below.refl _ _).alloc (Nat.le_refl _) _)
  have KG := great32_any R (w.alloc (.cells (rlC R) 25)) hsum
  have HR := Lib.hid hr
  have HT := Lib.hid hT
  have KL := Lib.hid (fun W h => lives32_any W h)
  rw [dec_n hg] at KG
  have hN : R.N.length ≤ 100000 := by unfold lenR at hg; omega
  have KC := Lib.hid (fun W h => rcheck32_any R W h hi hN)
  have KM := Lib.hid (fun W h ht => months_no R W h hi hN ht hc)
  have KD := Lib.hid (fun W h ht => days_no R W h hi hN ht hc)
  have KW := Lib.hid (fun W h ht => week_no R W h hi hN ht hc)
  have e1 : (chkE R != 0) = true := by simp [hc]
  have e2 : (chkE R == 0) = false := by rw [beq_eq_false_iff_ne]; exact hc
  generalize chkE R = ec at KC e1 e2
  have heq : ∀ W, (Op.equalIn 10000 41 (.agg #[.int .i64 0, .bool false, .int .u64 0, .int .u64 0, .int .u64 0, .int .u64 0, .int .u64 0, .int .u64 0, .int .u64 0, .int .u64 0]) (.agg #[.int .i64 0, .bool false, .int .u64 0, .int .u64 0, .int .u64 0, .int .u64 0, .int .u64 0, .int .u64 0, .int .u64 0, .int .u64 0])).run Tryd.prog W = .ok true W := fun W => (eq_ord 0 false (fun _ => 0) W).trans (by simp)
  have hgd := guard_ord
  clear hg hc hN
  obtain ⟨W0, hW0⟩ : ∃ W0, w.alloc (.cells (rlC R) 25) = W0 := ⟨_, rfl⟩
  rw [hW0] at HG0 HB0 KG
  have x0_ : W0.cell? ⟨w.heap.size, 0, none⟩ = some (.int .i64 R.start) := blk_cell HG0.out 0
  have x1_ : W0.cell? ⟨w.heap.size, 1, none⟩ = some (.int .i64 R.freq) := blk_cell HG0.out 1
  have x2_ : W0.cell? ⟨w.heap.size, 2, none⟩ = some (.int .i64 R.itv) := blk_cell HG0.out 2
  have x3_ : W0.cell? ⟨w.heap.size, 3, none⟩ = some (.int .i64 R.cnt) := blk_cell HG0.out 3
  have x4_ : W0.cell? ⟨w.heap.size, 4, none⟩ = some (.int .i64 R.unt) := blk_cell HG0.out 4
  have x5_ : W0.cell? ⟨w.heap.size, 5, none⟩ = some (.slice (R.A 0) (R.Z 0).length (R.c 0)) := blk_cell HG0.out 5
  have x6_ : W0.cell? ⟨w.heap.size, 6, none⟩ = some (.slice (R.A 1) (R.Z 1).length (R.c 1)) := blk_cell HG0.out 6
  have x7_ : W0.cell? ⟨w.heap.size, 7, none⟩ = some (.slice R.AW R.N.length R.cw) := blk_cell HG0.out 7
  have x8_ : W0.cell? ⟨w.heap.size, 8, none⟩ = some (.slice (R.A 2) (R.Z 2).length (R.c 2)) := blk_cell HG0.out 8
  have x9_ : W0.cell? ⟨w.heap.size, 9, none⟩ = some (.slice (R.A 3) (R.Z 3).length (R.c 3)) := blk_cell HG0.out 9
  have x10_ : W0.cell? ⟨w.heap.size, 10, none⟩ = some (.slice (R.A 4) (R.Z 4).length (R.c 4)) := blk_cell HG0.out 10
  have HW := Lib.hid hW0
  unfold rlV rlC at KG ⊢
  unfold rlC at HW
  clear hr hT hW0 hi hsum
  go_enter Tryd.func4, Tryd.ntmps4
  go_wp2_with fail
  try rw [HW.out]
  refine KG.mono ?_
  rintro e w1 ⟨rfl, hb⟩
  have HB1 := Lib.hid (HB0.out.trans (hb.mono HB0.out.size))
  have HG1 := Lib.hid ((hb.block _ (lt_of_block HG0.out)).trans HG0.out)
  clear hb KG HW x0_ x1_ x2_ x3_ x4_ x5_ x6_ x7_ x8_ x9_ x10_ HB0 HG0
  have y0_ : w1.cell? ⟨w.heap.size, 0, none⟩ = some (.int .i64 R.start) := blk_cell HG1.out 0
  have y1_ : w1.cell? ⟨w.heap.size, 1, none⟩ = some (.int .i64 R.freq) := blk_cell HG1.out 1
  have y2_ : w1.cell? ⟨w.heap.size, 2, none⟩ = some (.int .i64 R.itv) := blk_cell HG1.out 2
  have y3_ : w1.cell? ⟨w.heap.size, 3, none⟩ = some (.int .i64 R.cnt) := blk_cell HG1.out 3
  have y4_ : w1.cell? ⟨w.heap.size, 4, none⟩ = some (.int .i64 R.unt) := blk_cell HG1.out 4
  have y5_ : w1.cell? ⟨w.heap.size, 5, none⟩ = some (.slice (R.A 0) (R.Z 0).length (R.c 0)) := blk_cell HG1.out 5
  have y6_ : w1.cell? ⟨w.heap.size, 6, none⟩ = some (.slice (R.A 1) (R.Z 1).length (R.c 1)) := blk_cell HG1.out 6
  have y7_ : w1.cell? ⟨w.heap.size, 7, none⟩ = some (.slice R.AW R.N.length R.cw) := blk_cell HG1.out 7
  have y8_ : w1.cell? ⟨w.heap.size, 8, none⟩ = some (.slice (R.A 2) (R.Z 2).length (R.c 2)) := blk_cell HG1.out 8
  have y9_ : w1.cell? ⟨w.heap.size, 9, none⟩ = some (.slice (R.A 3) (R.Z 3).length (R.c 3)) := blk_cell HG1.out 9
  have y10_ : w1.cell? ⟨w.heap.size, 10, none⟩ = some (.slice (R.A 4) (R.Z 4).length (R.c 4)) := blk_cell HG1.out 10
  go_wp2_with fail
  refine (KM.out _ (HR.out.below HB1.out) (HT.out.bel HB1.out)).mono ?_
  rintro e w2 ⟨rfl, hb⟩
  have HB2 := Lib.hid (HB1.out.trans (hb.mono HB1.out.size))
  have HG2 := Lib.hid ((hb.block _ (lt_of_block HG1.out)).trans HG1.out)
  clear hb y0_ y1_ y2_ y3_ y4_ y5_ y6_ y7_ y8_ y9_ y10_ HB1 HG1
  have y0_ : w2.cell? ⟨w.heap.size, 0, none⟩ = some (.int .i64 R.start) := blk_cell HG2.out 0
  have y1_ : w2.cell? ⟨w.heap.size, 1, none⟩ = some (.int .i64 R.freq) := blk_cell HG2.out 1
  have y2_ : w2.cell? ⟨w.heap.size, 2, none⟩ = some (.int .i64 R.itv) := blk_cell HG2.out 2
  have y3_ : w2.cell? ⟨w.heap.size, 3, none⟩ = some (.int .i64 R.cnt) := blk_cell HG2.out 3
  have y4_ : w2.cell? ⟨w.heap.size, 4, none⟩ = some (.int .i64 R.unt) := blk_cell HG2.out 4
  have y5_ : w2.cell? ⟨w.heap.size, 5, none⟩ = some (.slice (R.A 0) (R.Z 0).length (R.c 0)) := blk_cell HG2.out 5
  have y6_ : w2.cell? ⟨w.heap.size, 6, none⟩ = some (.slice (R.A 1) (R.Z 1).length (R.c 1)) := blk_cell HG2.out 6
  have y7_ : w2.cell? ⟨w.heap.size, 7, none⟩ = some (.slice R.AW R.N.length R.cw) := blk_cell HG2.out 7
  have y8_ : w2.cell? ⟨w.heap.size, 8, none⟩ = some (.slice (R.A 2) (R.Z 2).length (R.c 2)) := blk_cell HG2.out 8
  have y9_ : w2.cell? ⟨w.heap.size, 9, none⟩ = some (.slice (R.A 3) (R.Z 3).length (R.c 3)) := blk_cell HG2.out 9
  have y10_ : w2.cell? ⟨w.heap.size, 10, none⟩ = some (.slice (R.A 4) (R.Z 4).length (R.c 4)) := blk_cell HG2.out 10
  go_wp2_with fail
  refine (KD.out _ (HR.out.below HB2.out) (HT.out.bel HB2.out)).mono ?_
  rintro e w3 ⟨rfl, hb⟩
  have HB3 := Lib.hid (HB2.out.trans (hb.mono HB2.out.size))
  have HG3 := Lib.hid ((hb.block _ (lt_of_block HG2.out)).trans HG2.out)
  clear hb y0_ y1_ y2_ y3_ y4_ y5_ y6_ y7_ y8_ y9_ y10_ HB2 HG2
  have y0_ : w3.cell? ⟨w.heap.size, 0, none⟩ = some (.int .i64 R.start) := blk_cell HG3.out 0
  have y1_ : w3.cell? ⟨w.heap.size, 1, none⟩ = some (.int .i64 R.freq) := blk_cell HG3.out 1
  have y2_ : w3.cell? ⟨w.heap.size, 2, none⟩ = some (.int .i64 R.itv) := blk_cell HG3.out 2
  have y3_ : w3.cell? ⟨w.heap.size, 3, none⟩ = some (.int .i64 R.cnt) := blk_cell HG3.out 3
  have y4_ : w3.cell? ⟨w.heap.size, 4, none⟩ = some (.int .i64 R.unt) := blk_cell HG3.out 4
  have y5_ : w3.cell? ⟨w.heap.size, 5, none⟩ = some (.slice (R.A 0) (R.Z 0).length (R.c 0)) := blk_cell HG3.out 5
  have y6_ : w3.cell? ⟨w.heap.size, 6, none⟩ = some (.slice (R.A 1) (R.Z 1).length (R.c 1)) := blk_cell HG3.out 6
  have y7_ : w3.cell? ⟨w.heap.size, 7, none⟩ = some (.slice R.AW R.N.length R.cw) := blk_cell HG3.out 7
  have y8_ : w3.cell? ⟨w.heap.size, 8, none⟩ = some (.slice (R.A 2) (R.Z 2).length (R.c 2)) := blk_cell HG3.out 8
  have y9_ : w3.cell? ⟨w.heap.size, 9, none⟩ = some (.slice (R.A 3) (R.Z 3).length (R.c 3)) := blk_cell HG3.out 9
  have y10_ : w3.cell? ⟨w.heap.size, 10, none⟩ = some (.slice (R.A 4) (R.Z 4).length (R.c 4)) := blk_cell HG3.out 10
  go_wp2_with fail
  refine (KW.out _ (HR.out.below HB3.out) (HT.out.bel HB3.out)).mono ?_
  rintro e w4 ⟨rfl, hb⟩
  have HB4 := Lib.hid (HB3.out.trans (hb.mono HB3.out.size))
  have HG4 := Lib.hid ((hb.block _ (lt_of_block HG3.out)).trans HG3.out)
  clear hb y0_ y1_ y2_ y3_ y4_ y5_ y6_ y7_ y8_ y9_ y10_ HB3 HG3
  have HB5 := Lib.hid (HB4.out.alloc HB4.out.size (.cells #[.int .i64 0, .bool false, .int .u64 0, .int .u64 0, .int .u64 0, .int .u64 0, .int .u64 0, .int .u64 0, .int .u64 0, .int .u64 0] 41))
  have HG5 := Lib.hid (blk_more HG4.out (.cells #[.int .i64 0, .bool false, .int .u64 0, .int .u64 0, .int .u64 0, .int .u64 0, .int .u64 0, .int .u64 0, .int .u64 0, .int .u64 0] 41))
  have HO5 := Lib.hid (blk_new w4 (.cells #[.int .i64 0, .bool false, .int .u64 0, .int .u64 0, .int .u64 0, .int .u64 0, .int .u64 0, .int .u64 0, .int .u64 0, .int .u64 0] 41))
  go_upto_region 6 with (refine wpList_storeNew #[.int .i64 0, .bool false, .int .u64 0, .int .u64 0, .int .u64 0, .int .u64 0, .int .u64 0, .int .u64 0, .int .u64 0, .int .u64 0] rfl _ _ _ rfl rfl rfl (by kernel_rfl) rfl (by simp [Value.oneCell']) ?_)
  generalize w4.heap.size = go at HO5 ⊢
  obtain ⟨w5, hw5⟩ : ∃ w5, w4.alloc (.cells #[.int .i64 0, .bool false, .int .u64 0, .int .u64 0, .int .u64 0, .int .u64 0, .int .u64 0, .int .u64 0, .int .u64 0, .int .u64 0] 41) = w5 := ⟨_, rfl⟩
  rw [hw5] at HB5 HG5 HO5 ⊢
  clear hw5 HB4 HG4
  have y0_ : w5.cell? ⟨w.heap.size, 0, none⟩ = some (.int .i64 R.start) := blk_cell HG5.out 0
  have y1_ : w5.cell? ⟨w.heap.size, 1, none⟩ = some (.int .i64 R.freq) := blk_cell HG5.out 1
  have y2_ : w5.cell? ⟨w.heap.size, 2, none⟩ = some (.int .i64 R.itv) := blk_cell HG5.out 2
  have y3_ : w5.cell? ⟨w.heap.size, 3, none⟩ = some (.int .i64 R.cnt) := blk_cell HG5.out 3
  have y4_ : w5.cell? ⟨w.heap.size, 4, none⟩ = some (.int .i64 R.unt) := blk_cell HG5.out 4
  have y5_ : w5.cell? ⟨w.heap.size, 5, none⟩ = some (.slice (R.A 0) (R.Z 0).length (R.c 0)) := blk_cell HG5.out 5
  have y6_ : w5.cell? ⟨w.heap.size, 6, none⟩ = some (.slice (R.A 1) (R.Z 1).length (R.c 1)) := blk_cell HG5.out 6
  have y7_ : w5.cell? ⟨w.heap.size, 7, none⟩ = some (.slice R.AW R.N.length R.cw) := blk_cell HG5.out 7
  have y8_ : w5.cell? ⟨w.heap.size, 8, none⟩ = some (.slice (R.A 2) (R.Z 2).length (R.c 2)) := blk_cell HG5.out 8
  have y9_ : w5.cell? ⟨w.heap.size, 9, none⟩ = some (.slice (R.A 3) (R.Z 3).length (R.c 3)) := blk_cell HG5.out 9
  have y10_ : w5.cell? ⟨w.heap.size, 10, none⟩ = some (.slice (R.A 4) (R.Z 4).length (R.c 4)) := blk_cell HG5.out 10
  go_wp2_with fail
  refine (KC.out _ (HR.out.below HB5.out)).mono ?_
  rintro e w6 ⟨rfl, hb⟩
  have HB6 := Lib.hid (HB5.out.trans (hb.mono HB5.out.size))
  have HG6 := Lib.hid ((hb.block _ (lt_of_block HG5.out)).trans HG5.out)
  have HO6 := Lib.hid ((hb.block _ (lt_of_block HO5.out)).trans HO5.out)
  clear HO5
  clear hb y0_ y1_ y2_ y3_ y4_ y5_ y6_ y7_ y8_ y9_ y10_ HB5 HG5
  have o0 : w6.cell? ⟨go, 0, none⟩ = some (.int .i64 0) := blk_cell HO6.out 0
  have o1 : w6.cell? ⟨go, 1, none⟩ = some (.bool false) := blk_cell HO6.out 1
  have o2 : w6.cell? ⟨go, 2, none⟩ = some (.int .u64 0) := blk_cell HO6.out 2
  have o3 : w6.cell? ⟨go, 3, none⟩ = some (.int .u64 0) := blk_cell HO6.out 3
  have o4 : w6.cell? ⟨go, 4, none⟩ = some (.int .u64 0) := blk_cell HO6.out 4
  have o5 : w6.cell? ⟨go, 5, none⟩ = some (.int .u64 0) := blk_cell HO6.out 5
  have o6 : w6.cell? ⟨go, 6, none⟩ = some (.int .u64 0) := blk_cell HO6.out 6
  have o7 : w6.cell? ⟨go, 7, none⟩ = some (.int .u64 0) := blk_cell HO6.out 7
  have o8 : w6.cell? ⟨go, 8, none⟩ = some (.int .u64 0) := blk_cell HO6.out 8
  have o9 : w6.cell? ⟨go, 9, none⟩ = some (.int .u64 0) := blk_cell HO6.out 9
  go_wp2_with fail
  refine (KL.out _ (HT.out.bel HB6.out)).mono ?_
  rintro e w7 ⟨rfl, hb⟩
  go_wp2
  go_ret
  exact ⟨rfl, HB6.out.trans (hb.mono HB6.out.size)⟩
set_option maxHeartbeats 6400000 in
set_option maxRecDepth 20000 in
theorem ruleDays_y (R : Rl) (a : Int) (w : World) (hr : RlAt w R) (hi : RlIn R) (hsum : lenR R ≤ 9223372036854775807) (a0 : 0 ≤ a) (a1 : a ≤ 4294967295) (hT : TabUn w) (hg : ¬ 600 < lenR R) (hc : chkE R = 0) :
    Calls Tryd.prog 4 #[rlV R, .int .u32 a] w fun e w' => e = .returned (.bool true) ∧ Below w.heap.size w w' := by
  have HG0 := Lib.hid (blk_new w (.cells (rlC R) 25))
  have HB0 := Lib.hid (show Below w.heap.size w (w.alloc (.cells (rlC R) 25)) from (Below.refl _ _).alloc (Nat.le_refl _) _)
  have KG := great32_any R (w.alloc (.cells (rlC R) 25)) hsum
  have HR := Lib.hid hr
  have HT := Lib.hid hT
  have KL := Lib.hid (fun W h => lives32_any W h)
  rw [dec_n hg] at KG
  have hN : R.N.length ≤ 100000 := by unfold lenR at hg; omega
  have KC := Lib.hid (fun W h => rcheck32_any R W h hi hN)
  obtain ⟨s1, s2⟩ := chk_start R hc
  obtain ⟨y, m, d, hd⟩ := exists_date (R.start / 86400)
  have hlen : ∀ i, i < 5 → (R.Z i).length ≤ 1000000 := fun i hi => by
    unfold lenR at hg
    obtain rfl | rfl | rfl | rfl | rfl : i = 0 ∨ i = 1 ∨ i = 2 ∨ i = 3 ∨ i = 4 := by omega
    all_goals omega
  have KM := Lib.hid (fun W h ht => months_yes R W h hi hN ht hc y m d hd hlen)
  have KD := Lib.hid (fun W h ht => days_yes R W h hi hN ht hc y m d hd)
  have KW0 := fun W h ht => week_yes R W h hi hN ht hc y m d hd
  rw [wkO_eq] at KW0
  have KW := Lib.hid KW0
  obtain ⟨n, hna⟩ : ∃ n, a % 146097 = n := ⟨_, rfl⟩
  have n0 : 0 ≤ n := by omega
  have n1 : n < 146097 := by omega
  obtain ⟨y2, m2, d2, hd2⟩ := exists_date n
  have hX := sxOf_in hd2
  have KSH0 := fun W => show Calls Tryd.prog 16 #[.int .i64 n] W (fun e w' => e = .returned (.agg (sxC (sxOf n y2 m2 d2))) ∧ Below W.heap.size W w') from rshape_ok n y2 m2 d2 W hd2 n0 n1
  generalize sxOf n y2 m2 d2 = X at hX KSH0
  have KSH := Lib.hid KSH0
  have KT := Lib.hid (fun W h => date32_any R X W h hi hN hX s1 s2 y m d hd)
  have KO := Lib.hid (fun W => ord32_any (woI R) (woB R) (woD R) X W (woI_in R) (fun j _ => woD_lt R j) hX)
  have hq := dat_eq R X m d hX hc
  have KH1 := Lib.hid (fun W => rhas_any (moM R m) X.m W (moM_lt R m))
  have KH2 := Lib.hid (fun W => rhas_any (domM R d) X.d W (domM_lt R d))
  have KH3 := Lib.hid (fun W => rhas_any (endM R) X.b W (endM_lt R))
  have KH4 := Lib.hid (fun W => rhas_any (wkM R) X.k W (wkM_lt R))
  rw [hc] at KC
  generalize inM (moM R m) X.m = b1 at KH1 hq
  generalize inM (domM R d) X.d = b2 at KH2 hq
  generalize inM (endM R) X.b = b3 at KH3 hq
  generalize inM (wkM R) X.k = b4 at KH4 hq
  generalize rdoB (woI R) (woB R) (woD R) X = b5 at KO hq
  generalize datB R X m d = tb at KT hq
  generalize moM R m = M1 at KM KH1
  generalize domM R d = M2 at KD KH2
  generalize endM R = M3 at KD KH3
  generalize wkM R = M4 at KW KH4
  generalize woI R = wI at KW KO
  generalize woB R = wB at KW KO
  generalize woD R = wD at KW KO
  have HQ := Lib.hid hq
  have u1 : IntKind.i64.wrap a = a := IntWalk.i64_in _ ⟨by omega, by omega⟩
  have u2 : IntKind.i64.wrap n = n := IntWalk.i64_in _ ⟨by omega, by omega⟩
  unfold rdC sxC at KO
  unfold sxC at KSH
  unfold rlV rlC sxC at KT
  clear hg hc hN s1 s2 hd hlen hd2 hX KSH0 hq KW0
  obtain ⟨W0, hW0⟩ : ∃ W0, w.alloc (.cells (rlC R) 25) = W0 := ⟨_, rfl⟩
  rw [hW0] at HG0 HB0 KG
  have x0_ : W0.cell? ⟨w.heap.size, 0, none⟩ = some (.int .i64 R.start) := blk_cell HG0.out 0
  have x1_ : W0.cell? ⟨w.heap.size, 1, none⟩ = some (.int .i64 R.freq) := blk_cell HG0.out 1
  have x2_ : W0.cell? ⟨w.heap.size, 2, none⟩ = some (.int .i64 R.itv) := blk_cell HG0.out 2
  have x3_ : W0.cell? ⟨w.heap.size, 3, none⟩ = some (.int .i64 R.cnt) := blk_cell HG0.out 3
  have x4_ : W0.cell? ⟨w.heap.size, 4, none⟩ = some (.int .i64 R.unt) := blk_cell HG0.out 4
  have x5_ : W0.cell? ⟨w.heap.size, 5, none⟩ = some (.slice (R.A 0) (R.Z 0).length (R.c 0)) := blk_cell HG0.out 5
  have x6_ : W0.cell? ⟨w.heap.size, 6, none⟩ = some (.slice (R.A 1) (R.Z 1).length (R.c 1)) := blk_cell HG0.out 6
  have x7_ : W0.cell? ⟨w.heap.size, 7, none⟩ = some (.slice R.AW R.N.length R.cw) := blk_cell HG0.out 7
  have x8_ : W0.cell? ⟨w.heap.size, 8, none⟩ = some (.slice (R.A 2) (R.Z 2).length (R.c 2)) := blk_cell HG0.out 8
  have x9_ : W0.cell? ⟨w.heap.size, 9, none⟩ = some (.slice (R.A 3) (R.Z 3).length (R.c 3)) := blk_cell HG0.out 9
  have x10_ : W0.cell? ⟨w.heap.size, 10, none⟩ = some (.slice (R.A 4) (R.Z 4).length (R.c 4)) := blk_cell HG0.out 10
  have HW := Lib.hid hW0
  unfold rlV rlC at KG ⊢
  unfold rlC at HW
  clear hr hT hW0 hi hsum
  go_enter Tryd.func4, Tryd.ntmps4
  go_wp2_with fail
  try rw [HW.out]
  refine KG.mono ?_
  rintro e w1 ⟨rfl, hb⟩
  have HB1 := Lib.hid (HB0.out.trans (hb.mono HB0.out.size))
  have HG1 := Lib.hid ((hb.block _ (lt_of_block HG0.out)).trans HG0.out)
  clear hb KG HW x0_ x1_ x2_ x3_ x4_ x5_ x6_ x7_ x8_ x9_ x10_ HB0 HG0
  have y0_ : w1.cell? ⟨w.heap.size, 0, none⟩ = some (.int .i64 R.start) := blk_cell HG1.out 0
  have y1_ : w1.cell? ⟨w.heap.size, 1, none⟩ = some (.int .i64 R.freq) := blk_cell HG1.out 1
  have y2_ : w1.cell? ⟨w.heap.size, 2, none⟩ = some (.int .i64 R.itv) := blk_cell HG1.out 2
  have y3_ : w1.cell? ⟨w.heap.size, 3, none⟩ = some (.int .i64 R.cnt) := blk_cell HG1.out 3
  have y4_ : w1.cell? ⟨w.heap.size, 4, none⟩ = some (.int .i64 R.unt) := blk_cell HG1.out 4
  have y5_ : w1.cell? ⟨w.heap.size, 5, none⟩ = some (.slice (R.A 0) (R.Z 0).length (R.c 0)) := blk_cell HG1.out 5
  have y6_ : w1.cell? ⟨w.heap.size, 6, none⟩ = some (.slice (R.A 1) (R.Z 1).length (R.c 1)) := blk_cell HG1.out 6
  have y7_ : w1.cell? ⟨w.heap.size, 7, none⟩ = some (.slice R.AW R.N.length R.cw) := blk_cell HG1.out 7
  have y8_ : w1.cell? ⟨w.heap.size, 8, none⟩ = some (.slice (R.A 2) (R.Z 2).length (R.c 2)) := blk_cell HG1.out 8
  have y9_ : w1.cell? ⟨w.heap.size, 9, none⟩ = some (.slice (R.A 3) (R.Z 3).length (R.c 3)) := blk_cell HG1.out 9
  have y10_ : w1.cell? ⟨w.heap.size, 10, none⟩ = some (.slice (R.A 4) (R.Z 4).length (R.c 4)) := blk_cell HG1.out 10
  go_wp2_with fail
  refine (KM.out _ (HR.out.below HB1.out) (HT.out.bel HB1.out)).mono ?_
  rintro e w2 ⟨rfl, hb⟩
  have HB2 := Lib.hid (HB1.out.trans (hb.mono HB1.out.size))
  have HG2 := Lib.hid ((hb.block _ (lt_of_block HG1.out)).trans HG1.out)
  clear hb y0_ y1_ y2_ y3_ y4_ y5_ y6_ y7_ y8_ y9_ y10_ HB1 HG1
  have y0_ : w2.cell? ⟨w.heap.size, 0, none⟩ = some (.int .i64 R.start) := blk_cell HG2.out 0
  have y1_ : w2.cell? ⟨w.heap.size, 1, none⟩ = some (.int .i64 R.freq) := blk_cell HG2.out 1
  have y2_ : w2.cell? ⟨w.heap.size, 2, none⟩ = some (.int .i64 R.itv) := blk_cell HG2.out 2
  have y3_ : w2.cell? ⟨w.heap.size, 3, none⟩ = some (.int .i64 R.cnt) := blk_cell HG2.out 3
  have y4_ : w2.cell? ⟨w.heap.size, 4, none⟩ = some (.int .i64 R.unt) := blk_cell HG2.out 4
  have y5_ : w2.cell? ⟨w.heap.size, 5, none⟩ = some (.slice (R.A 0) (R.Z 0).length (R.c 0)) := blk_cell HG2.out 5
  have y6_ : w2.cell? ⟨w.heap.size, 6, none⟩ = some (.slice (R.A 1) (R.Z 1).length (R.c 1)) := blk_cell HG2.out 6
  have y7_ : w2.cell? ⟨w.heap.size, 7, none⟩ = some (.slice R.AW R.N.length R.cw) := blk_cell HG2.out 7
  have y8_ : w2.cell? ⟨w.heap.size, 8, none⟩ = some (.slice (R.A 2) (R.Z 2).length (R.c 2)) := blk_cell HG2.out 8
  have y9_ : w2.cell? ⟨w.heap.size, 9, none⟩ = some (.slice (R.A 3) (R.Z 3).length (R.c 3)) := blk_cell HG2.out 9
  have y10_ : w2.cell? ⟨w.heap.size, 10, none⟩ = some (.slice (R.A 4) (R.Z 4).length (R.c 4)) := blk_cell HG2.out 10
  go_wp2_with fail
  refine (KD.out _ (HR.out.below HB2.out) (HT.out.bel HB2.out)).mono ?_
  rintro e w3 ⟨rfl, hb⟩
  have HB3 := Lib.hid (HB2.out.trans (hb.mono HB2.out.size))
  have HG3 := Lib.hid ((hb.block _ (lt_of_block HG2.out)).trans HG2.out)
  clear hb y0_ y1_ y2_ y3_ y4_ y5_ y6_ y7_ y8_ y9_ y10_ HB2 HG2
  have y0_ : w3.cell? ⟨w.heap.size, 0, none⟩ = some (.int .i64 R.start) := blk_cell HG3.out 0
  have y1_ : w3.cell? ⟨w.heap.size, 1, none⟩ = some (.int .i64 R.freq) := blk_cell HG3.out 1
  have y2_ : w3.cell? ⟨w.heap.size, 2, none⟩ = some (.int .i64 R.itv) := blk_cell HG3.out 2
  have y3_ : w3.cell? ⟨w.heap.size, 3, none⟩ = some (.int .i64 R.cnt) := blk_cell HG3.out 3
  have y4_ : w3.cell? ⟨w.heap.size, 4, none⟩ = some (.int .i64 R.unt) := blk_cell HG3.out 4
  have y5_ : w3.cell? ⟨w.heap.size, 5, none⟩ = some (.slice (R.A 0) (R.Z 0).length (R.c 0)) := blk_cell HG3.out 5
  have y6_ : w3.cell? ⟨w.heap.size, 6, none⟩ = some (.slice (R.A 1) (R.Z 1).length (R.c 1)) := blk_cell HG3.out 6
  have y7_ : w3.cell? ⟨w.heap.size, 7, none⟩ = some (.slice R.AW R.N.length R.cw) := blk_cell HG3.out 7
  have y8_ : w3.cell? ⟨w.heap.size, 8, none⟩ = some (.slice (R.A 2) (R.Z 2).length (R.c 2)) := blk_cell HG3.out 8
  have y9_ : w3.cell? ⟨w.heap.size, 9, none⟩ = some (.slice (R.A 3) (R.Z 3).length (R.c 3)) := blk_cell HG3.out 9
  have y10_ : w3.cell? ⟨w.heap.size, 10, none⟩ = some (.slice (R.A 4) (R.Z 4).length (R.c 4)) := blk_cell HG3.out 10
  go_wp2_with fail
  refine (KW.out _ (HR.out.below HB3.out) (HT.out.bel HB3.out)).mono ?_
  rintro e w4 ⟨rfl, hb⟩
  have HB4 := Lib.hid (HB3.out.trans (hb.mono HB3.out.size))
  have HG4 := Lib.hid ((hb.block _ (lt_of_block HG3.out)).trans HG3.out)
  clear hb y0_ y1_ y2_ y3_ y4_ y5_ y6_ y7_ y8_ y9_ y10_ HB3 HG3
  have HB5 := Lib.hid (HB4.out.alloc HB4.out.size (.cells (rdC wI wB wD) 41))
  have HG5 := Lib.hid (blk_more HG4.out (.cells (rdC wI wB wD) 41))
  have HO5 := Lib.hid (blk_new w4 (.cells (rdC wI wB wD) 41))
  go_upto_region 6 with (refine wpList_storeNew (rdC wI wB wD) rfl _ _ _ rfl rfl rfl (by kernel_rfl) (by kernel_rfl) (rdC_one _ _ _) ?_)
  generalize w4.heap.size = go at HO5 ⊢
  obtain ⟨w5, hw5⟩ : ∃ w5, w4.alloc (.cells (rdC wI wB wD) 41) = w5 := ⟨_, rfl⟩
  rw [hw5] at HB5 HG5 HO5 ⊢
  clear hw5 HB4 HG4
  have y0_ : w5.cell? ⟨w.heap.size, 0, none⟩ = some (.int .i64 R.start) := blk_cell HG5.out 0
  have y1_ : w5.cell? ⟨w.heap.size, 1, none⟩ = some (.int .i64 R.freq) := blk_cell HG5.out 1
  have y2_ : w5.cell? ⟨w.heap.size, 2, none⟩ = some (.int .i64 R.itv) := blk_cell HG5.out 2
  have y3_ : w5.cell? ⟨w.heap.size, 3, none⟩ = some (.int .i64 R.cnt) := blk_cell HG5.out 3
  have y4_ : w5.cell? ⟨w.heap.size, 4, none⟩ = some (.int .i64 R.unt) := blk_cell HG5.out 4
  have y5_ : w5.cell? ⟨w.heap.size, 5, none⟩ = some (.slice (R.A 0) (R.Z 0).length (R.c 0)) := blk_cell HG5.out 5
  have y6_ : w5.cell? ⟨w.heap.size, 6, none⟩ = some (.slice (R.A 1) (R.Z 1).length (R.c 1)) := blk_cell HG5.out 6
  have y7_ : w5.cell? ⟨w.heap.size, 7, none⟩ = some (.slice R.AW R.N.length R.cw) := blk_cell HG5.out 7
  have y8_ : w5.cell? ⟨w.heap.size, 8, none⟩ = some (.slice (R.A 2) (R.Z 2).length (R.c 2)) := blk_cell HG5.out 8
  have y9_ : w5.cell? ⟨w.heap.size, 9, none⟩ = some (.slice (R.A 3) (R.Z 3).length (R.c 3)) := blk_cell HG5.out 9
  have y10_ : w5.cell? ⟨w.heap.size, 10, none⟩ = some (.slice (R.A 4) (R.Z 4).length (R.c 4)) := blk_cell HG5.out 10
  go_wp2_with fail
  refine (KC.out _ (HR.out.below HB5.out)).mono ?_
  rintro e w6 ⟨rfl, hb⟩
  have HB6 := Lib.hid (HB5.out.trans (hb.mono HB5.out.size))
  have HG6 := Lib.hid ((hb.block _ (lt_of_block HG5.out)).trans HG5.out)
  have HO6 := Lib.hid ((hb.block _ (lt_of_block HO5.out)).trans HO5.out)
  clear HO5
  clear hb y0_ y1_ y2_ y3_ y4_ y5_ y6_ y7_ y8_ y9_ y10_ HB5 HG5
  go_wp2_with fail
  refine (KSH.out _).mono ?_
  rintro e w7 ⟨rfl, hb⟩
  have HB8 := Lib.hid ((HB6.out.trans (hb.mono HB6.out.size)).alloc (HB6.out.trans (hb.mono HB6.out.size)).size (.cells (sxC X) 45))
  have HG8 := Lib.hid (blk_more ((hb.block _ (lt_of_block HG6.out)).trans HG6.out) (.cells (sxC X) 45))
  have HO8 := Lib.hid (blk_more ((hb.block _ (lt_of_block HO6.out)).trans HO6.out) (.cells (sxC X) 45))
  have HX8 := Lib.hid (blk_new w7 (.cells (sxC X) 45))
  clear hb HB6 HG6 HO6 KSH u1 u2
  go_upto_region 9 with (refine wpList_storeNew (sxC X) rfl _ _ _ rfl rfl rfl (by kernel_rfl) rfl (by simp [sxC, Value.oneCell']) ?_)
  try simp only [Act.put]
  generalize w7.heap.size = gx at HX8 ⊢
  obtain ⟨w8, hw8⟩ : ∃ w8, w7.alloc (.cells (sxC X) 45) = w8 := ⟨_, rfl⟩
  rw [hw8] at HB8 HG8 HO8 HX8 ⊢
  clear hw8
  have o0 : w8.cell? ⟨go, 0, none⟩ = some (.int .i64 wI) := blk_cell HO8.out 0
  have o1 : w8.cell? ⟨go, 1, none⟩ = some (.bool wB) := blk_cell HO8.out 1
  have o2 : w8.cell? ⟨go, 2, none⟩ = some (.int .u64 (wD 0 : Nat)) := blk_cell HO8.out 2
  have o3 : w8.cell? ⟨go, 3, none⟩ = some (.int .u64 (wD 1 : Nat)) := blk_cell HO8.out 3
  have o4 : w8.cell? ⟨go, 4, none⟩ = some (.int .u64 (wD 2 : Nat)) := blk_cell HO8.out 4
  have o5 : w8.cell? ⟨go, 5, none⟩ = some (.int .u64 (wD 3 : Nat)) := blk_cell HO8.out 5
  have o6 : w8.cell? ⟨go, 6, none⟩ = some (.int .u64 (wD 4 : Nat)) := blk_cell HO8.out 6
  have o7 : w8.cell? ⟨go, 7, none⟩ = some (.int .u64 (wD 5 : Nat)) := blk_cell HO8.out 7
  have o8 : w8.cell? ⟨go, 8, none⟩ = some (.int .u64 (wD 6 : Nat)) := blk_cell HO8.out 8
  have o9 : w8.cell? ⟨go, 9, none⟩ = some (.int .u64 (wD 7 : Nat)) := blk_cell HO8.out 9
  have sx0 : w8.cell? ⟨gx, 0, none⟩ = some (.int .i64 X.n) := blk_cell HX8.out 0
  have sx1 : w8.cell? ⟨gx, 1, none⟩ = some (.int .i64 X.y) := blk_cell HX8.out 1
  have sx2 : w8.cell? ⟨gx, 2, none⟩ = some (.int .i64 X.m) := blk_cell HX8.out 2
  have sx3 : w8.cell? ⟨gx, 3, none⟩ = some (.int .i64 X.d) := blk_cell HX8.out 3
  have sx4 : w8.cell? ⟨gx, 4, none⟩ = some (.int .i64 X.b) := blk_cell HX8.out 4
  have sx5 : w8.cell? ⟨gx, 5, none⟩ = some (.int .i64 X.k) := blk_cell HX8.out 5
  have sx6 : w8.cell? ⟨gx, 6, none⟩ = some (.int .i64 X.im) := blk_cell HX8.out 6
  have sx7 : w8.cell? ⟨gx, 7, none⟩ = some (.int .i64 X.om) := blk_cell HX8.out 7
  have sx8 : w8.cell? ⟨gx, 8, none⟩ = some (.int .i64 X.iy) := blk_cell HX8.out 8
  have sx9 : w8.cell? ⟨gx, 9, none⟩ = some (.int .i64 X.oy) := blk_cell HX8.out 9
  go_cut [11] (fun s11 wx => s11 = .bool (b1 && b2 && b3 && b4 && b5) ∧ Below w8.heap.size w8 wx)
  case first =>
    go_wp2_with fail
    refine (KH1.out _).mono ?_
    rintro e v1 ⟨rfl, rfl⟩
    cases b1
    case false =>
      go_wp2_with fail
      go_meet
      exact ⟨rfl, Below.refl _ _⟩
    case true =>
    go_wp2_with fail
    refine (KH2.out _).mono ?_
    rintro e v1 ⟨rfl, rfl⟩
    cases b2
    case false =>
      go_wp2_with fail
      go_meet
      exact ⟨rfl, Below.refl _ _⟩
    case true =>
    go_wp2_with fail
    refine (KH3.out _).mono ?_
    rintro e v1 ⟨rfl, rfl⟩
    cases b3
    case false =>
      go_wp2_with fail
      go_meet
      exact ⟨rfl, Below.refl _ _⟩
    case true =>
    go_wp2_with fail
    refine (KH4.out _).mono ?_
    rintro e v1 ⟨rfl, rfl⟩
    cases b4
    case false =>
      go_wp2_with fail
      go_meet
      exact ⟨rfl, Below.refl _ _⟩
    case true =>
    go_wp2_with fail
    refine (KO.out _).mono ?_
    rintro e v1 ⟨rfl, hb⟩
    have HBQ := Lib.hid hb
    clear hb
    go_wp2_with fail
    go_meet
    exact ⟨rfl, HBQ.out⟩
  case rest =>
  obtain ⟨rfl, hb⟩ := hcut
  rw [HQ.out]
  have HB9 := Lib.hid (HB8.out.trans (hb.mono HB8.out.size))
  have HG9 := Lib.hid ((hb.block _ (lt_of_block HG8.out)).trans HG8.out)
  have HX9 := Lib.hid ((hb.block _ (lt_of_block HX8.out)).trans HX8.out)
  clear hb HB8 HG8 HX8 HO8 KH1 KH2 KH3 KH4 KO HQ o0 o1 o2 o3 o4 o5 o6 o7 o8 o9 sx0 sx1 sx2 sx3 sx4 sx5 sx6 sx7 sx8 sx9
  obtain ⟨w9, hw9⟩ : ∃ w9, w9 = wc := ⟨_, rfl⟩
  subst hw9
  have sx0 : w9.cell? ⟨gx, 0, none⟩ = some (.int .i64 X.n) := blk_cell HX9.out 0
  have sx1 : w9.cell? ⟨gx, 1, none⟩ = some (.int .i64 X.y) := blk_cell HX9.out 1
  have sx2 : w9.cell? ⟨gx, 2, none⟩ = some (.int .i64 X.m) := blk_cell HX9.out 2
  have sx3 : w9.cell? ⟨gx, 3, none⟩ = some (.int .i64 X.d) := blk_cell HX9.out 3
  have sx4 : w9.cell? ⟨gx, 4, none⟩ = some (.int .i64 X.b) := blk_cell HX9.out 4
  have sx5 : w9.cell? ⟨gx, 5, none⟩ = some (.int .i64 X.k) := blk_cell HX9.out 5
  have sx6 : w9.cell? ⟨gx, 6, none⟩ = some (.int .i64 X.im) := blk_cell HX9.out 6
  have sx7 : w9.cell? ⟨gx, 7, none⟩ = some (.int .i64 X.om) := blk_cell HX9.out 7
  have sx8 : w9.cell? ⟨gx, 8, none⟩ = some (.int .i64 X.iy) := blk_cell HX9.out 8
  have sx9 : w9.cell? ⟨gx, 9, none⟩ = some (.int .i64 X.oy) := blk_cell HX9.out 9
  have y0_ : w9.cell? ⟨w.heap.size, 0, none⟩ = some (.int .i64 R.start) := blk_cell HG9.out 0
  have y1_ : w9.cell? ⟨w.heap.size, 1, none⟩ = some (.int .i64 R.freq) := blk_cell HG9.out 1
  have y2_ : w9.cell? ⟨w.heap.size, 2, none⟩ = some (.int .i64 R.itv) := blk_cell HG9.out 2
  have y3_ : w9.cell? ⟨w.heap.size, 3, none⟩ = some (.int .i64 R.cnt) := blk_cell HG9.out 3
  have y4_ : w9.cell? ⟨w.heap.size, 4, none⟩ = some (.int .i64 R.unt) := blk_cell HG9.out 4
  have y5_ : w9.cell? ⟨w.heap.size, 5, none⟩ = some (.slice (R.A 0) (R.Z 0).length (R.c 0)) := blk_cell HG9.out 5
  have y6_ : w9.cell? ⟨w.heap.size, 6, none⟩ = some (.slice (R.A 1) (R.Z 1).length (R.c 1)) := blk_cell HG9.out 6
  have y7_ : w9.cell? ⟨w.heap.size, 7, none⟩ = some (.slice R.AW R.N.length R.cw) := blk_cell HG9.out 7
  have y8_ : w9.cell? ⟨w.heap.size, 8, none⟩ = some (.slice (R.A 2) (R.Z 2).length (R.c 2)) := blk_cell HG9.out 8
  have y9_ : w9.cell? ⟨w.heap.size, 9, none⟩ = some (.slice (R.A 3) (R.Z 3).length (R.c 3)) := blk_cell HG9.out 9
  have y10_ : w9.cell? ⟨w.heap.size, 10, none⟩ = some (.slice (R.A 4) (R.Z 4).length (R.c 4)) := blk_cell HG9.out 10
  have htb : (tb == tb) = true := by simp
  go_wp2_with fail
  refine (KT.out _ (HR.out.below HB9.out)).mono ?_
  rintro e w10 ⟨rfl, hb⟩
  have HB10 := Lib.hid (HB9.out.trans (hb.mono HB9.out.size))
  clear hb HX9 HG9 sx0 sx1 sx2 sx3 sx4 sx5 sx6 sx7 sx8 sx9 y0_ y1_ y2_ y3_ y4_ y5_ y6_ y7_ y8_ y9_ y10_
  go_wp2_with fail
  refine (KL.out _ (HT.out.bel HB10.out)).mono ?_
  rintro e w11 ⟨rfl, hb⟩
  go_wp2
  go_ret
  exact ⟨rfl, HB10.out.trans (hb.mono HB10.out.size)⟩
theorem ruleDays_any (R : Rl) (a : Int) (w : World) (hr : RlAt w R) (hi : RlIn R) (hz : ∀ j, j < 5 → (R.Z j).length * 8 ≤ reachBytes) (hn : R.N.length * 16 ≤ reachBytes) (wa : (Lit.int .u32 a).wf = true) (hT : TabUn w) :
    Calls Tryd.prog 4 #[rlV R, .int .u32 a] w fun e w' => e = .returned (.bool true) ∧ Below w.heap.size w w' := by
  obtain ⟨a0, a1⟩ := wf_u32 wa
  have hsum := len_sumD R hz hn
  by_cases hg : 600 < lenR R
  · exact ruleDays_g R a w hr hi hsum a0 a1 hT hg
  · by_cases hc : chkE R = 0
    · exact ruleDays_y R a w hr hi hsum a0 a1 hT hg hc
    · exact ruleDays_n R a w hr hi hsum a0 a1 hT hg hc
end Go.Proofs.YtigbbepgfofcoaaDoor
