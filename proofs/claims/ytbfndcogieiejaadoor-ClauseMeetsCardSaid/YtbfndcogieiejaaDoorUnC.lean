/- Which unit an instant lies in, of months and years; the names; the walk of UnitWhich (layer 10). -/
import Derived.Test.YtbfndcogieiejaaDoorUnB
namespace Go.Proofs.YtbfndcogieiejaaDoor
open Go.RowKit Civ
set_option linter.unusedVariables false

set_option maxHeartbeats 1600000 in
set_option maxRecDepth 20000 in
theorem both_month (t y m d : Int) (h1 : 0 ≤ t) (h2 : t < 12622780800) (hd : IsDate (t / 86400) y m d) : Both 5 t (12 * y + m - 1) := by
  have hd1 : 0 ≤ t / 86400 := by omega
  have hd2 : t / 86400 < 146097 := by omega
  have hy : 1970 ≤ y ∧ y ≤ 2370 := by
    obtain ⟨a, b⟩ := hd.year
    have c := startI_mono (y + 1) 1970
    have e := startI_mono 2371 y
    have f : startI 1970 = 0 := by decide
    have g : startI 2371 = 146462 := by decide
    omega
  obtain ⟨hy1, hy2⟩ := hy
  have hm1 := hd.1
  have hm2 := hd.2.1
  refine ⟨fun w => ?_, fun w => ?_⟩
  · have K := mSplit_yes t w h1 h2
    have K2 := umay_yes 5 w (by omega) (by omega)
    have K3 := usize_any 5 w
    rw [show sz 5 = 0 by decide] at K3
    have KS := fun W => shape_ok (t / 86400) y m d W hd hd1 hd2
    unfold shapeV at KS
    generalize t / 86400 = d0 at K hd1 hd2 KS
    have KO : ∀ (x0 x3 x4 x5 x6 x7 x8 x9 : Int) W, Calls Tryd.prog 76 #[.int .i64 5, .agg #[.int .i64 x0, .int .i64 y, .int .i64 m, .int .i64 x3, .int .i64 x4, .int .i64 x5, .int .i64 x6, .int .i64 x7, .int .i64 x8, .int .i64 x9]] W fun e w' => e = .returned (.int .i64 (12 * y + m - 1)) ∧ Below W.heap.size W w' := by
      intro x0 x3 x4 x5 x6 x7 x8 x9 W
      go_enter Tryd.func76, Tryd.ntmps76
      go_wp2
      go_ret
      exact ⟨rfl, (Below.refl _ _).alloc (Nat.le_refl _) _⟩
    have hg0 := blk_new w (.cells #[.int .i64 d0, .int .i64 0, .int .i64 0, .int .i64 0, .int .i64 0, .int .i64 0, .int .i64 0, .int .i64 0, .int .i64 0, .int .i64 0] 40)
    have HG0 := Lib.hid hg0
    have HB0 := Lib.hid (show Below w.heap.size w (w.alloc (.cells #[.int .i64 d0, .int .i64 0, .int .i64 0, .int .i64 0, .int .i64 0, .int .i64 0, .int .i64 0, .int .i64 0, .int .i64 0, .int .i64 0] 40)) from (Below.refl _ _).alloc (Nat.le_refl _) _)
    clear hd hg0
    go_enter Tryd.func62, Tryd.ntmps62
    go_wp2_with fail
    refine K.mono ?_
    rintro e w' ⟨rfl, rfl⟩
    clear K
    go_wp2_with fail
    refine K2.mono ?_
    rintro e w' ⟨rfl, rfl⟩
    clear K2
    go_wp2_with fail
    refine K3.mono ?_
    rintro e w' ⟨rfl, rfl⟩
    clear K3
    go_wp2_with fail
    refine (KS _).mono ?_
    rintro e w1 ⟨rfl, hb⟩
    have hg := (hb.block _ (lt_of_block HG0.out)).trans HG0.out
    have c0 : w1.cell? ⟨w.heap.size, 0, none⟩ = some (.int .i64 d0) := blk_cell hg 0
    have f0 : w1.frozen? ⟨w.heap.size, 0, none⟩ = false := blk_free hg 0
    have c1 : w1.cell? ⟨w.heap.size, 1, none⟩ = some (.int .i64 0) := blk_cell hg 1
    have f1 : w1.frozen? ⟨w.heap.size, 1, none⟩ = false := blk_free hg 1
    have c2 : w1.cell? ⟨w.heap.size, 2, none⟩ = some (.int .i64 0) := blk_cell hg 2
    have f2 : w1.frozen? ⟨w.heap.size, 2, none⟩ = false := blk_free hg 2
    have c3 : w1.cell? ⟨w.heap.size, 3, none⟩ = some (.int .i64 0) := blk_cell hg 3
    have f3 : w1.frozen? ⟨w.heap.size, 3, none⟩ = false := blk_free hg 3
    have c4 : w1.cell? ⟨w.heap.size, 4, none⟩ = some (.int .i64 0) := blk_cell hg 4
    have f4 : w1.frozen? ⟨w.heap.size, 4, none⟩ = false := blk_free hg 4
    have c5 : w1.cell? ⟨w.heap.size, 5, none⟩ = some (.int .i64 0) := blk_cell hg 5
    have f5 : w1.frozen? ⟨w.heap.size, 5, none⟩ = false := blk_free hg 5
    have c6 : w1.cell? ⟨w.heap.size, 6, none⟩ = some (.int .i64 0) := blk_cell hg 6
    have f6 : w1.frozen? ⟨w.heap.size, 6, none⟩ = false := blk_free hg 6
    have c7 : w1.cell? ⟨w.heap.size, 7, none⟩ = some (.int .i64 0) := blk_cell hg 7
    have f7 : w1.frozen? ⟨w.heap.size, 7, none⟩ = false := blk_free hg 7
    have c8 : w1.cell? ⟨w.heap.size, 8, none⟩ = some (.int .i64 0) := blk_cell hg 8
    have f8 : w1.frozen? ⟨w.heap.size, 8, none⟩ = false := blk_free hg 8
    have c9 : w1.cell? ⟨w.heap.size, 9, none⟩ = some (.int .i64 0) := blk_cell hg 9
    have f9 : w1.frozen? ⟨w.heap.size, 9, none⟩ = false := blk_free hg 9
    have HB1 := Lib.hid (HB0.out.trans (hb.mono HB0.out.size))
    clear KS hb hg
    go_wp2_with fail
    refine (KO _ _ _ _ _ _ _ _ _).mono ?_
    rintro e w2 ⟨rfl, hb2⟩
    go_wp2
    go_ret2
    exact ⟨rfl, below_cut (below10 HB1.out _ _ _ _ _ _ _ _ _ _) hb2⟩
  · have KD := rdate_v (t / 86400) y m d w hd (i64_of _ (by omega) (by omega))
    rw [dateV_yes (show -1000000000 ≤ y by omega) (by omega)] at KD
    have ht : t.tdiv 86400 = t / 86400 := Int.tdiv_eq_ediv_of_nonneg h1
    clear hd
    go_enter Tryd.func70, Tryd.ntmps70
    go_wp2_with fail
    refine KD.mono ?_
    rintro e w' ⟨rfl, rfl⟩
    go_wp2
    go_ret
    exact ⟨rfl, Below.refl _ _⟩
set_option maxHeartbeats 1600000 in
set_option maxRecDepth 20000 in
theorem both_year (t y m d : Int) (h1 : 0 ≤ t) (h2 : t < 12622780800) (hd : IsDate (t / 86400) y m d) : Both 6 t (y) := by
  have hd1 : 0 ≤ t / 86400 := by omega
  have hd2 : t / 86400 < 146097 := by omega
  have hy : 1970 ≤ y ∧ y ≤ 2370 := by
    obtain ⟨a, b⟩ := hd.year
    have c := startI_mono (y + 1) 1970
    have e := startI_mono 2371 y
    have f : startI 1970 = 0 := by decide
    have g : startI 2371 = 146462 := by decide
    omega
  obtain ⟨hy1, hy2⟩ := hy
  have hm1 := hd.1
  have hm2 := hd.2.1
  refine ⟨fun w => ?_, fun w => ?_⟩
  · have K := mSplit_yes t w h1 h2
    have K2 := umay_yes 6 w (by omega) (by omega)
    have K3 := usize_any 6 w
    rw [show sz 6 = 0 by decide] at K3
    have KS := fun W => shape_ok (t / 86400) y m d W hd hd1 hd2
    unfold shapeV at KS
    generalize t / 86400 = d0 at K hd1 hd2 KS
    have KO : ∀ (x0 x3 x4 x5 x6 x7 x8 x9 : Int) W, Calls Tryd.prog 76 #[.int .i64 6, .agg #[.int .i64 x0, .int .i64 y, .int .i64 m, .int .i64 x3, .int .i64 x4, .int .i64 x5, .int .i64 x6, .int .i64 x7, .int .i64 x8, .int .i64 x9]] W fun e w' => e = .returned (.int .i64 (y)) ∧ Below W.heap.size W w' := by
      intro x0 x3 x4 x5 x6 x7 x8 x9 W
      go_enter Tryd.func76, Tryd.ntmps76
      go_wp2
      go_ret
      exact ⟨rfl, (Below.refl _ _).alloc (Nat.le_refl _) _⟩
    have hg0 := blk_new w (.cells #[.int .i64 d0, .int .i64 0, .int .i64 0, .int .i64 0, .int .i64 0, .int .i64 0, .int .i64 0, .int .i64 0, .int .i64 0, .int .i64 0] 40)
    have HG0 := Lib.hid hg0
    have HB0 := Lib.hid (show Below w.heap.size w (w.alloc (.cells #[.int .i64 d0, .int .i64 0, .int .i64 0, .int .i64 0, .int .i64 0, .int .i64 0, .int .i64 0, .int .i64 0, .int .i64 0, .int .i64 0] 40)) from (Below.refl _ _).alloc (Nat.le_refl _) _)
    clear hd hg0
    go_enter Tryd.func62, Tryd.ntmps62
    go_wp2_with fail
    refine K.mono ?_
    rintro e w' ⟨rfl, rfl⟩
    clear K
    go_wp2_with fail
    refine K2.mono ?_
    rintro e w' ⟨rfl, rfl⟩
    clear K2
    go_wp2_with fail
    refine K3.mono ?_
    rintro e w' ⟨rfl, rfl⟩
    clear K3
    go_wp2_with fail
    refine (KS _).mono ?_
    rintro e w1 ⟨rfl, hb⟩
    have hg := (hb.block _ (lt_of_block HG0.out)).trans HG0.out
    have c0 : w1.cell? ⟨w.heap.size, 0, none⟩ = some (.int .i64 d0) := blk_cell hg 0
    have f0 : w1.frozen? ⟨w.heap.size, 0, none⟩ = false := blk_free hg 0
    have c1 : w1.cell? ⟨w.heap.size, 1, none⟩ = some (.int .i64 0) := blk_cell hg 1
    have f1 : w1.frozen? ⟨w.heap.size, 1, none⟩ = false := blk_free hg 1
    have c2 : w1.cell? ⟨w.heap.size, 2, none⟩ = some (.int .i64 0) := blk_cell hg 2
    have f2 : w1.frozen? ⟨w.heap.size, 2, none⟩ = false := blk_free hg 2
    have c3 : w1.cell? ⟨w.heap.size, 3, none⟩ = some (.int .i64 0) := blk_cell hg 3
    have f3 : w1.frozen? ⟨w.heap.size, 3, none⟩ = false := blk_free hg 3
    have c4 : w1.cell? ⟨w.heap.size, 4, none⟩ = some (.int .i64 0) := blk_cell hg 4
    have f4 : w1.frozen? ⟨w.heap.size, 4, none⟩ = false := blk_free hg 4
    have c5 : w1.cell? ⟨w.heap.size, 5, none⟩ = some (.int .i64 0) := blk_cell hg 5
    have f5 : w1.frozen? ⟨w.heap.size, 5, none⟩ = false := blk_free hg 5
    have c6 : w1.cell? ⟨w.heap.size, 6, none⟩ = some (.int .i64 0) := blk_cell hg 6
    have f6 : w1.frozen? ⟨w.heap.size, 6, none⟩ = false := blk_free hg 6
    have c7 : w1.cell? ⟨w.heap.size, 7, none⟩ = some (.int .i64 0) := blk_cell hg 7
    have f7 : w1.frozen? ⟨w.heap.size, 7, none⟩ = false := blk_free hg 7
    have c8 : w1.cell? ⟨w.heap.size, 8, none⟩ = some (.int .i64 0) := blk_cell hg 8
    have f8 : w1.frozen? ⟨w.heap.size, 8, none⟩ = false := blk_free hg 8
    have c9 : w1.cell? ⟨w.heap.size, 9, none⟩ = some (.int .i64 0) := blk_cell hg 9
    have f9 : w1.frozen? ⟨w.heap.size, 9, none⟩ = false := blk_free hg 9
    have HB1 := Lib.hid (HB0.out.trans (hb.mono HB0.out.size))
    clear KS hb hg
    go_wp2_with fail
    refine (KO _ _ _ _ _ _ _ _ _).mono ?_
    rintro e w2 ⟨rfl, hb2⟩
    go_wp2
    go_ret2
    exact ⟨rfl, below_cut (below10 HB1.out _ _ _ _ _ _ _ _ _ _) hb2⟩
  · have KD := rdate_v (t / 86400) y m d w hd (i64_of _ (by omega) (by omega))
    rw [dateV_yes (show -1000000000 ≤ y by omega) (by omega)] at KD
    have ht : t.tdiv 86400 = t / 86400 := Int.tdiv_eq_ediv_of_nonneg h1
    clear hd
    go_enter Tryd.func70, Tryd.ntmps70
    go_wp2_with fail
    refine KD.mono ?_
    rintro e w' ⟨rfl, rfl⟩
    go_wp2
    go_ret
    exact ⟨rfl, Below.refl _ _⟩
theorem bothU_any (u t : Int) (hu1 : 0 ≤ u) (hu2 : u < 7) (h1 : 0 ≤ t) (h2 : t < 12622780800) : ∃ V, Both u t V := by
  rcases (show u = 0 ∨ u = 1 ∨ u = 2 ∨ u = 3 ∨ u = 4 ∨ u = 5 ∨ u = 6 by omega) with rfl | rfl | rfl | rfl | rfl | rfl | rfl
  · exact ⟨_, both_low 0 t 1 (by decide) (by omega) h1 h2⟩
  · exact ⟨_, both_low 1 t 60 (by decide) (by omega) h1 h2⟩
  · exact ⟨_, both_low 2 t 3600 (by decide) (by omega) h1 h2⟩
  · exact ⟨_, both_day t h1 h2⟩
  · exact ⟨_, both_week t h1 h2⟩
  · obtain ⟨y, m, d, hd⟩ := exists_date (t / 86400)
    exact ⟨_, both_month t y m d h1 h2 hd⟩
  · obtain ⟨y, m, d, hd⟩ := exists_date (t / 86400)
    exact ⟨_, both_year t y m d h1 h2 hd⟩
/-- names in memory -/
def NamesAt (n : Nat) (nm : Nat → ByteArray) (w : World) (A : Option Addr) : Prop := ∃ b, A = some ⟨b, 0, none⟩ ∧ b < w.heap.size ∧ ∀ j, j < n → w.cell? ⟨b, j, none⟩ = some (.string (nm j))
theorem NamesAt.below {n : Nat} {nm : Nat → ByteArray} {w w' : World} {A : Option Addr} (h : NamesAt n nm w A) (hb : Below w.heap.size w w') : NamesAt n nm w' A := by
  obtain ⟨b, h1, h2, h3⟩ := h
  exact ⟨b, h1, Nat.lt_of_lt_of_le h2 hb.size, fun j hj => (hb.cell (p := ⟨b, j, none⟩) h2).trans (h3 j hj)⟩
end Go.Proofs.YtbfndcogieiejaaDoor
