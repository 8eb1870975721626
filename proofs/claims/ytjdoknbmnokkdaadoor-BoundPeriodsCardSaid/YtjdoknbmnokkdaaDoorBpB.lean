/- Periods of clauses: bound.Period and the document's own (layer 45). -/
import Derived.Test.YtjdoknbmnokkdaaDoorBpA
namespace Go.Proofs.YtjdoknbmnokkdaaDoor
open Go.RowKit
set_option linter.unusedVariables false

def perV : Option Int → Value
  | none => .tuple #[.int .i64 0, .bool false]
  | some p => .tuple #[.int .i64 p, .bool true]
/-- the document's: -1 where there is none -/
def perZ : Option Int → Int
  | none => -1
  | some p => p
theorem may_u (c : Cl) (h : mayB c = true) : 0 ≤ c.u ∧ c.u < 7 := by
  unfold mayB at h
  simp only [Bool.and_eq_true, decide_eq_true_eq] at h
  omega
theorem gcdL_two (a x : Int) : Nm.gcdL [a, x] = Nat.gcd a.natAbs x.natAbs := by
  show Nat.gcd (Nat.gcd 0 a.natAbs) x.natAbs = _
  rw [Nat.gcd_zero_left]
theorem ints2_new (w : World) (a x : Int) (t : TypeId) : Ints .i64 (w.alloc (.cells #[.int .i64 a, .int .i64 x] t)) (some ⟨w.heap.size, 0, none⟩) [a, x] := ints_new .i64 w [a, x] _ t rfl
theorem ints2_newd (w : World) (a x : Int) (t : TypeId) : Ints .i64 (w.alloc (.cells #[.int .i64 a, .int .i64 x] t)).drew (some ⟨w.heap.size, 0, none⟩) [a, x] := ints2_new w a x t
set_option maxHeartbeats 1600000 in
set_option maxRecDepth 20000 in
theorem cper_any (c : Cl) (hc : ClIn c) (hi : I64 c.st) (w : World) (hT : TabUn w) : Calls Tryd.prog 36 #[clV c] w fun e w' => e = .returned (perV (perO c)) ∧ Below w.heap.size w w' := by
  have HB0 := Lib.hid (show Below w.heap.size w (w.alloc (.cells (clC c) 70)) from (Below.refl _ _).alloc (Nat.le_refl _) _)
  have HC0 := Lib.hid (show ClAt (w.alloc (.cells (clC c) 70)) w.heap.size c from blk_new w _)
  have HT0 := Lib.hid (hT.bel HB0.out)
  have KM := Lib.hid (fun W h => cmay_any c hc W h)
  have KU := Lib.hid (fun W => usize_any c.u W)
  have HMS := Lib.hid (may_st c)
  have HPO := Lib.hid (show perO c = if mayB c = false then none else if c.st = 1 then some 1 else if 0 < sz c.u then some ((c.st.natAbs / Nat.gcd c.st.natAbs (86400 / (sz c.u).natAbs) : Nat) : Int) else if c.u = 3 then some c.st else if c.u = 4 then (if 7 * c.st ≤ 9223372036854775807 then some (7 * c.st) else none) else some 1 from rfl)
  generalize perO c = po at HPO ⊢
  have hgc := fun x => gcdL_two c.st x
  have HG := Lib.hid (fun A W x (hx : I64 x) h => Nm.gcd_any A 2 [c.st, x] 2 W rfl (show 2 ≤ 9223372036854775807 by omega) (by intro z hz; simp at hz; rcases hz with rfl | rfl <;> assumption) h)
  obtain ⟨W0, hW0⟩ : ∃ W0, w.alloc (.cells (clC c) 70) = W0 := ⟨_, rfl⟩
  rw [hW0] at HB0 HC0 HT0
  have y25 : W0.cell? ⟨w.heap.size, 25, none⟩ = some (.int .i64 c.u) := blk_cell HC0.out 25
  have y26 : W0.cell? ⟨w.heap.size, 26, none⟩ = some (.int .i64 c.st) := blk_cell HC0.out 26
  unfold clV at KM
  unfold clV clC
  unfold clC at hW0
  have HI := Lib.hid hi
  have hsz := Lib.hid (sz_cases c.u)
  clear hc hi
  go_enter Tryd.func36, Tryd.ntmps36
  go_wp2_with (refine wpList_loadRow HC0.out rfl _ _ rfl rfl _ Tryd.underlying70 rfl (by unfold clC; kernel_rfl) ?_)
  refine (KM.out _ HT0.out).mono ?_
  rintro e w1 ⟨rfl, hb⟩
  have HB1 := Lib.hid (HB0.out.trans (hb.mono HB0.out.size))
  have HC1 := Lib.hid (HC0.out.below hb)
  have z25 : w1.cell? ⟨w.heap.size, 25, none⟩ = some (.int .i64 c.u) := blk_cell HC1.out 25
  have z26 : w1.cell? ⟨w.heap.size, 26, none⟩ = some (.int .i64 c.st) := blk_cell HC1.out 26
  clear hb HB0 HC0 KM hW0 y25 y26 HT0
  cases hm : mayB c
  · have HE := Lib.hid (show po = none by rw [HPO.out, if_pos hm])
    go_wp2
    go_ret2
    exact ⟨by rw [HE.out]; rfl, HB1.out⟩
  have hs1 := HMS.out hm
  go_wp2_with fail
  refine (KU.out _).mono ?_
  rintro e w2 ⟨rfl, rfl⟩
  by_cases h1 : c.st = 1
  · have HE := Lib.hid (show po = some 1 by rw [HPO.out, if_neg (by simp [hm]), if_pos h1])
    have e1 : (c.st == 1) = true := by simp [h1]
    go_wp2
    go_ret2
    exact ⟨by rw [HE.out]; rfl, HB1.out⟩
  have e1 : (c.st == 1) = false := by simp [h1]
  have hpo : po = _ := HPO.out.trans (by rw [if_neg (by simp [hm]), if_neg h1])
  clear hm
  by_cases h2 : 0 < sz c.u
  · obtain ⟨s, hs⟩ : ∃ s, sz c.u = s := ⟨_, rfl⟩
    rw [hs] at h2 hpo ⊢
    rw [if_pos h2] at hpo
    obtain ⟨x, hx1, hx2, hx3, hx4⟩ : ∃ x : Int, Int.tdiv 86400 s = x ∧ (86400 / s.natAbs : Nat) = x.natAbs ∧ I64 x ∧ IntKind.i64.wrap x = x := by
      rw [← hs]
      rcases hsz.out with ⟨_, q⟩ | ⟨_, q⟩ | ⟨_, q⟩ | ⟨_, _, _, q⟩
      · rw [q]; exact ⟨86400, by decide, by decide, by unfold I64; omega, by decide⟩
      · rw [q]; exact ⟨1440, by decide, by decide, by unfold I64; omega, by decide⟩
      · rw [q]; exact ⟨24, by decide, by decide, by unfold I64; omega, by decide⟩
      · omega
    have e4 : decide (4 < c.u) = false := dec_n (by rcases hsz.out with ⟨q, _⟩ | ⟨q, _⟩ | ⟨q, _⟩ | ⟨_, _, _, q⟩ <;> omega)
    have s0 : ¬ s = 0 := by omega
    have s1 : (s == 0) = false := by simp [s0]
    have d2 : decide (0 < s) = true := dec_t h2
    obtain ⟨g, hg1, hg2⟩ : ∃ g : Nat, g = Nat.gcd c.st.natAbs x.natAbs ∧ Nm.gcdL [c.st, x] = g := ⟨_, rfl, by rw [hgc x]⟩
    rw [hx2, ← hg1] at hpo
    have g1 : 1 ≤ g := by rw [hg1]; exact Nat.gcd_pos_of_pos_left _ (by omega)
    have g2 : g ≤ c.st.natAbs := by rw [hg1]; exact Nat.le_of_dvd (by omega) (Nat.gcd_dvd_left _ _)
    have hi := HI.out
    unfold I64 at hi
    have g3 : ¬ (g : Int) = 0 := by omega
    have g4 : ((g : Int) == 0) = false := by rw [beq_eq_false_iff_ne]; exact g3
    have g6 : ¬ g = 0 := by omega
    have g7 : (g == 0) = false := by simp [g6]
    have g8 : (0 < g) = True := by simp; omega
    have g5 : IntKind.i64.wrap (g : Int) = (g : Int) := IntWalk.i64_in _ ⟨by omega, by omega⟩
    obtain ⟨v, hv⟩ : ∃ v : Int, ((c.st.natAbs / g : Nat) : Int) = v := ⟨_, rfl⟩
    have hv2 : Int.tdiv c.st (g : Int) = v := by
      obtain ⟨n, hn⟩ := Int.eq_ofNat_of_zero_le (show 0 ≤ c.st by omega)
      rw [← hv, hn, Int.natAbs_natCast]; rfl
    have hv3 : IntKind.i64.wrap v = v := by
      have q1 : v ≤ (c.st.natAbs : Int) := by rw [← hv]; exact Int.ofNat_le.2 (Nat.div_le_self c.st.natAbs g)
      have q2 : 0 ≤ v := by rw [← hv]; exact Int.natCast_nonneg _
      exact IntWalk.i64_in _ ⟨by omega, by omega⟩
    rw [hv] at hpo
    have HE := Lib.hid hpo
    have KG := Lib.hid (fun (A : Option Addr) (W : World) (h : Ints .i64 W A [c.st, x]) => show Calls Tryd.prog 113 #[.slice A 2 2] W fun e w' => e = .returned (.int .u64 (g : Nat)) ∧ Below W.heap.size W w' from (HG.out A W x hx3 h).mono fun e w' ⟨q1, k, q2⟩ => ⟨by rw [q1, hg2], by rw [q2]; exact below_draws _ _ _⟩)
    have HC2 := Lib.hid (show ClAt w1 w.heap.size c from HC1.out)
    clear hgc HG hs hpo hx2 hx3 hg1 hg2 g1 g2 hv hs1 hi h1 HMS HPO hsz
    go_wp2_with fail
    have hHMK := Lib.hid (fun (Y : World) (hb : Below w1.heap.size w1 Y) => show Below w1.heap.size w1 Y ∧ Y.cell? ⟨w.heap.size, 26, none⟩ = some (.int .i64 c.st) from ⟨hb, blk_cell (HC2.out.below hb) 26⟩)
    have HS := hHMK.out w1.drew (Below.refl _ _).drew
    go_region_held3 (fun w' => Below w1.heap.size w1 w' ∧ w'.cell? ⟨w.heap.size, 26, none⟩ = some (.int .i64 c.st)) (first | exact HS | exact hSw | exact hHMK.out _ ((Below.refl _ w1).alloc (Nat.le_refl _) _).drew | exact hHMK.out _ ((Below.refl _ w1).alloc (Nat.le_refl _) _)) ((go_at_call 113; with_reducible refine (KG.out _ _ (by first | exact ints2_new _ _ _ _ | exact ints2_newd _ _ _ _)).mono ?_; rintro e w3 ⟨rfl, hb⟩; have hSw := hHMK.out w3 (((Below.refl _ w1).alloc (Nat.le_refl _) _).drew.trans (hb.mono (by simp))); have hS2 := hSw; obtain ⟨hbS, yy⟩ := hS2))
    have HB3 := Lib.hid (HB1.out.trans (hbS.mono HB1.out.size))
    clear hbS yy hSw HS hHMK
    go_wp2
    go_ret2
    exact ⟨by rw [HE.out]; rfl, HB3.out⟩
  have d2 : decide (0 < sz c.u) = false := dec_n h2
  rw [if_neg h2] at hpo
  clear hgc HG
  by_cases h3 : c.u = 3
  · have HE := Lib.hid (show po = some c.st by rw [hpo, if_pos h3])
    have e3 : (c.u == 3) = true := by simp [h3]
    have e4 : decide (4 < c.u) = false := dec_n (by omega)
    clear hpo HPO HMS
    go_wp2
    go_ret2
    exact ⟨by rw [HE.out]; rfl, HB1.out⟩
  have e3 : (c.u == 3) = false := by simp [h3]
  rw [if_neg h3] at hpo
  by_cases h4 : c.u = 4
  · have e4 : (c.u == 4) = true := by simp [h4]
    have e5 : decide (4 < c.u) = false := dec_n (by omega)
    rw [if_pos h4] at hpo
    have hi := HI.out
    unfold I64 at hi
    by_cases h7 : 7 * c.st ≤ 9223372036854775807
    · have HE := Lib.hid (show po = some (7 * c.st) by rw [hpo, if_pos h7])
      have KT := Nm.times_ok 7 c.st (7 * c.st) w1 (by unfold I64; omega) HI.out rfl (by unfold I64; omega)
      clear hpo HPO HMS hi h7 h1 hs1
      go_wp2_with fail
      refine KT.mono ?_
      rintro e w3 ⟨rfl, rfl⟩
      go_wp2
      go_ret2
      exact ⟨by rw [HE.out]; rfl, HB1.out⟩
    · have HE := Lib.hid (show po = none by rw [hpo, if_neg h7])
      have KT := Nm.times_no 7 c.st w1 (by unfold I64; omega) HI.out (by unfold I64; omega)
      clear hpo HPO HMS hi h7 h1 hs1
      go_wp2_with fail
      refine KT.mono ?_
      rintro e w3 ⟨rfl, rfl⟩
      go_wp2
      go_ret2
      exact ⟨by rw [HE.out]; rfl, HB1.out⟩
  · have e4 : (c.u == 4) = false := by simp [h4]
    have HE := Lib.hid (show po = some 1 by rw [hpo, if_neg h4])
    skip
    clear hpo HPO HMS
    go_wp2
    go_ret2
    exact ⟨by rw [HE.out]; rfl, HB1.out⟩
set_option maxHeartbeats 1600000 in
set_option maxRecDepth 20000 in
theorem rper_any (c : Cl) (hc : ClIn c) (hi : I64 c.st) (w : World) : Calls Tryd.prog 37 #[clV c] w fun e w' => e = .returned (.int .i64 (perZ (perO c))) ∧ Below w.heap.size w w' := by
  have HSU := Lib.hid (may_u c)
  have HB0 := Lib.hid (show Below w.heap.size w (w.alloc (.cells (clC c) 70)) from (Below.refl _ _).alloc (Nat.le_refl _) _)
  have HC0 := Lib.hid (show ClAt (w.alloc (.cells (clC c) 70)) w.heap.size c from blk_new w _)
  have KM := Lib.hid (fun W => rmay_any c hc W)
  have KU := Lib.hid (fun W => rusize_any c.u W)
  have HMS := Lib.hid (may_st c)
  have HPO := Lib.hid (show perO c = if mayB c = false then none else if c.st = 1 then some 1 else if 0 < sz c.u then some ((c.st.natAbs / Nat.gcd c.st.natAbs (86400 / (sz c.u).natAbs) : Nat) : Int) else if c.u = 3 then some c.st else if c.u = 4 then (if 7 * c.st ≤ 9223372036854775807 then some (7 * c.st) else none) else some 1 from rfl)
  generalize perO c = po at HPO ⊢
  have hgc := fun x => gcdL_two c.st x
  have HG := Lib.hid (fun A W x (hx : I64 x) h => Nm.rgcd_any A 2 [c.st, x] 2 W rfl (show 2 ≤ 9223372036854775807 by omega) (by intro z hz; simp at hz; rcases hz with rfl | rfl <;> assumption) h)
  obtain ⟨W0, hW0⟩ : ∃ W0, w.alloc (.cells (clC c) 70) = W0 := ⟨_, rfl⟩
  rw [hW0] at HB0 HC0
  have y25 : W0.cell? ⟨w.heap.size, 25, none⟩ = some (.int .i64 c.u) := blk_cell HC0.out 25
  have y26 : W0.cell? ⟨w.heap.size, 26, none⟩ = some (.int .i64 c.st) := blk_cell HC0.out 26
  unfold clV at KM
  unfold clV clC
  unfold clC at hW0
  have HI := Lib.hid hi
  have hsz := Lib.hid (sz_cases c.u)
  clear hc hi
  go_enter Tryd.func37, Tryd.ntmps37
  go_wp2_with (refine wpList_loadRow HC0.out rfl _ _ rfl rfl _ Tryd.underlying70 rfl (by unfold clC; kernel_rfl) ?_)
  refine (KU.out _).mono ?_
  rintro e w2 ⟨rfl, rfl⟩
  go_wp2_with (refine wpList_loadRow HC0.out rfl _ _ rfl rfl _ Tryd.underlying70 rfl (by unfold clC; kernel_rfl) ?_)
  refine (KM.out _).mono ?_
  rintro e w1 ⟨rfl, hb⟩
  have HB1 := Lib.hid (HB0.out.trans (hb.mono HB0.out.size))
  have HC1 := Lib.hid (HC0.out.below hb)
  have z25 : w1.cell? ⟨w.heap.size, 25, none⟩ = some (.int .i64 c.u) := blk_cell HC1.out 25
  have z26 : w1.cell? ⟨w.heap.size, 26, none⟩ = some (.int .i64 c.st) := blk_cell HC1.out 26
  clear hb HB0 HC0 KM hW0 y25 y26
  cases hm : mayB c
  · have HE := Lib.hid (show po = none by rw [HPO.out, if_pos hm])
    go_wp2
    go_ret
    exact ⟨by rw [HE.out]; rfl, HB1.out⟩
  have hs1 := HMS.out hm
  by_cases h1 : c.st = 1
  · have HE := Lib.hid (show po = some 1 by rw [HPO.out, if_neg (by simp [hm]), if_pos h1])
    have e1 : (c.st == 1) = true := by simp [h1]
    go_wp2
    go_ret
    exact ⟨by rw [HE.out]; rfl, HB1.out⟩
  have e1 : (c.st == 1) = false := by simp [h1]
  have hpo : po = _ := HPO.out.trans (by rw [if_neg (by simp [hm]), if_neg h1])
  have hm2 := hm
  clear hm
  by_cases h2 : 0 < sz c.u
  · obtain ⟨s, hs⟩ : ∃ s, sz c.u = s := ⟨_, rfl⟩
    rw [hs] at h2 hpo ⊢
    rw [if_pos h2] at hpo
    obtain ⟨x, hx1, hx2, hx3, hx4⟩ : ∃ x : Int, Int.tdiv 86400 s = x ∧ (86400 / s.natAbs : Nat) = x.natAbs ∧ I64 x ∧ IntKind.i64.wrap x = x := by
      rw [← hs]
      rcases hsz.out with ⟨_, q⟩ | ⟨_, q⟩ | ⟨_, q⟩ | ⟨_, _, _, q⟩
      · rw [q]; exact ⟨86400, by decide, by decide, by unfold I64; omega, by decide⟩
      · rw [q]; exact ⟨1440, by decide, by decide, by unfold I64; omega, by decide⟩
      · rw [q]; exact ⟨24, by decide, by decide, by unfold I64; omega, by decide⟩
      · omega
    have e4 : decide (4 < c.u) = false := dec_n (by rcases hsz.out with ⟨q, _⟩ | ⟨q, _⟩ | ⟨q, _⟩ | ⟨_, _, _, q⟩ <;> omega)
    have s0 : ¬ s = 0 := by omega
    have s1 : (s == 0) = false := by simp [s0]
    have d2 : decide (0 < s) = true := dec_t h2
    obtain ⟨g, hg1, hg2⟩ : ∃ g : Nat, g = Nat.gcd c.st.natAbs x.natAbs ∧ Nm.gcdL [c.st, x] = g := ⟨_, rfl, by rw [hgc x]⟩
    rw [hx2, ← hg1] at hpo
    have g1 : 1 ≤ g := by rw [hg1]; exact Nat.gcd_pos_of_pos_left _ (by omega)
    have g2 : g ≤ c.st.natAbs := by rw [hg1]; exact Nat.le_of_dvd (by omega) (Nat.gcd_dvd_left _ _)
    have hi := HI.out
    unfold I64 at hi
    have g3 : ¬ (g : Int) = 0 := by omega
    have g4 : ((g : Int) == 0) = false := by rw [beq_eq_false_iff_ne]; exact g3
    have g6 : ¬ g = 0 := by omega
    have g7 : (g == 0) = false := by simp [g6]
    have g8 : (0 < g) = True := by simp; omega
    have g5 : IntKind.i64.wrap (g : Int) = (g : Int) := IntWalk.i64_in _ ⟨by omega, by omega⟩
    obtain ⟨v, hv⟩ : ∃ v : Int, ((c.st.natAbs / g : Nat) : Int) = v := ⟨_, rfl⟩
    have hv2 : Int.tdiv c.st (g : Int) = v := by
      obtain ⟨n, hn⟩ := Int.eq_ofNat_of_zero_le (show 0 ≤ c.st by omega)
      rw [← hv, hn, Int.natAbs_natCast]; rfl
    have hv3 : IntKind.i64.wrap v = v := by
      have q1 : v ≤ (c.st.natAbs : Int) := by rw [← hv]; exact Int.ofNat_le.2 (Nat.div_le_self c.st.natAbs g)
      have q2 : 0 ≤ v := by rw [← hv]; exact Int.natCast_nonneg _
      exact IntWalk.i64_in _ ⟨by omega, by omega⟩
    rw [hv] at hpo
    have HE := Lib.hid hpo
    have KG := Lib.hid (fun (A : Option Addr) (W : World) (h : Ints .i64 W A [c.st, x]) => show Calls Tryd.prog 117 #[.slice A 2 2] W fun e w' => e = .returned (.int .u64 (g : Nat)) ∧ Below W.heap.size W w' from (HG.out A W x hx3 h).mono fun e w' ⟨q1, q2⟩ => ⟨by rw [q1, hg2], by rw [← q2]; exact Below.refl _ _⟩)
    have HC2 := Lib.hid (show ClAt w1 w.heap.size c from HC1.out)
    clear hgc HG hs hpo hx2 hx3 hg1 hg2 g1 g2 hv hs1 hi h1 HMS HPO hsz
    go_wp2_with fail
    have hHMK := Lib.hid (fun (Y : World) (hb : Below w1.heap.size w1 Y) => show Below w1.heap.size w1 Y ∧ Y.cell? ⟨w.heap.size, 26, none⟩ = some (.int .i64 c.st) from ⟨hb, blk_cell (HC2.out.below hb) 26⟩)
    have HS := hHMK.out w1.drew (Below.refl _ _).drew
    go_region_held3 (fun w' => Below w1.heap.size w1 w' ∧ w'.cell? ⟨w.heap.size, 26, none⟩ = some (.int .i64 c.st)) (first | exact HS | exact hSw | exact hHMK.out _ ((Below.refl _ w1).alloc (Nat.le_refl _) _).drew | exact hHMK.out _ ((Below.refl _ w1).alloc (Nat.le_refl _) _)) ((go_at_call 117; with_reducible refine (KG.out _ _ (by first | exact ints2_new _ _ _ _ | exact ints2_newd _ _ _ _)).mono ?_; rintro e w3 ⟨rfl, hb⟩; have hSw := hHMK.out w3 (((Below.refl _ w1).alloc (Nat.le_refl _) _).drew.trans (hb.mono (by simp))); have hS2 := hSw; obtain ⟨hbS, yy⟩ := hS2))
    have HB3 := Lib.hid (HB1.out.trans (hbS.mono HB1.out.size))
    clear hbS yy hSw HS hHMK
    go_wp2
    go_ret
    exact ⟨by rw [HE.out]; rfl, HB3.out⟩
  have d2 : decide (0 < sz c.u) = false := dec_n h2
  rw [if_neg h2] at hpo
  clear hgc HG
  by_cases h3 : c.u = 3
  · have HE := Lib.hid (show po = some c.st by rw [hpo, if_pos h3])
    have e3 : (c.u == 3) = true := by simp [h3]
    have e4 : decide (4 < c.u) = false := dec_n (by omega)
    clear hpo HPO HMS
    go_wp2
    go_ret
    exact ⟨by rw [HE.out]; rfl, HB1.out⟩
  have e3 : (c.u == 3) = false := by simp [h3]
  rw [if_neg h3] at hpo
  by_cases h4 : c.u = 4
  · have e4 : (c.u == 4) = true := by simp [h4]
    have e5 : decide (4 < c.u) = false := dec_n (by omega)
    rw [if_pos h4] at hpo
    have hi := HI.out
    unfold I64 at hi
    by_cases h7 : 7 * c.st ≤ 9223372036854775807
    · have HE := Lib.hid (show po = some (7 * c.st) by rw [hpo, if_pos h7])
      have d7 : decide (1317624576693539401 < c.st) = false := dec_n (by omega)
      have hw7 : IntKind.i64.wrap (7 * c.st) = 7 * c.st := IntWalk.i64_in _ ⟨by omega, by omega⟩
      clear hpo HPO HMS hi h7 h1 hs1
      go_wp2
      go_ret
      exact ⟨by rw [HE.out]; rfl, HB1.out⟩
    · have HE := Lib.hid (show po = none by rw [hpo, if_neg h7])
      have d7 : decide (1317624576693539401 < c.st) = true := dec_t (by omega)
      clear hpo HPO HMS hi h7 h1 hs1
      go_wp2
      go_ret
      exact ⟨by rw [HE.out]; rfl, HB1.out⟩
  · have e4 : (c.u == 4) = false := by simp [h4]
    have HE := Lib.hid (show po = some 1 by rw [hpo, if_neg h4])
    have e5 : decide (4 < c.u) = true := dec_t (by have := HSU.out hm2; unfold sz at h2; omega)
    clear hpo HPO HMS
    go_wp2
    go_ret
    exact ⟨by rw [HE.out]; rfl, HB1.out⟩
end Go.Proofs.YtjdoknbmnokkdaaDoor
