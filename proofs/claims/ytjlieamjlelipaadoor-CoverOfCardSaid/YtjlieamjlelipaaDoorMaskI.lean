/- The law MaskBack's own closure, and what All tells to it (layer 2). -/
import Derived.Test.YtjlieamjlelipaaDoorMaskH
namespace Go.Proofs.YtjlieamjlelipaaDoor
open Go.RowKit
set_option linter.unusedVariables false

set_option maxHeartbeats 1600000 in
set_option maxRecDepth 20000 in
theorem growb_any (g B : Nat) (v : Value) (zs : List Int) (n : Int) (w : World) (hg : w.heap[g]? = some (.cells #[v] 22 (0, 0)))
    (hgB : g < B) (hB : B ≤ w.heap.size) (ho : OwnI w B v zs) (hl : zs.length < 69) :
    Calls Tryd.prog 28 #[.int .i64 n, .pointer (some ⟨g, 0, none⟩)] w fun e w' => e = .returned (.bool true) ∧
      (∃ v', w'.heap[g]? = some (.cells #[v'] 22 (0, 0)) ∧ OwnI w' B v' (zs ++ [n])) ∧ But (fun k => k = g ∨ B ≤ k) w w' := by
  obtain ⟨i0, hi, hz0, hz1, hz2⟩ := info_parts info_int
  obtain ⟨A0, c0', hv, _⟩ := ho.ints
  have c0 : w.cell? ⟨g, 0, none⟩ = some v := by rw [blk_cell hg]; rfl
  have HG := Lib.hid hg
  have HO := Lib.hid ho
  subst hv
  clear hg ho
  go_enter Tryd.func28, Tryd.ntmps28
  go_wp2_with ((at_builtin; refine wpList_append_own _ rfl _ _ 22 rfl B 3 i0 (.int .i64 0) 1 8 Tryd.underlying22 hi hz0 hz1 hz2 rfl (by decide) _ _ _ rfl (World.ownsRow.alloc HO.out _) ⟨w.heap.size, 0, none⟩ 1 1 [.int .i64 n] rfl rfl ?n1 ?n2 ?n3 ?n4 ?n5 ?_))
  case n1 =>
    intro j u hj
    cases j with
    | zero => cases hj; exact cell_new _ _ _ 0
    | succ j => cases hj
  case n2 => simp [Value.oneCell']
  case n3 => unfold maxLen; omega
  case n4 => omega
  case n5 => simp; omega
  intro v' w1 hown1 hgrow _
  have HO1 := Lib.hid (OwnI.snoc hown1)
  have hnb : some g ≠ (Value.slice A0 zs.length c0').ownBlock := fun e => by have := own_block HO.out g e.symm; omega
  have hgs := lt_of_block HG.out
  have hg1 : w1.heap[g]? = some (.cells #[.slice A0 zs.length c0'] 22 (0, 0)) := by
    rw [hgrow.block g (by simp; omega) hnb]; exact blk_more HG.out _
  have HBut := Lib.hid (show But (fun k => k = g ∨ B ≤ k) w w1 from ⟨hgrow.os, hgrow.tape, hgrow.output, by have := hgrow.size; simp at this; omega, fun k hk hx => by
    rw [hgrow.block k (by simp; omega) (fun e => by have := own_block HO.out k e.symm; exact hx (.inr this))]
    exact Below.heap_alloc _ _ k hk⟩)
  obtain ⟨A1, c1, hv, _⟩ := HO1.out.ints
  subst hv
  clear hown1 hgrow hnb
  have HG1 := Lib.hid hg1
  have d0 := blk_cell hg1 0
  have fz := blk_free hg1 0
  have d1 : (w1.setCell ⟨g, 0, none⟩ (.slice A1 (zs ++ [n]).length c1)).cell? ⟨g, 0, none⟩ = some (.slice A1 (zs ++ [n]).length c1) := by rw [blk_cell (blk_put hg1 0 _)]; rfl
  have hlen : (zs ++ [n]).length = zs.length + 1 := by simp
  rw [hlen] at d1
  have HO2 := Lib.hid (show OwnI w1 B (.slice A1 (zs.length + 1) c1) (zs ++ [n]) by rw [← hlen]; exact HO1.out)
  have HE1 : decide ((zs.length : Int) + 1 < 70) = true := dec_t (by omega)
  have HE2 : decide (zs.length + 1 < 70) = true := dec_t (by omega)
  clear hg1 hlen
  go_wp2
  go_ret
  refine ⟨rfl, ⟨_, blk_put HG1.out 0 _, HO2.out.keep fun k h1 h2 => Below.heap_setCell w1 _ _ k (by show k ≠ g; omega)⟩, HBut.out.setCell (.inr (.inl rfl)) _⟩
def B1At (M : Nat → Bool) (g B : Nat) (w : World) (x : Value) (wr : World) : Prop := ∃ (j : Nat) (v : Value), j ≤ 64 ∧ x = .int .u64 (rest M j) ∧ wr.heap[g]? = some (.cells #[v] 22 (0, 0)) ∧ OwnI wr B v (numsP M j) ∧
  But (fun k => k = g ∨ B ≤ k) w wr
set_option maxHeartbeats 1600000 in
set_option maxRecDepth 20000 in
theorem all1b_any (M : Nat → Bool) (g bx B : Nat) (v0 : Value) (w : World) (hg : w.heap[g]? = some (.cells #[v0] 22 (0, 0))) (h0 : OwnI w B v0 [])
    (hbx : w.cell? ⟨bx, 0, none⟩ = some (.int .u64 (mk M))) (hT : Tab w) (hgB : g < B) (hTg : 1 < g) (hB : B ≤ w.heap.size) :
    Calls Tryd.prog 59 #[.func (.func 28) #[] #[.pointer (some ⟨g, 0, none⟩)], .pointer (some ⟨bx, 0, none⟩)] w fun e w' => e = .returned (.tuple #[]) ∧
      (∃ v', w'.heap[g]? = some (.cells #[v'] 22 (0, 0)) ∧ OwnI w' B v' (numsP M 64)) ∧ But (fun k => k = g ∨ B ≤ k) w w' := by
  have HG := Lib.hid hg
  have HO := Lib.hid h0
  have HT := Lib.hid hT
  rw [← rest_all M] at hbx
  clear hg h0 hT
  generalize hz : rest M 0 = x0 at hbx
  have HZ := Lib.hid hz
  clear hz
  go_enter Tryd.func59, Tryd.ntmps59
  go_wp2
  clear hbx
  go_loopw [3] (fun x wr => B1At M g B w x wr) (fun x _ => (intOf x).toNat)
  case atStart => exact ⟨0, v0, by omega, by rw [HZ.out], HG.out, HO.out, But.refl _ _⟩
  case round =>
    obtain ⟨j, v, hj, rfl, hg, ho, hb⟩ := hrel
    have HG1 := Lib.hid hg
    have HO1 := Lib.hid ho
    have HB1 := Lib.hid hb
    have HT1 := Lib.hid (HT.out.but hb (by intro h; omega))
    have hBs := Nat.le_trans hB hb.size
    have hnl := numsP_le M j
    by_cases hx : rest M j = 0
    · have HE := Lib.hid (rest_end M j hj hx)
      have d : (((rest M j : Nat) : Int) == 0) = true := by rw [beq_iff_eq]; omega
      have d' : (((rest M j : Nat) : Int) != 0) = false := by rw [bne_eq_false_iff_eq]; omega
      clear hg ho hb hx
      generalize rest M j = r at d d' ⊢
      go_wp2
      refine bodyPost_end (results_none rfl _ _ _) rfl ?_
      exact ⟨rfl, ⟨v, HG1.out, by rw [HE.out]; exact HO1.out⟩, HB1.out⟩
    · obtain ⟨h1, h2, h3, h4⟩ := rest_step M j hx
      have hr := rest_lt M j
      have K1 := tz_any (rest M j) wr hr hx HT1.out
      have K2 := growb_any g B v (numsP M j) ((lo (rest M j) : Nat) : Int) wr hg hgB hBs ho (by omega)
      have hck := clr_key (rest M j) hr hx
      rw [h4] at hck
      have HS := Lib.hid h3
      have hdec : rest M (lo (rest M j) + 1) < rest M j := by
        rw [← h4]
        exact Nat.lt_of_le_of_lt Nat.and_le_right (by omega)
      have HJ := Lib.hid hj
      clear hg ho hb h3 h4 hr
      generalize lo (rest M j) = a at K1 K2 hck HS hdec h1 h2
      generalize hrr : rest M j = r at K1 hck hdec hx
      have d : ((r : Int) == 0) = false := by rw [beq_eq_false_iff_ne]; omega
      have d' : ((r : Int) != 0) = true := by rw [bne_iff_ne]; omega
      clear hrr hx
      go_wp2_with fail
      refine K1.mono ?_
      rintro e w1 ⟨rfl, rfl⟩
      clear K1
      go_wp2_with fail
      refine K2.mono ?_
      rintro e w2 ⟨rfl, ⟨v', hg2, ho2⟩, hb2⟩
      have HG2 := Lib.hid hg2
      have HO2 := Lib.hid (show OwnI w2 B v' (numsP M (a + 1)) by rw [HS.out]; exact ho2)
      have HB2 := Lib.hid (HB1.out.trans (hb2.mono fun k _ h => h))
      clear hg2 ho2 hb2 K2
      go_wp2
      go_roundw
      case rel => exact ⟨a + 1, v', by omega, rfl, HG2.out, HO2.out, HB2.out⟩
      case measure => simp [intOf]; omega
/-- the place where the first j numbers of a mask end -/
theorem above_rest (m : Nat) (j : Nat) : above m ((j : Int) - 1) = rest m.testBit j := by
  unfold above rest
  refine mk_congr fun i hi => ?_
  by_cases h : j ≤ i
  · rw [dec_t h, dec_t (show (j : Int) - 1 < (i : Int) by omega)]
  · rw [dec_n h, dec_n (show ¬ (j : Int) - 1 < (i : Int) by omega)]
theorem numsP_grow (p : Nat → Bool) (a : Nat) : ∀ n, a ≤ n → ∃ t, numsP p n = numsP p a ++ t
  | 0, h => by obtain rfl : a = 0 := by omega
               exact ⟨[], by rw [List.append_nil]⟩
  | n + 1, h => by
    by_cases e : a = n + 1
    · subst e; exact ⟨[], by rw [List.append_nil]⟩
    · obtain ⟨t, ht⟩ := numsP_grow p a n (by omega)
      cases hp : p n
      · exact ⟨t, by rw [numsP_no p n hp, ht]⟩
      · exact ⟨t ++ [(n : Int)], by rw [numsP_yes p n hp, ht, List.append_assoc]⟩
theorem at_end (M : Nat → Bool) (j : Nat) (hj : j ≤ 64) (h : (numsP M 64).length ≤ (numsP M j).length) : rest M j = 0 := by
  by_cases hx : rest M j = 0
  · exact hx
  · obtain ⟨h1, h2, h3, _⟩ := rest_step M j hx
    obtain ⟨t, ht⟩ := numsP_grow M (lo (rest M j) + 1) 64 (by omega)
    rw [ht, h3] at h
    simp at h
    omega
theorem not_end (M : Nat → Bool) (j : Nat) (hj : j ≤ 64) (h : (numsP M j).length < (numsP M 64).length) : rest M j ≠ 0 := fun h0 => by
  rw [rest_end M j hj h0] at h; omega
theorem nth_num (M : Nat → Bool) (j : Nat) (hx : rest M j ≠ 0) : (numsP M 64)[(numsP M j).length]?.getD 0 = ((lo (rest M j) : Nat) : Int) := by
  obtain ⟨h1, h2, h3, _⟩ := rest_step M j hx
  obtain ⟨t, ht⟩ := numsP_grow M (lo (rest M j) + 1) 64 (by omega)
  rw [ht, h3]
  simp
end Go.Proofs.YtjlieamjlelipaaDoor
