/- The walk of MaskBack (layer 2). -/
import Derived.Test.YtjlieamjlelipaaDoorMaskI
import Derived.Test.YtjlieamjlelipaaDoorMaskQ
import Derived.Test.YtjlieamjlelipaaDoorWalk02B
namespace Go.Proofs.YtjlieamjlelipaaDoor
open Go.RowKit
set_option linter.unusedVariables false

theorem rest_at (M : Nat → Bool) (j : Nat) (h : rest M j ≠ 0) : M (lo (rest M j)) = true := by
  obtain ⟨h1, h2, _⟩ := lo_spec (rest M j) (rest_lt M j) h
  have e := rest_bit M j (lo (rest M j))
  rw [h2] at e
  cases hh : M (lo (rest M j))
  · rw [hh] at e; simp at e
  · rfl
theorem back_keep {W0 X Y : World} {g : Nat} {v : Value} {A : Option Addr} {zs : List Int} (hg : g < W0.heap.size) (hb : Below X.heap.size X Y)
    (H : Below W0.heap.size W0 X ∧ X.cell? ⟨g, 0, none⟩ = some v ∧ Ints .i64 X A zs ∧ Tab X) : Below W0.heap.size W0 Y ∧ Y.cell? ⟨g, 0, none⟩ = some v ∧ Ints .i64 Y A zs ∧ Tab Y := by
  obtain ⟨h1, c0, hi, ht⟩ := H
  have hz := h1.size
  exact ⟨h1.trans (hb.mono h1.size), (hb.cell (p := ⟨g, 0, none⟩) (by show g < _; omega)).trans c0, hi.below hb, ht.below hb⟩
theorem back_int {W0 X : World} {g : Nat} {v : Value} {A : Option Addr} {zs : List Int} (H : Below W0.heap.size W0 X ∧ X.cell? ⟨g, 0, none⟩ = some v ∧ Ints .i64 X A zs ∧ Tab X) : Ints .i64 X A zs := H.2.2.1
theorem back_tab {W0 X : World} {g : Nat} {v : Value} {A : Option Addr} {zs : List Int} (H : Below W0.heap.size W0 X ∧ X.cell? ⟨g, 0, none⟩ = some v ∧ Ints .i64 X A zs ∧ Tab X) : Tab X := H.2.2.2
theorem back_below {W0 X : World} {g : Nat} {v : Value} {A : Option Addr} {zs : List Int} (H : Below W0.heap.size W0 X ∧ X.cell? ⟨g, 0, none⟩ = some v ∧ Ints .i64 X A zs ∧ Tab X) : Below W0.heap.size W0 X := H.1
set_option maxHeartbeats 3200000 in
set_option maxRecDepth 20000 in
theorem mback_in (m : Nat) (w : World) (hm : m < 18446744073709551616) (hT : Tab w) :
    Calls Tryd.prog 6 #[.int .u64 m] w fun e w' => e = .returned (.bool true) ∧ Below w.heap.size w w' := by
  have hTl := hT.lt
  have HB0 := Lib.hid (show Below w.heap.size w (w.alloc (.cells #[.int .u64 m] 24)) from (Below.refl _ _).alloc (Nat.le_refl _) _)
  have K1 := all_any (some ⟨w.heap.size, 0, none⟩) 1 [(m : Int)] (w.alloc (.cells #[.int .u64 m] 24)) (by simp) (ints_new .u64 w [(m : Int)] _ 24 rfl) (fun k hk => by
    obtain rfl : k = 0 := by simpa using hk
    exact ⟨m, rfl, hm⟩)
  rw [show [(m : Int)].length = 1 from rfl, bothM_first [(m : Int)] m hm rfl, show (w.alloc (.cells #[.int .u64 m] 24)).heap.size = w.heap.size + 1 by simp] at K1
  have HT := Lib.hid (hT.below HB0.out)
  clear hT
  go_enter Tryd.func6, Tryd.ntmps6
  go_wp2_with fail
  refine K1.mono ?_
  rintro e w2 ⟨rfl, hbx, hb2⟩
  clear K1
  have hs2 := lt_of_block hbx
  have HB2 := Lib.hid (HB0.out.trans (hb2.mono (by omega)))
  have HT2 := Lib.hid (HT.out.below (by simpa using hb2))
  obtain ⟨W3, hW3⟩ : ∃ W3, w2.alloc (.cells #[.slice none 0 0] 22) = W3 := ⟨_, rfl⟩
  have hs3 : W3.heap.size = w2.heap.size + 1 := by rw [← hW3]; simp
  have hg3 : W3.heap[w2.heap.size]? = some (.cells #[.slice none 0 0] 22 (0, 0)) := by rw [← hW3]; exact blk_new w2 _
  have hb3 : Below w2.heap.size w2 W3 := by rw [← hW3]; exact (Below.refl _ _).alloc (Nat.le_refl _) _
  have hbx3 : W3.heap[w.heap.size + 1]? = some (.cells #[.int .u64 m] 24 (0, 0)) := (hb3.block _ hs2).trans hbx
  have HT3 := Lib.hid (HT2.out.below hb3)
  have HB3 := Lib.hid (HB2.out.trans (hb3.mono (by omega)))
  have K2 := all1b_any m.testBit w2.heap.size (w.heap.size + 1) W3.heap.size (.slice none 0 0) W3 hg3 (OwnI.nil _ _) (by rw [blk_cell hbx3, mk_self m hm]; rfl) HT3.out (by omega) (by omega) (Nat.le_refl _)
  have hnil := nil_func (.func 59) #[] #[.pointer (some ⟨w.heap.size + 1, 0, none⟩)] w2
  have HSZ := Lib.hid (show w.heap.size + 2 ≤ w2.heap.size ∧ W3.heap.size = w2.heap.size + 1 from ⟨by omega, hs3⟩)
  clear hbx hb2 hs2 hs3 hg3 hb3 hbx3
  go_wp2_with fail
  try rw [hW3]
  clear hW3
  refine K2.mono ?_
  rintro e w4 ⟨rfl, ⟨v4, hg4, ho4⟩, hbut⟩
  have HB4 := Lib.hid (Below.but HB3.out hbut (fun i hi hx => by have := HSZ.out; rcases hx with h | h <;> omega))
  have HT4 := Lib.hid (HT3.out.but hbut (by have := HSZ.out; intro h; rcases h with h | h <;> omega))
  obtain ⟨A4, c4, hv4, hi4⟩ := ho4.ints
  subst hv4
  have hgl := lt_of_block hg4
  have cg : w4.cell? ⟨w2.heap.size, 0, none⟩ = some (.slice A4 (numsP m.testBit 64).length c4) := by rw [blk_cell hg4]; rfl
  have HCG := Lib.hid cg
  have HI := Lib.hid hi4
  have hLl := numsP_le m.testBit 64
  have HGL := Lib.hid hgl
  have hGrow := fun j (hj : j ≤ 64) => numsP_grow m.testBit j 64 hj
  have HGR := Lib.hid hGrow
  clear hg4 ho4 hbut hi4 K2 hnil hgl cg hGrow
  go_wp2
  have cg := HCG.out
  go_loop [5, 6] (fun l i => ∃ j : Nat, j ≤ 64 ∧ l = .int .i64 ((j : Int) - 1) ∧ i = .int .i64 (numsP m.testBit j).length) (fun _ i => (numsP m.testBit 64).length - (intOf i).toNat)
  case atStart => exact ⟨0, by omega, rfl, rfl⟩
  case round =>
    obtain ⟨j, hj, rfl, rfl⟩ := hrel
    have K3 := next_any m ((j : Int) - 1) w4 hm ⟨by omega, by omega⟩ HT4.out
    rw [above_rest] at K3
    by_cases hlt : (numsP m.testBit j).length < (numsP m.testBit 64).length
    · have hx := not_end m.testBit j hj hlt
      obtain ⟨h1, h2, h3, _⟩ := rest_step m.testBit j hx
      have hat := rest_at m.testBit j hx
      have hnth := nth_num m.testBit j hx
      rw [show leastV (rest m.testBit j) = .tuple #[.int .i64 (lo (rest m.testBit j)), .bool true] by unfold leastV; rw [if_neg hx]] at K3
      have K4 := has_any m (lo (rest m.testBit j)) w4 hm
      rw [inM_in m _ h2, hat] at K4
      obtain ⟨b, off, rfl, _, cell⟩ := HI.out _ hlt
      rw [hnth] at cell
      have hl1 : (numsP m.testBit (lo (rest m.testBit j) + 1)).length = (numsP m.testBit j).length + 1 := by rw [h3]; simp
      have HL1 := Lib.hid hl1
      clear hx h3 hat hnth hl1
      generalize lo (rest m.testBit j) = a at K3 K4 cell HL1 h1 h2
      have d1 : decide ((a : Int) ≤ (j : Int) - 1) = false := dec_n (by omega)
      have d2 : ((a : Int) == (a : Int)) = true := by rw [beq_iff_eq]
      have d3 : ((a : Int) != (a : Int)) = false := by rw [bne_eq_false_iff_eq]
      have HLT := Lib.hid hlt
      go_wp2_with fail
      refine K3.mono ?_
      rintro e w5 ⟨rfl, rfl⟩
      go_wp2_with fail
      refine K4.mono ?_
      rintro e w6 ⟨rfl, rfl⟩
      go_wp2
      go_round
      case rel => exact ⟨a + 1, by omega, by go_num, by rw [HL1.out]; go_num⟩
      case measure =>
        have h9 := HLT.out
        show (numsP m.testBit 64).length - ((((numsP m.testBit j).length : Nat) : Int) + 1).toNat < (numsP m.testBit 64).length - (((numsP m.testBit j).length : Nat) : Int).toNat
        omega
    · have hx := at_end m.testBit j hj (by omega)
      rw [show leastV (rest m.testBit j) = .tuple #[.int .i64 0, .bool false] by unfold leastV; rw [if_pos hx]] at K3
      have HE := Lib.hid (rest_end m.testBit j hj hx)
      go_wp2_with fail
      refine K3.mono ?_
      rintro e w5 ⟨rfl, rfl⟩
      clear K3 hx
      go_wp2_with fail
      have kof := fun (w : World) (h : Ints .i64 w A4 (numsP m.testBit 64)) => of_any A4 c4 (numsP m.testBit 64) w (by omega) h
      rw [mk_nums, mk_self m hm] at kof
      have klen := fun (w : World) => mlen_any m w hm
      have hcl : (((numsP m.testBit 64).length : Int) == ((numsP m.testBit 64).length : Int)) = true := by rw [beq_iff_eq]
      have hcm : ((m : Int) == (m : Int)) = true := by rw [beq_iff_eq]
      have hi1 := HI.out
      have ht1 := HT4.out
      have hgl := HGL.out
      have HS := back_keep hgl (below_drew w4) ⟨Below.refl _ _, HCG.out, hi1, ht1⟩
      have hi2 := HS.2.2.1
      have ht2 := HS.2.2.2
      clear hlt
      go_region_held3 (fun w' => Below w4.heap.size w4 w' ∧ w'.cell? ⟨w2.heap.size, 0, none⟩ = some (.slice A4 (numsP m.testBit 64).length c4) ∧ Ints .i64 w' A4 (numsP m.testBit 64) ∧ Tab w') (first | exact HS | exact back_keep hgl (by assumption) (by assumption)) (first | (go_at_call 14; with_reducible refine (kof _ (by first | assumption | exact back_int (by assumption))).mono ?_; rintro e w9 ⟨rfl, rfl⟩) | (go_at_call 23; with_reducible refine (klen _).mono ?_; rintro e w9 ⟨rfl, rfl⟩) | (go_at_call 13; with_reducible refine (lives02_any _ (by first | assumption | exact back_tab (by assumption))).mono ?_; rintro e w9 ⟨rfl, hb⟩))
      go_wp2
      go_ret
      refine ⟨rfl, ?_⟩
      have hH : Below w4.heap.size w4 w9 := back_below (by assumption)
      exact HB4.out.trans (hH.mono HB4.out.size)
theorem maskBack_walk (m : Int) (w : World) (wm : (Lit.int .u64 m).wf = true) (hT : Tab w) :
    Calls Tryd.prog 6 #[.int .u64 m] w fun e w' => e = .returned (.bool true) ∧ Below w.heap.size w w' := by
  obtain ⟨M, rfl, hM⟩ := wf_u64 wm
  exact mback_in M w (by omega) hT
end Go.Proofs.YtjlieamjlelipaaDoor
