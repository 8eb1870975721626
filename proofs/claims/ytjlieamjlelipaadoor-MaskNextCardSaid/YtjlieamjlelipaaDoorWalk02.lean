/- The walks of lives of layer 2 and of MaskSpans. -/
import Derived.Test.YtjlieamjlelipaaDoorMaskF
import Derived.Deep.RegionHeld3
namespace Go.Proofs.YtjlieamjlelipaaDoor
open Go.RowKit
set_option linter.unusedVariables false

theorem span_ex (w : World) : Calls Tryd.prog 16 #[.int .i64 1, .int .i64 9, .int .i64 4] w fun e w' => e = .returned (.int .u64 546) ∧ w = w' := by
  have := span_any 1 9 4 w ⟨by omega, by omega⟩ ⟨by omega, by omega⟩
  rwa [show mk (inS 1 9 4) = 546 by rw [mk_bv]; decide] at this
theorem next_ex (w : World) (hT : Tab w) : Calls Tryd.prog 22 #[.int .u64 546, .int .i64 5] w fun e w' => e = .returned (.tuple #[.int .i64 9, .bool true]) ∧ w = w' := by
  have := next_any 546 5 w (by decide) ⟨by omega, by omega⟩ hT
  have e : above 546 5 = 512 := by unfold above; rw [mk_bv]; decide
  rw [e, show leastV 512 = .tuple #[.int .i64 9, .bool true] by unfold leastV; rw [if_neg (by decide)]; rfl] at this
  exact this
theorem of_ex (C : Nat) (w : World) (h : Ints .i64 w (some ⟨C, 0, none⟩) [1, 5, 9]) : Calls Tryd.prog 14 #[.slice (some ⟨C, 0, none⟩) 3 3] w fun e w' => e = .returned (.int .u64 546) ∧ w = w' := by
  have := of_any (some ⟨C, 0, none⟩) 3 [1, 5, 9] w (by decide) h
  rwa [show mk (inL [1, 5, 9]) = 546 by rw [mk_bv]; decide] at this
theorem lives02_any (w : World) (hT : Tab w) : Calls Tryd.prog 13 #[] w fun e w' => e = .returned (.bool true) ∧ Below w.heap.size w w' := by
  have k1 := span_ex w
  have k2 := next_ex w hT
  have k3 := of_ex w.heap.size (w.alloc (.cells #[.int .i64 1, .int .i64 5, .int .i64 9] 3)) (ints_new .i64 w [1, 5, 9] _ 3 rfl)
  clear hT
  go_enter Tryd.func13, Tryd.ntmps13
  go_wp2_with fail
  refine k1.mono ?_
  rintro e w1 ⟨rfl, rfl⟩
  go_wp2_with fail
  refine k2.mono ?_
  rintro e w1 ⟨rfl, rfl⟩
  go_wp2_with fail
  refine k1.mono ?_
  rintro e w1 ⟨rfl, rfl⟩
  go_wp2_with fail
  refine k3.mono ?_
  rintro e w1 ⟨rfl, rfl⟩
  go_wp2
  go_ret
  exact ⟨rfl, (Below.refl _ _).alloc (Nat.le_refl _) _⟩
/-- what holds in the region of MaskSpans -/
theorem spans_keep {W0 X Y : World} {g : Nat} {x0 x1 x2 : Int} {A : Option Addr} {zs : List Int} (hg : g < W0.heap.size) (hb : Below X.heap.size X Y)
    (H : Below W0.heap.size W0 X ∧ X.cell? ⟨g, 0, none⟩ = some (.int .i64 x0) ∧ X.cell? ⟨g, 1, none⟩ = some (.int .i64 x1) ∧ X.cell? ⟨g, 2, none⟩ = some (.int .i64 x2) ∧ Ints .i64 X A zs ∧ Tab X) :
    Below W0.heap.size W0 Y ∧ Y.cell? ⟨g, 0, none⟩ = some (.int .i64 x0) ∧ Y.cell? ⟨g, 1, none⟩ = some (.int .i64 x1) ∧ Y.cell? ⟨g, 2, none⟩ = some (.int .i64 x2) ∧ Ints .i64 Y A zs ∧ Tab Y := by
  obtain ⟨h1, c0, c1, c2, hi, ht⟩ := H
  have hz := h1.size
  have c : ∀ i v, X.cell? ⟨g, i, none⟩ = some v → Y.cell? ⟨g, i, none⟩ = some v := fun i v h => (hb.cell (p := ⟨g, i, none⟩) (by show g < _; omega)).trans h
  exact ⟨h1.trans (hb.mono h1.size), c _ _ c0, c _ _ c1, c _ _ c2, hi.below hb, ht.below hb⟩
theorem spans_tab {W0 X : World} {g : Nat} {x0 x1 x2 : Int} {A : Option Addr} {zs : List Int} (H : Below W0.heap.size W0 X ∧ X.cell? ⟨g, 0, none⟩ = some (.int .i64 x0) ∧ X.cell? ⟨g, 1, none⟩ = some (.int .i64 x1) ∧ X.cell? ⟨g, 2, none⟩ = some (.int .i64 x2) ∧ Ints .i64 X A zs ∧ Tab X) : Tab X := H.2.2.2.2.2
theorem spans_int {W0 X : World} {g : Nat} {x0 x1 x2 : Int} {A : Option Addr} {zs : List Int} (H : Below W0.heap.size W0 X ∧ X.cell? ⟨g, 0, none⟩ = some (.int .i64 x0) ∧ X.cell? ⟨g, 1, none⟩ = some (.int .i64 x1) ∧ X.cell? ⟨g, 2, none⟩ = some (.int .i64 x2) ∧ Ints .i64 X A zs ∧ Tab X) : Ints .i64 X A zs := H.2.2.2.2.1
theorem spans_below {W0 X : World} {g : Nat} {x0 x1 x2 : Int} {A : Option Addr} {zs : List Int} (H : Below W0.heap.size W0 X ∧ X.cell? ⟨g, 0, none⟩ = some (.int .i64 x0) ∧ X.cell? ⟨g, 1, none⟩ = some (.int .i64 x1) ∧ X.cell? ⟨g, 2, none⟩ = some (.int .i64 x2) ∧ Ints .i64 X A zs ∧ Tab X) : Below W0.heap.size W0 X := H.1
theorem below_drew (w : World) : Below w.heap.size w w.drew := (Below.refl _ _).drew
set_option maxHeartbeats 3200000 in
set_option maxRecDepth 100000 in
theorem spans_in (A : Option Addr) (c : Nat) (zs : List Int) (x0 x1 x2 : Int) (m : Nat) (w : World) (hl : zs.length ≤ 200) (hi : Ints .i64 w A zs) (h0 : I64 x0) (h2 : I64 x2) (hm : m < 18446744073709551616) (hT : Tab w) :
    Calls Tryd.prog 3 #[.slice A zs.length c, .agg #[.int .i64 x0, .int .i64 x1, .int .i64 x2], .int .u64 m] w fun e w' => e = .returned (.bool true) ∧ Below w.heap.size w w' := by
  have k1 := fun (w : World) (h : Ints .i64 w A zs) => of_any A c zs w (by omega) h
  have k2 := fun (w : World) (h : Ints .i64 w A zs) => rof_any A c zs w (by omega) h
  have k3 := fun (w : World) => span_any x0 x1 x2 w h0 h2
  have k4 := fun (w : World) => rspan_any x0 x1 x2 w h0 h2
  have k5 := fun (w : World) => has_any m x0 w hm
  have k6 := fun (w : World) => rhas_any m x0 w hm
  generalize mk (inL zs) = M1 at k1 k2
  generalize mk (inS x0 x1 x2) = M2 at k3 k4
  generalize inM m x0 = M3 at k5 k6
  have d : decide ((200 : Int) < (zs.length : Int)) = false := decide_eq_false (by omega)
  have d' : decide (200 < zs.length) = false := decide_eq_false (by omega)
  have hb0 : Below w.heap.size w (w.alloc (.cells #[.int .i64 x0, .int .i64 x1, .int .i64 x2] 23)) := (Below.refl _ _).alloc (Nat.le_refl _) _
  have hI := hi.below hb0
  have hTT := hT.below hb0
  clear h0 h2 hm hT hi
  go_enter Tryd.func3, Tryd.ntmps3
  obtain ⟨W0, hW0⟩ : ∃ W0, w.alloc (.cells #[.int .i64 x0, .int .i64 x1, .int .i64 x2] 23) = W0 := ⟨_, rfl⟩
  have c0 : W0.cell? ⟨w.heap.size, 0, none⟩ = some (.int .i64 x0) := by rw [← hW0]; exact cell_new w _ _ 0
  have c1 : W0.cell? ⟨w.heap.size, 1, none⟩ = some (.int .i64 x1) := by rw [← hW0]; exact cell_new w _ _ 1
  have c2 : W0.cell? ⟨w.heap.size, 2, none⟩ = some (.int .i64 x2) := by rw [← hW0]; exact cell_new w _ _ 2
  have hx : w.heap.size < W0.heap.size := by rw [← hW0]; simp
  rw [hW0] at hb0 hI hTT
  have HB0 := Lib.hid hb0
  go_wp2_with fail
  try rw [hW0]
  clear hW0 hb0
  have HS := spans_keep hx (below_drew W0) ⟨Below.refl _ _, c0, c1, c2, hI, hTT⟩
  have hI1 := HS.2.2.2.2.1
  have hT1 := HS.2.2.2.2.2
  go_region_held3 (fun w' => Below W0.heap.size W0 w' ∧ w'.cell? ⟨w.heap.size, 0, none⟩ = some (.int .i64 x0) ∧ w'.cell? ⟨w.heap.size, 1, none⟩ = some (.int .i64 x1) ∧ w'.cell? ⟨w.heap.size, 2, none⟩ = some (.int .i64 x2) ∧ Ints .i64 w' A zs ∧ Tab w') (first | exact HS | exact spans_keep hx (by assumption) (by assumption)) (first | (go_at_call 14; with_reducible refine (k1 _ (by first | assumption | exact spans_int (by assumption))).mono ?_; rintro e w2 ⟨rfl, rfl⟩) | (go_at_call 15; with_reducible refine (k2 _ (by first | assumption | exact spans_int (by assumption))).mono ?_; rintro e w2 ⟨rfl, rfl⟩) | (go_at_call 16; with_reducible refine (k3 _).mono ?_; rintro e w2 ⟨rfl, rfl⟩) | (go_at_call 17; with_reducible refine (k4 _).mono ?_; rintro e w2 ⟨rfl, hb⟩) | (go_at_call 18; with_reducible refine (k5 _).mono ?_; rintro e w2 ⟨rfl, rfl⟩) | (go_at_call 19; with_reducible refine (k6 _).mono ?_; rintro e w2 ⟨rfl, rfl⟩) | (go_at_call 13; with_reducible refine (lives02_any _ (by first | assumption | exact spans_tab (by assumption))).mono ?_; rintro e w2 ⟨rfl, hb⟩))
  go_wp2
  go_ret
  refine ⟨rfl, ?_⟩
  have hH : Below W0.heap.size W0 w2 := spans_below (by assumption)
  exact HB0.out.trans (hH.mono (by omega))
theorem maskSpans_walk (A : Option Addr) (n c : Nat) (zs : List Int) (xs : List Int) (m : Int) (w : World) (hn : n = zs.length) (hl : zs.length ≤ 9223372036854775807) (hz : ∀ z ∈ zs, (Lit.int .i64 z).wf = true) (hi : Ints .i64 w A zs)
    (hx : xs.length = 3) (hxw : ∀ z ∈ xs, (Lit.int .i64 z).wf = true) (wm : (Lit.int .u64 m).wf = true) (hT : Tab w) :
    Calls Tryd.prog 3 #[.slice A n c, .agg (xs.map (Value.int .i64)).toArray, .int .u64 m] w fun e w' => e = .returned (.bool true) ∧ Below w.heap.size w w' := by
  subst hn
  obtain ⟨M, rfl, hM⟩ := wf_u64 wm
  match xs, hx, hxw with
  | [x0, x1, x2], _, hxw =>
    have h0 := wf_i64 (hxw x0 (by simp))
    have h2 := wf_i64 (hxw x2 (by simp))
    show Calls _ _ #[.slice A zs.length c, .agg #[.int .i64 x0, .int .i64 x1, .int .i64 x2], .int .u64 M] w _
    by_cases hlen : 200 < zs.length
    · have d : decide (200 < zs.length) = true := decide_eq_true hlen
      have d' : decide ((200 : Int) < (zs.length : Int)) = true := decide_eq_true (by omega)
      have hb0 : Below w.heap.size w (w.alloc (.cells #[.int .i64 x0, .int .i64 x1, .int .i64 x2] 23)) := (Below.refl _ _).alloc (Nat.le_refl _) _
      have k := lives02_any _ (hT.below hb0)
      have HB := Lib.hid hb0
      clear hb0 hT hi hz hlen h0 h2 hxw
      go_enter Tryd.func3, Tryd.ntmps3
      go_wp2_with fail
      refine k.mono ?_
      rintro e w1 ⟨rfl, hb⟩
      go_wp2
      go_ret
      exact ⟨rfl, HB.out.trans (hb.mono HB.out.size)⟩
    · exact spans_in A c zs x0 x1 x2 M w (by omega) hi h0 h2 (by omega) hT
end Go.Proofs.YtjlieamjlelipaaDoor
