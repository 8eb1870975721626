/- The walk of ItemMay (layer 12). -/
import Derived.Test.YtbfndcogieiejaaItL
import Derived.Test.YtbfndcogieiejaaItQ
import Derived.Test.YtbfndcogieiejaaRow
namespace Go.Proofs.Ytbfndcogieiejaa
open Go.RowKit
set_option linter.unusedVariables false

/-- three numbers in their block -/
def X3 (w : World) (x0 x1 x2 : Int) (X : World) : Prop := Below w.heap.size w X ∧ X.heap[w.heap.size]? = some (.cells #[.int .i64 x0, .int .i64 x1, .int .i64 x2] 23 (0, 0))
theorem X3.to {w X Y : World} {x0 x1 x2 : Int} (h : X3 w x0 x1 x2 X) (hb : Below X.heap.size X Y) : X3 w x0 x1 x2 Y := ⟨h.1.trans (hb.mono h.1.size), (hb.block _ (lt_of_block h.2)).trans h.2⟩
theorem X3.held {w : World} {x0 x1 x2 : Int} {X : World} (h : X3 w x0 x1 x2 X) : Below w.heap.size w X ∧ X.cell? ⟨w.heap.size, 0, none⟩ = some (.int .i64 x0) ∧ X.cell? ⟨w.heap.size, 1, none⟩ = some (.int .i64 x1) ∧ X.cell? ⟨w.heap.size, 2, none⟩ = some (.int .i64 x2) := ⟨h.1, blk_cell h.2 0, blk_cell h.2 1, blk_cell h.2 2⟩
set_option maxHeartbeats 3200000 in
set_option maxRecDepth 20000 in
theorem itemMay_any (A : Option Addr) (c : Nat) (qs : List Q4) (zs : List Int) (w : World) (hq : ItemsAt w A qs) (hn : zs.length = 3) (hz : ∀ z ∈ zs, (Lit.int .i64 z).wf = true) : Calls Try.prog 3 #[.slice A qs.length c, .agg (zs.map (Value.int .i64)).toArray] w fun e w' => e = .returned (.bool true) ∧ Below w.heap.size w w' := by
  obtain ⟨x0, x1, x2, rfl⟩ : ∃ x0 x1 x2, zs = [x0, x1, x2] := by
    match zs, hn with
    | [a, b, c], _ => exact ⟨a, b, c, rfl⟩
  show Calls Try.prog 3 #[.slice A qs.length c, .agg #[.int .i64 x0, .int .i64 x1, .int .i64 x2]] w fun e w' => e = .returned (.bool true) ∧ Below w.heap.size w w'
  clear hn hz
  have HX0 := Lib.hid (show X3 w x0 x1 x2 (w.alloc (.cells #[.int .i64 x0, .int .i64 x1, .int .i64 x2] 23)) from ⟨(Below.refl _ _).alloc (Nat.le_refl _) _, blk_new w _⟩)
  have HQ := Lib.hid hq
  have KL := Lib.hid (fun W => lives12_any W)
  have KM := Lib.hid (fun q W => imay_any q x0 x1 W)
  have KR := Lib.hid (fun q W => rimay_any q x0 x1 W)
  clear hq
  by_cases hlen : qs.length ≤ 500
  · have KI := Lib.hid (fun W h => right_any x0 x1 x2 A c qs W (by omega) h)
    have KJ := Lib.hid (fun W h => rright_any x0 x1 x2 A c qs W (by omega) h)
    have d5 : decide (500 < (qs.length : Int)) = false := dec_n (by omega)
    have d5n : decide (500 < qs.length) = false := dec_n (by omega)
    have HLN := Lib.hid hlen
    generalize rightB x0 x1 x2 qs = rb at KI KJ
    clear hlen
    go_enter Try.func3, Try.ntmps3
    go_wp2
    go_loopw [5] (fun i wr => ∃ k : Nat, k ≤ qs.length ∧ i = .int .i64 k ∧ X3 w x0 x1 x2 wr) (fun i _ => qs.length - (intOf i).toNat)
    case atStart => exact ⟨0, by omega, rfl, HX0.out⟩
    case round =>
      obtain ⟨k, hk, rfl, hx⟩ := hrel
      by_cases hlt : k < qs.length
      · have d0 : decide (k < qs.length) = true := dec_t hlt
        obtain ⟨b, off, rfl, hbl, y0, y1, y2, y3⟩ := (HQ.out.below hx.1) k hlt
        generalize nthQ qs k = q at y0 y1 y2 y3
        have K1 := KM.out q
        have K2 := KR.out q
        unfold qv at K1 K2
        generalize mayB x0 x1 q = mb at K1 K2
        have ik0 : (0 : Int) ≤ (k : Int) := by omega
        have ik1 : (k : Int) < (qs.length : Int) := by omega
        have hw1 : IntKind.i64.wrap ((k : Int) + 1) = (k : Int) + 1 := IntWalk.i64_in _ ⟨by omega, by have := HLN.out; omega⟩
        have HMK := Lib.hid (fun (Y : World) (hb : Below wr.heap.size wr Y) => show Below wr.heap.size wr Y ∧ Y.cell? ⟨b, off + k * 4, none⟩ = some (.int .i64 q.1) ∧ Y.cell? ⟨b, off + k * 4 + 1, none⟩ = some (.int .i64 q.2.1) ∧ Y.cell? ⟨b, off + k * 4 + 2, none⟩ = some (.int .i64 q.2.2.1) ∧ Y.cell? ⟨b, off + k * 4 + 3, none⟩ = some (.int .i64 q.2.2.2) ∧ Y.cell? ⟨w.heap.size, 0, none⟩ = some (.int .i64 x0) ∧ Y.cell? ⟨w.heap.size, 1, none⟩ = some (.int .i64 x1) ∧ Y.cell? ⟨w.heap.size, 2, none⟩ = some (.int .i64 x2) from
          ⟨hb, (hb.cell (p := ⟨b, off + k * 4, none⟩) hbl).trans y0, (hb.cell (p := ⟨b, off + k * 4 + 1, none⟩) hbl).trans y1, (hb.cell (p := ⟨b, off + k * 4 + 2, none⟩) hbl).trans y2, (hb.cell (p := ⟨b, off + k * 4 + 3, none⟩) hbl).trans y3, (hx.to hb).held.2.1, (hx.to hb).held.2.2.1, (hx.to hb).held.2.2.2⟩)
        have hb0 : Below wr.heap.size wr wr.drew := (Below.refl _ _).drew
        have HS := HMK.out wr.drew hb0
        have HX := Lib.hid hx
        clear hx y0 y1 y2 y3
        go_wp2_with fail
        refine wp_region_held_drew (S := fun X => Below wr.heap.size wr X ∧ X.cell? ⟨b, off + k * 4, none⟩ = some (.int .i64 q.1) ∧ X.cell? ⟨b, off + k * 4 + 1, none⟩ = some (.int .i64 q.2.1) ∧ X.cell? ⟨b, off + k * 4 + 2, none⟩ = some (.int .i64 q.2.2.1) ∧ X.cell? ⟨b, off + k * 4 + 3, none⟩ = some (.int .i64 q.2.2.2) ∧ X.cell? ⟨w.heap.size, 0, none⟩ = some (.int .i64 x0) ∧ X.cell? ⟨w.heap.size, 1, none⟩ = some (.int .i64 x1) ∧ X.cell? ⟨w.heap.size, 2, none⟩ = some (.int .i64 x2)) (by kernel_rfl) HS (fun hHeld => ?_)
        refine heldVal (v := ?v1) 0 rfl rfl (by kernel_rfl) (by kernel_rfl) (by kernel_rfl) (fun _ _ _ h => h) (by rfl) (fun w hSw => ?hy1) (by assumption) ?_
        case hy1 => ((try dsimp only at hSw); go_simp; (try with_reducible rfl))
        try simp only [Act.put, List.setIfInBounds_toArray, List.set_cons_zero, List.set_cons_succ]
        refine heldVal (v := ?v2) 1 rfl rfl (by kernel_rfl) (by kernel_rfl) (by kernel_rfl) (fun _ _ _ h => h) (by rfl) (fun w hSw => ?hy2) (by assumption) ?_
        case hy2 => ((try dsimp only at hSw); go_simp; (try with_reducible rfl))
        try simp only [Act.put, List.setIfInBounds_toArray, List.set_cons_zero, List.set_cons_succ]
        refine heldVal (v := ?v3) 2 rfl rfl (by kernel_rfl) (by kernel_rfl) (by kernel_rfl) (fun _ _ _ h => h) (by rfl) (fun w hSw => ?hy3) (by assumption) ?_
        case hy3 => ((try dsimp only at hSw); go_simp; (try with_reducible rfl))
        try simp only [Act.put, List.setIfInBounds_toArray, List.set_cons_zero, List.set_cons_succ]
        refine heldVal (v := .agg #[.int .i64 q.1, .int .i64 q.2.1, .int .i64 q.2.2.1, .int .i64 q.2.2.2]) 3 rfl rfl (by kernel_rfl) (by kernel_rfl) (by kernel_rfl) (fun _ _ _ h => h) (by rfl) (fun w hSw => ?hy4) (by assumption) ?_
        case hy4 => ((try dsimp only at hSw); go_simp)
        try simp only [Act.put, List.setIfInBounds_toArray, List.set_cons_zero, List.set_cons_succ]
        refine heldVal (v := ?v5) 4 rfl rfl (by kernel_rfl) (by kernel_rfl) (by kernel_rfl) (fun _ _ _ h => h) (by rfl) (fun w hSw => ?hy5) (by assumption) ?_
        case hy5 => ((try dsimp only at hSw); go_simp; (try with_reducible rfl))
        try simp only [Act.put, List.setIfInBounds_toArray, List.set_cons_zero, List.set_cons_succ]
        refine heldVal (v := ?v6) 5 rfl rfl (by kernel_rfl) (by kernel_rfl) (by kernel_rfl) (fun _ _ _ h => h) (by rfl) (fun w hSw => ?hy6) (by assumption) ?_
        case hy6 => ((try dsimp only at hSw); go_simp; (try with_reducible rfl))
        try simp only [Act.put, List.setIfInBounds_toArray, List.set_cons_zero, List.set_cons_succ]
        refine heldVal (v := ?v7) 6 rfl rfl (by kernel_rfl) (by kernel_rfl) (by kernel_rfl) (fun _ _ _ h => h) (by rfl) (fun w hSw => ?hy7) (by assumption) ?_
        case hy7 => ((try dsimp only at hSw); go_simp; (try with_reducible rfl))
        try simp only [Act.put, List.setIfInBounds_toArray, List.set_cons_zero, List.set_cons_succ]
        refine heldVal (v := ?v8) 7 rfl rfl (by kernel_rfl) (by kernel_rfl) (by kernel_rfl) (fun _ _ _ h => h) (by rfl) (fun w hSw => ?hy8) (by assumption) ?_
        case hy8 => ((try dsimp only at hSw); go_simp; (try with_reducible rfl))
        try simp only [Act.put, List.setIfInBounds_toArray, List.set_cons_zero, List.set_cons_succ]
        refine heldVal (v := ?v9) 9 rfl rfl (by kernel_rfl) (by kernel_rfl) (by kernel_rfl) (fun _ _ _ h => h) (by rfl) (fun w hSw => ?hy9) (by assumption) ?_
        case hy9 => ((try dsimp only at hSw); go_simp; (try with_reducible rfl))
        try simp only [Act.put, List.setIfInBounds_toArray, List.set_cons_zero, List.set_cons_succ]
        refine heldVal (v := ?v10) 10 rfl rfl (by kernel_rfl) (by kernel_rfl) (by kernel_rfl) (fun _ _ _ h => h) (by rfl) (fun w hSw => ?hy10) (by assumption) ?_
        case hy10 => ((try dsimp only at hSw); go_simp; (try with_reducible rfl))
        try simp only [Act.put, List.setIfInBounds_toArray, List.set_cons_zero, List.set_cons_succ]
        refine heldVal (v := ?v11) 11 rfl rfl (by kernel_rfl) (by kernel_rfl) (by kernel_rfl) (fun _ _ _ h => h) (by rfl) (fun w hSw => ?hy11) (by assumption) ?_
        case hy11 => ((try dsimp only at hSw); go_simp; (try with_reducible rfl))
        try simp only [Act.put, List.setIfInBounds_toArray, List.set_cons_zero, List.set_cons_succ]
        refine heldVal (v := .agg #[.int .i64 q.1, .int .i64 q.2.1, .int .i64 q.2.2.1, .int .i64 q.2.2.2]) 12 rfl rfl (by kernel_rfl) (by kernel_rfl) (by kernel_rfl) (fun _ _ _ h => h) (by rfl) (fun w hSw => ?hy12) (by assumption) ?_
        case hy12 => ((try dsimp only at hSw); go_simp)
        try simp only [Act.put, List.setIfInBounds_toArray, List.set_cons_zero, List.set_cons_succ]
        refine heldVal (v := ?v13) 13 rfl rfl (by kernel_rfl) (by kernel_rfl) (by kernel_rfl) (fun _ _ _ h => h) (by rfl) (fun w hSw => ?hy13) (by assumption) ?_
        case hy13 => ((try dsimp only at hSw); go_simp; (try with_reducible rfl))
        try simp only [Act.put, List.setIfInBounds_toArray, List.set_cons_zero, List.set_cons_succ]
        refine heldVal (v := ?v14) 14 rfl rfl (by kernel_rfl) (by kernel_rfl) (by kernel_rfl) (fun _ _ _ h => h) (by rfl) (fun w hSw => ?hy14) (by assumption) ?_
        case hy14 => ((try dsimp only at hSw); go_simp; (try with_reducible rfl))
        try simp only [Act.put, List.setIfInBounds_toArray, List.set_cons_zero, List.set_cons_succ]
        refine heldVal (v := ?v15) 15 rfl rfl (by kernel_rfl) (by kernel_rfl) (by kernel_rfl) (fun _ _ _ h => h) (by rfl) (fun w hSw => ?hy15) (by assumption) ?_
        case hy15 => ((try dsimp only at hSw); go_simp; (try with_reducible rfl))
        try simp only [Act.put, List.setIfInBounds_toArray, List.set_cons_zero, List.set_cons_succ]
        refine heldVal (v := ?v16) 16 rfl rfl (by kernel_rfl) (by kernel_rfl) (by kernel_rfl) (fun _ _ _ h => h) (by rfl) (fun w hSw => ?hy16) (by assumption) ?_
        case hy16 => ((try dsimp only at hSw); go_simp; (try with_reducible rfl))
        try simp only [Act.put, List.setIfInBounds_toArray, List.set_cons_zero, List.set_cons_succ]
        refine heldCall 8 rfl rfl (by kernel_rfl) (by rfl) (fun K hK => ?_)
        go_simp
        refine (K1 _).mono ?_
        rintro e v1 ⟨rfl, hb1⟩
        have hB1 : Below wr.heap.size wr v1 := hb0.trans (hb1.mono hb0.size)
        have hS1 := HMK.out v1 hB1
        clear hb1
        go_wp2_with fail
        refine hK.out _ _ ?hS (fun hHeld => ?_)
        case hS => (exact hS1)
        clear hK K
        try simp only [Act.put, List.setIfInBounds_toArray, List.set_cons_zero, List.set_cons_succ]
        refine heldCall 17 rfl rfl (by kernel_rfl) (by rfl) (fun K hK => ?_)
        go_simp
        refine (K2 _).mono ?_
        rintro e v2 ⟨rfl, hb1⟩
        have hB2 : Below wr.heap.size wr v2 := hB1.trans (hb1.mono hB1.size)
        have hS2 := HMK.out v2 hB2
        clear hb1
        go_wp2_with fail
        refine hK.out _ _ ?hS (fun hHeld => ?_)
        case hS => (exact hS2)
        clear hK K
        try simp only [Act.put, List.setIfInBounds_toArray, List.set_cons_zero, List.set_cons_succ]
        refine heldVal (v := ?v17) 18 rfl rfl (by kernel_rfl) (by kernel_rfl) (by kernel_rfl) (fun _ _ _ h => h) (by rfl) (fun w hSw => ?hy17) (by assumption) ?_
        case hy17 => ((try dsimp only at hSw); go_simp; (try with_reducible rfl))
        try simp only [Act.put, List.setIfInBounds_toArray, List.set_cons_zero, List.set_cons_succ]
        refine wpAnyH_done (by kernel_rfl) ?_ _
        have HX1 := Lib.hid (HX.out.to hB2)
        clear hS1 hS2
        go_wp2
        go_roundw
        case rel => exact ⟨k + 1, by omega, by go_num, HX1.out⟩
        case measure => simp [intOf]; omega
      · obtain rfl : k = qs.length := by omega
        have HMK := Lib.hid (fun (Y : World) (hb : Below wr.heap.size wr Y) => show Below wr.heap.size wr Y ∧ Y.cell? ⟨w.heap.size, 0, none⟩ = some (.int .i64 x0) ∧ Y.cell? ⟨w.heap.size, 1, none⟩ = some (.int .i64 x1) ∧ Y.cell? ⟨w.heap.size, 2, none⟩ = some (.int .i64 x2) from ⟨hb, (hx.to hb).held.2.1, (hx.to hb).held.2.2.1, (hx.to hb).held.2.2.2⟩)
        have hb0 : Below wr.heap.size wr wr.drew := (Below.refl _ _).drew
        have HS := HMK.out wr.drew hb0
        have HX := Lib.hid hx
        clear hx hlt
        go_wp2_with fail
        refine wp_region_held_drew (S := fun X => Below wr.heap.size wr X ∧ X.cell? ⟨w.heap.size, 0, none⟩ = some (.int .i64 x0) ∧ X.cell? ⟨w.heap.size, 1, none⟩ = some (.int .i64 x1) ∧ X.cell? ⟨w.heap.size, 2, none⟩ = some (.int .i64 x2)) (by kernel_rfl) HS (fun hHeld => ?_)
        refine heldVal (v := ?v18) 0 rfl rfl (by kernel_rfl) (by kernel_rfl) (by kernel_rfl) (fun _ _ _ h => h) (by rfl) (fun w hSw => ?hy18) (by assumption) ?_
        case hy18 => ((try dsimp only at hSw); go_simp; (try with_reducible rfl))
        try simp only [Act.put, List.setIfInBounds_toArray, List.set_cons_zero, List.set_cons_succ]
        refine heldVal (v := ?v19) 1 rfl rfl (by kernel_rfl) (by kernel_rfl) (by kernel_rfl) (fun _ _ _ h => h) (by rfl) (fun w hSw => ?hy19) (by assumption) ?_
        case hy19 => ((try dsimp only at hSw); go_simp; (try with_reducible rfl))
        try simp only [Act.put, List.setIfInBounds_toArray, List.set_cons_zero, List.set_cons_succ]
        refine heldVal (v := ?v20) 2 rfl rfl (by kernel_rfl) (by kernel_rfl) (by kernel_rfl) (fun _ _ _ h => h) (by rfl) (fun w hSw => ?hy20) (by assumption) ?_
        case hy20 => ((try dsimp only at hSw); go_simp; (try with_reducible rfl))
        try simp only [Act.put, List.setIfInBounds_toArray, List.set_cons_zero, List.set_cons_succ]
        refine heldVal (v := ?v21) 3 rfl rfl (by kernel_rfl) (by kernel_rfl) (by kernel_rfl) (fun _ _ _ h => h) (by rfl) (fun w hSw => ?hy21) (by assumption) ?_
        case hy21 => ((try dsimp only at hSw); go_simp; (try with_reducible rfl))
        try simp only [Act.put, List.setIfInBounds_toArray, List.set_cons_zero, List.set_cons_succ]
        refine heldVal (v := ?v22) 4 rfl rfl (by kernel_rfl) (by kernel_rfl) (by kernel_rfl) (fun _ _ _ h => h) (by rfl) (fun w hSw => ?hy22) (by assumption) ?_
        case hy22 => ((try dsimp only at hSw); go_simp; (try with_reducible rfl))
        try simp only [Act.put, List.setIfInBounds_toArray, List.set_cons_zero, List.set_cons_succ]
        refine heldVal (v := ?v23) 5 rfl rfl (by kernel_rfl) (by kernel_rfl) (by kernel_rfl) (fun _ _ _ h => h) (by rfl) (fun w hSw => ?hy23) (by assumption) ?_
        case hy23 => ((try dsimp only at hSw); go_simp; (try with_reducible rfl))
        try simp only [Act.put, List.setIfInBounds_toArray, List.set_cons_zero, List.set_cons_succ]
        refine heldVal (v := ?v24) 6 rfl rfl (by kernel_rfl) (by kernel_rfl) (by kernel_rfl) (fun _ _ _ h => h) (by rfl) (fun w hSw => ?hy24) (by assumption) ?_
        case hy24 => ((try dsimp only at hSw); go_simp; (try with_reducible rfl))
        try simp only [Act.put, List.setIfInBounds_toArray, List.set_cons_zero, List.set_cons_succ]
        refine heldVal (v := ?v25) 8 rfl rfl (by kernel_rfl) (by kernel_rfl) (by kernel_rfl) (fun _ _ _ h => h) (by rfl) (fun w hSw => ?hy25) (by assumption) ?_
        case hy25 => ((try dsimp only at hSw); go_simp; (try with_reducible rfl))
        try simp only [Act.put, List.setIfInBounds_toArray, List.set_cons_zero, List.set_cons_succ]
        refine heldVal (v := ?v26) 9 rfl rfl (by kernel_rfl) (by kernel_rfl) (by kernel_rfl) (fun _ _ _ h => h) (by rfl) (fun w hSw => ?hy26) (by assumption) ?_
        case hy26 => ((try dsimp only at hSw); go_simp; (try with_reducible rfl))
        try simp only [Act.put, List.setIfInBounds_toArray, List.set_cons_zero, List.set_cons_succ]
        refine heldVal (v := ?v27) 10 rfl rfl (by kernel_rfl) (by kernel_rfl) (by kernel_rfl) (fun _ _ _ h => h) (by rfl) (fun w hSw => ?hy27) (by assumption) ?_
        case hy27 => ((try dsimp only at hSw); go_simp; (try with_reducible rfl))
        try simp only [Act.put, List.setIfInBounds_toArray, List.set_cons_zero, List.set_cons_succ]
        refine heldVal (v := ?v28) 11 rfl rfl (by kernel_rfl) (by kernel_rfl) (by kernel_rfl) (fun _ _ _ h => h) (by rfl) (fun w hSw => ?hy28) (by assumption) ?_
        case hy28 => ((try dsimp only at hSw); go_simp; (try with_reducible rfl))
        try simp only [Act.put, List.setIfInBounds_toArray, List.set_cons_zero, List.set_cons_succ]
        refine heldVal (v := ?v29) 12 rfl rfl (by kernel_rfl) (by kernel_rfl) (by kernel_rfl) (fun _ _ _ h => h) (by rfl) (fun w hSw => ?hy29) (by assumption) ?_
        case hy29 => ((try dsimp only at hSw); go_simp; (try with_reducible rfl))
        try simp only [Act.put, List.setIfInBounds_toArray, List.set_cons_zero, List.set_cons_succ]
        refine heldVal (v := ?v30) 13 rfl rfl (by kernel_rfl) (by kernel_rfl) (by kernel_rfl) (fun _ _ _ h => h) (by rfl) (fun w hSw => ?hy30) (by assumption) ?_
        case hy30 => ((try dsimp only at hSw); go_simp; (try with_reducible rfl))
        try simp only [Act.put, List.setIfInBounds_toArray, List.set_cons_zero, List.set_cons_succ]
        refine heldVal (v := ?v31) 14 rfl rfl (by kernel_rfl) (by kernel_rfl) (by kernel_rfl) (fun _ _ _ h => h) (by rfl) (fun w hSw => ?hy31) (by assumption) ?_
        case hy31 => ((try dsimp only at hSw); go_simp; (try with_reducible rfl))
        try simp only [Act.put, List.setIfInBounds_toArray, List.set_cons_zero, List.set_cons_succ]
        refine heldCall 7 rfl rfl (by kernel_rfl) (by rfl) (fun K hK => ?_)
        go_simp
        refine (KI.out _ (HQ.out.below (HX.out.to hb0).1)).mono ?_
        rintro e v1 ⟨rfl, hb1⟩
        have hB1 : Below wr.heap.size wr v1 := hb0.trans (hb1.mono hb0.size)
        have hS1 := HMK.out v1 hB1
        clear hb1
        go_wp2_with fail
        refine hK.out _ _ ?hS (fun hHeld => ?_)
        case hS => (exact hS1)
        clear hK K
        try simp only [Act.put, List.setIfInBounds_toArray, List.set_cons_zero, List.set_cons_succ]
        refine heldCall 15 rfl rfl (by kernel_rfl) (by rfl) (fun K hK => ?_)
        go_simp
        refine (KJ.out _ (HQ.out.below (HX.out.to hB1).1)).mono ?_
        rintro e v2 ⟨rfl, hb1⟩
        have hB2 : Below wr.heap.size wr v2 := hB1.trans (hb1.mono hB1.size)
        have hS2 := HMK.out v2 hB2
        clear hb1
        go_wp2_with fail
        refine hK.out _ _ ?hS (fun hHeld => ?_)
        case hS => (exact hS2)
        clear hK K
        try simp only [Act.put, List.setIfInBounds_toArray, List.set_cons_zero, List.set_cons_succ]
        refine heldVal (v := ?v32) 16 rfl rfl (by kernel_rfl) (by kernel_rfl) (by kernel_rfl) (fun _ _ _ h => h) (by rfl) (fun w hSw => ?hy32) (by assumption) ?_
        case hy32 => ((try dsimp only at hSw); go_simp; (try with_reducible rfl))
        try simp only [Act.put, List.setIfInBounds_toArray, List.set_cons_zero, List.set_cons_succ]
        refine heldVal (v := ?v33) 17 rfl rfl (by kernel_rfl) (by kernel_rfl) (by kernel_rfl) (fun _ _ _ h => h) (by rfl) (fun w hSw => ?hy33) (by assumption) ?_
        case hy33 => ((try dsimp only at hSw); go_simp; (try with_reducible rfl))
        try simp only [Act.put, List.setIfInBounds_toArray, List.set_cons_zero, List.set_cons_succ]
        refine heldCall 18 rfl rfl (by kernel_rfl) (by rfl) (fun K hK => ?_)
        go_simp
        refine (KL.out _).mono ?_
        rintro e v3 ⟨rfl, hb1⟩
        have hB3 : Below wr.heap.size wr v3 := hB2.trans (hb1.mono hB2.size)
        have hS3 := HMK.out v3 hB3
        clear hb1
        go_wp2_with fail
        refine hK.out _ _ ?hS (fun hHeld => ?_)
        case hS => (exact hS3)
        clear hK K
        try simp only [Act.put, List.setIfInBounds_toArray, List.set_cons_zero, List.set_cons_succ]
        refine heldVal (v := ?v34) 19 rfl rfl (by kernel_rfl) (by kernel_rfl) (by kernel_rfl) (fun _ _ _ h => h) (by rfl) (fun w hSw => ?hy34) (by assumption) ?_
        case hy34 => ((try dsimp only at hSw); go_simp; (try with_reducible rfl))
        try simp only [Act.put, List.setIfInBounds_toArray, List.set_cons_zero, List.set_cons_succ]
        refine heldVal (v := ?v35) 20 rfl rfl (by kernel_rfl) (by kernel_rfl) (by kernel_rfl) (fun _ _ _ h => h) (by rfl) (fun w hSw => ?hy35) (by assumption) ?_
        case hy35 => ((try dsimp only at hSw); go_simp; (try with_reducible rfl))
        try simp only [Act.put, List.setIfInBounds_toArray, List.set_cons_zero, List.set_cons_succ]
        refine wpAnyH_done (by kernel_rfl) ?_ _
        have HBX := Lib.hid (HX.out.to hB3).1
        clear hS1 hS2 hS3
        go_wp2
        go_ret
        exact ⟨rfl, HBX.out⟩
  · have d5 : decide (500 < (qs.length : Int)) = true := dec_t (by omega)
    have d5n : decide (500 < qs.length) = true := dec_t (by omega)
    clear hlen
    go_enter Try.func3, Try.ntmps3
    go_wp2_with fail
    refine (KL.out _).mono ?_
    rintro e v1 ⟨rfl, hb1⟩
    have HB1 := Lib.hid (HX0.out.to hb1).1
    clear hb1
    go_wp2
    go_ret
    exact ⟨rfl, HB1.out⟩
end Go.Proofs.Ytbfndcogieiejaa
