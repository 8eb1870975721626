/- The contracts of the functions that the statements WideAll and WideBack hand to a set's iterator (layer 4). -/
import Derived.Test.YtjpdfbljhbgbcaaDoorWalk04B
import Derived.RangeFuncWrites
import Derived.RangeFuncBox
namespace Go.Proofs.YtjpdfbljhbgbcaaDoor
open Go.RowKit
set_option linter.unusedVariables false

/-- the list in the box g is one longer: only the box and the list's own row have changed -/
def Grew (w : World) (g : Nat) (v : Value) (w' : World) (v' : Value) : Prop := But (fun k => k = g ∨ v.ownBlock = some k) w w' ∧ (v'.ownBlock = v.ownBlock ∨ ∃ k, v'.ownBlock = some k ∧ w.heap.size ≤ k)
theorem row_cells {w : World} {B : Nat} {v : Value} {zs : List Int} (h : OwnI w B v zs) {k : Nat} (hk : v.ownBlock = some k) : ∃ o : Obj, w.heap[k]? = some o ∧ o.isCells = true := by
  rcases h.2 with ⟨rfl, _⟩ | ⟨g', cap, cur, rfl, _, hgg, _⟩
  · cases hk
  · cases hk
    exact ⟨_, hgg, rfl⟩
theorem Grew.keeps {w w' : World} {g B0 B : Nat} {v v' u : Value} {zs : List Int} {t : TypeId} (h : Grew w g v w' v') (hg : w.heap[g]? = some (.cells #[u] t (0, 0))) (ho : OwnI w B v zs) : KeepsFrom B0 w w' :=
  ⟨h.1.size, fun k o _ hk hc => by
    refine (h.1.block k (lt_of_block hk) ?_).trans hk
    rintro (rfl | e)
    · rw [hg] at hk; cases hk; cases hc
    · obtain ⟨o', h1, h2⟩ := row_cells ho e
      rw [hk] at h1; cases h1; rw [hc] at h2; cases h2⟩
set_option maxHeartbeats 1600000 in
set_option maxRecDepth 20000 in
theorem wcl_any (g B : Nat) (q mo : Nat) (v : Value) (zs : List Int) (n : Int) (w : World) (hg : w.heap[g]? = some (.cells #[v] 26 (0, 0))) (hq : w.cell? ⟨q, 0, none⟩ = some (.int .u16 mo)) (hmo : mo ≤ 65535) (hqg : q ≠ g) (hqB : q < B)
    (hgB : g < B) (hB : B ≤ w.heap.size) (ho : OwnI w B v zs) (hl : zs.length ≤ 1000) :
    Calls Tryd.prog 26 #[.int .i64 n, .pointer (some ⟨g, 0, none⟩), .pointer (some ⟨q, 0, none⟩)] w fun e w' => e = .returned (.bool (!decide (zs.length + 1 = mo))) ∧
      (∃ v', w'.heap[g]? = some (.cells #[v'] 26 (0, 0)) ∧ OwnI w' B v' (zs ++ [n]) ∧ Grew w g v w' v') := by
  obtain ⟨A0, c0', hv, _⟩ := ho.ints
  have c0 : w.cell? ⟨g, 0, none⟩ = some v := by rw [blk_cell hg]; rfl
  have HG := Lib.hid hg
  have HQ := Lib.hid hq
  clear hq
  have HO := Lib.hid ho
  subst hv
  clear hg ho
  go_enter Tryd.func26, Tryd.ntmps26
  go_wp2_with ((at_builtin; refine wpList_app2 rfl _ _ rfl B _ _ rfl (HO.out.alloc _) _ 1 n rfl ?n1 ?n2 ?n3 ?_))
  case n1 => exact cell_new _ _ _ 0
  case n2 => omega
  case n3 => simp; omega
  intro v' w1 hown1 hgrow hblk
  have HO1 := Lib.hid hown1
  have hnb : some g ≠ (Value.slice A0 zs.length c0').ownBlock := fun e => by have := own_block HO.out g e.symm; omega
  have hgs := lt_of_block HG.out
  have hg1 : w1.heap[g]? = some (.cells #[.slice A0 zs.length c0'] 26 (0, 0)) := by
    rw [hgrow.block g (by simp; omega) hnb]; exact blk_more HG.out _
  have hnq : some q ≠ (Value.slice A0 zs.length c0').ownBlock := fun e => by have := own_block HO.out q e.symm; omega
  have hqs := World.block_lt_of_cell? w _ HQ.out
  have hq1 : w1.cell? ⟨q, 0, none⟩ = some (.int .u16 mo) := by
    rw [← HQ.out]
    exact World.cell?_of_block ((hgrow.block q (by simp; omega) hnq).trans (Below.heap_alloc _ _ q (by omega)))
  have HBut := Lib.hid (show But (fun k => k = g ∨ (Value.slice A0 zs.length c0').ownBlock = some k) w w1 from ⟨hgrow.os, hgrow.tape, hgrow.output, by have := hgrow.size; simp at this; omega, fun k hk hx => by
    rw [hgrow.block k (by simp; omega) (fun e => hx (.inr e.symm))]
    exact Below.heap_alloc _ _ k hk⟩)
  have HBL := Lib.hid hblk
  obtain ⟨A1, c1, hv, _⟩ := HO1.out.ints
  subst hv
  have hn1 : (Value.slice A1 (zs ++ [n]).length c1).ownBlock ≠ some g := fun e => by have := own_block HO1.out g e; omega
  clear hown1 hgrow hnb hblk
  have HG1 := Lib.hid hg1
  have d0 := blk_cell hg1 0
  have fz := blk_free hg1 0
  have d1 : (w1.setCell ⟨g, 0, none⟩ (.slice A1 (zs ++ [n]).length c1)).cell? ⟨g, 0, none⟩ = some (.slice A1 (zs ++ [n]).length c1) := by rw [blk_cell (blk_put hg1 0 _)]; rfl
  have d2 : (w1.setCell ⟨g, 0, none⟩ (.slice A1 (zs ++ [n]).length c1)).cell? ⟨q, 0, none⟩ = some (.int .u16 mo) := (World.cell?_of_block (Below.heap_setCell w1 _ _ q hqg)).trans hq1
  have hlen : (zs ++ [n]).length = zs.length + 1 := by simp
  rw [hlen] at d1 d2 hn1
  have HN1 := Lib.hid hn1
  have w5 : IntKind.i64.wrap (mo : Int) = (mo : Int) := IntWalk.i64_in _ ⟨by omega, by omega⟩
  have HO2 := Lib.hid (show OwnI w1 B (.slice A1 (zs.length + 1) c1) (zs ++ [n]) by rw [← hlen]; exact HO1.out)
  rw [hlen] at HBL
  have HE := Lib.hid (show (((zs.length : Nat) : Int) + 1 != (mo : Int)) = !decide (zs.length + 1 = mo) by
    by_cases e : zs.length + 1 = mo
    · rw [dec_t e, Bool.not_true, bne_eq_false_iff_eq]; omega
    · rw [dec_n e, Bool.not_false, bne_iff_ne]; omega)
  clear hg1 hq1 hlen hn1
  go_wp2
  go_ret
  refine ⟨ret_bool HE.out, ⟨_, blk_put HG1.out 0 _, World.ownsRow.kept HO2.out (grownBy_setCell' w1 g _) (.inr HN1.out), HBut.out.setCell (.inr (.inl rfl)) _, ?_⟩⟩
  rcases HBL.out with e | e
  · exact .inl e
  · exact .inr ⟨_, e, by first | omega | simp⟩
set_option maxHeartbeats 1600000 in
set_option maxRecDepth 20000 in
theorem wcb_any (g B : Nat) (v : Value) (zs : List Int) (n : Int) (w : World) (hg : w.heap[g]? = some (.cells #[v] 26 (0, 0)))
    (hgB : g < B) (hB : B ≤ w.heap.size) (ho : OwnI w B v zs) (hl : zs.length ≤ 498) :
    Calls Tryd.prog 28 #[.int .i64 n, .pointer (some ⟨g, 0, none⟩)] w fun e w' => e = .returned (.bool (true)) ∧
      (∃ v', w'.heap[g]? = some (.cells #[v'] 26 (0, 0)) ∧ OwnI w' B v' (zs ++ [n]) ∧ Grew w g v w' v') := by
  obtain ⟨A0, c0', hv, _⟩ := ho.ints
  have c0 : w.cell? ⟨g, 0, none⟩ = some v := by rw [blk_cell hg]; rfl
  have HG := Lib.hid hg
  have HO := Lib.hid ho
  subst hv
  clear hg ho
  go_enter Tryd.func28, Tryd.ntmps28
  go_wp2_with ((at_builtin; refine wpList_app2 rfl _ _ rfl B _ _ rfl (HO.out.alloc _) _ 1 n rfl ?n1 ?n2 ?n3 ?_))
  case n1 => exact cell_new _ _ _ 0
  case n2 => omega
  case n3 => simp; omega
  intro v' w1 hown1 hgrow hblk
  have HO1 := Lib.hid hown1
  have hnb : some g ≠ (Value.slice A0 zs.length c0').ownBlock := fun e => by have := own_block HO.out g e.symm; omega
  have hgs := lt_of_block HG.out
  have hg1 : w1.heap[g]? = some (.cells #[.slice A0 zs.length c0'] 26 (0, 0)) := by
    rw [hgrow.block g (by simp; omega) hnb]; exact blk_more HG.out _
  have HBut := Lib.hid (show But (fun k => k = g ∨ (Value.slice A0 zs.length c0').ownBlock = some k) w w1 from ⟨hgrow.os, hgrow.tape, hgrow.output, by have := hgrow.size; simp at this; omega, fun k hk hx => by
    rw [hgrow.block k (by simp; omega) (fun e => hx (.inr e.symm))]
    exact Below.heap_alloc _ _ k hk⟩)
  have HBL := Lib.hid hblk
  obtain ⟨A1, c1, hv, _⟩ := HO1.out.ints
  subst hv
  have hn1 : (Value.slice A1 (zs ++ [n]).length c1).ownBlock ≠ some g := fun e => by have := own_block HO1.out g e; omega
  clear hown1 hgrow hnb hblk
  have HG1 := Lib.hid hg1
  have d0 := blk_cell hg1 0
  have fz := blk_free hg1 0
  have d1 : (w1.setCell ⟨g, 0, none⟩ (.slice A1 (zs ++ [n]).length c1)).cell? ⟨g, 0, none⟩ = some (.slice A1 (zs ++ [n]).length c1) := by rw [blk_cell (blk_put hg1 0 _)]; rfl
  have hlen : (zs ++ [n]).length = zs.length + 1 := by simp
  rw [hlen] at d1 hn1
  have HN1 := Lib.hid hn1
  have HO2 := Lib.hid (show OwnI w1 B (.slice A1 (zs.length + 1) c1) (zs ++ [n]) by rw [← hlen]; exact HO1.out)
  rw [hlen] at HBL
  have i1 : ((zs.length : Nat) : Int) + 1 < 500 := by omega
  clear hg1 hlen hn1
  go_wp2
  go_ret
  refine ⟨rfl, ⟨_, blk_put HG1.out 0 _, World.ownsRow.kept HO2.out (grownBy_setCell' w1 g _) (.inr HN1.out), HBut.out.setCell (.inr (.inl rfl)) _, ?_⟩⟩
  rcases HBL.out with e | e
  · exact .inl e
  · exact .inr ⟨_, e, by first | omega | simp⟩
end Go.Proofs.YtjpdfbljhbgbcaaDoor
