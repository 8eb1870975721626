/- Contracts of item.field, item.May and of the document's May (layer 12). -/
import Derived.Test.YtahlegempjlbbaaDoorItm
namespace Go.Proofs.YtahlegempjlbbaaDoor
open Go.RowKit
set_option linter.unusedVariables false

theorem field_any (lo hi : Int) (w : World) : Calls Tryd.prog 41 #[.int .i64 lo, .int .i64 hi] w fun e w' => e = .returned (.bool (fieldB lo hi)) ∧ w = w' := by
  go_enter Tryd.func41, Tryd.ntmps41
  go_wp2
  all_goals go_ret
  all_goals (refine ⟨ret_bool (dec_eq ?_), rfl⟩; simp; try omega)
def inB (lo hi n : Int) : Bool := decide (lo ≤ n ∧ n ≤ hi)
theorem within_any (n lo hi : Int) (bl bh : Nat) (w : World) (cl : w.cell? ⟨bl, 0, none⟩ = some (.int .i64 lo)) (ch : w.cell? ⟨bh, 0, none⟩ = some (.int .i64 hi)) :
    Calls Tryd.prog 42 #[.int .i64 n, .pointer (some ⟨bl, 0, none⟩), .pointer (some ⟨bh, 0, none⟩)] w fun e w' => e = .returned (.bool (inB lo hi n)) ∧ w = w' := by
  go_enter Tryd.func42, Tryd.ntmps42
  go_wp2
  all_goals go_ret
  all_goals (refine ⟨ret_bool (dec_eq ?_), rfl⟩; simp; try omega)
set_option maxHeartbeats 1600000 in
set_option maxRecDepth 20000 in
theorem imay_any (q : Q4) (lo hi : Int) (w : World) : Calls Tryd.prog 33 #[qv q, .int .i64 lo, .int .i64 hi] w fun e w' => e = .returned (.bool (mayB lo hi q)) ∧ Below w.heap.size w w' := by
  obtain ⟨k, f, t, s⟩ := q
  unfold qv
  simp only []
  obtain ⟨W1, hW1⟩ : ∃ W1, ((w.alloc (.cells #[.int .i64 k, .int .i64 f, .int .i64 t, .int .i64 s] 36)).alloc (.cells #[.int .i64 lo] 3)).alloc (.cells #[.int .i64 hi] 3) = W1 := ⟨_, rfl⟩
  have HB := Lib.hid (show Below w.heap.size w W1 by rw [← hW1]; exact (((Below.refl _ _).alloc (Nat.le_refl _) _).alloc (by simp) _).alloc (by simp; omega) _)
  have g0 : W1.heap[w.heap.size]? = some (.cells #[.int .i64 k, .int .i64 f, .int .i64 t, .int .i64 s] 36 (0, 0)) := by rw [← hW1]; exact blk_more (blk_more (blk_new w _) _) _
  have g1 : W1.heap[w.heap.size + 1]? = some (.cells #[.int .i64 lo] 3 (0, 0)) := by
    rw [← hW1]
    have := blk_new (w.alloc (.cells #[.int .i64 k, .int .i64 f, .int .i64 t, .int .i64 s] 36)) (.cells #[.int .i64 lo] 3)
    rw [World.size_alloc] at this
    exact blk_more this _
  have g2 : W1.heap[w.heap.size + 1 + 1]? = some (.cells #[.int .i64 hi] 3 (0, 0)) := by
    rw [← hW1]
    have := blk_new ((w.alloc (.cells #[.int .i64 k, .int .i64 f, .int .i64 t, .int .i64 s] 36)).alloc (.cells #[.int .i64 lo] 3)) (.cells #[.int .i64 hi] 3)
    rwa [World.size_alloc, World.size_alloc] at this
  have c0 := blk_cell g0 0
  have c1 := blk_cell g0 1
  have c2 := blk_cell g0 2
  have c3 := blk_cell g0 3
  have cl : W1.cell? ⟨w.heap.size + 1, 0, none⟩ = some (.int .i64 lo) := blk_cell g1 0
  have ch : W1.cell? ⟨w.heap.size + 1 + 1, 0, none⟩ = some (.int .i64 hi) := blk_cell g2 0
  have KF := field_any lo hi W1
  have KT := fun n => within_any n lo hi (w.heap.size + 1) (w.heap.size + 1 + 1) W1 cl ch
  simp only [List.getElem?_toArray, List.getElem?_cons_zero, List.getElem?_cons_succ] at c0 c1 c2 c3
  clear g0 g1 g2
  go_enter Tryd.func33, Tryd.ntmps33
  go_wp2_with fail
  try rw [hW1]
  clear hW1
  refine KF.mono ?_
  rintro e w' ⟨rfl, rfl⟩
  by_cases hf : 0 ≤ lo ∧ lo ≤ hi ∧ hi ≤ 9999
  · rw [show fieldB lo hi = true from decide_eq_true hf]
    by_cases k0 : k = 0
    · subst k0
      go_wp2
      all_goals go_ret
      all_goals (refine ⟨ret_bool (dec_eq ?_), HB.out⟩; simp [mayP]; try omega)
    · have e0 : (k == 0) = false := by rw [beq_eq_false_iff_ne]; exact k0
      by_cases hff : lo ≤ f ∧ f ≤ hi
      · have KT1 := KT f
        rw [show inB lo hi f = true from decide_eq_true hff] at KT1
        by_cases k1 : k = 1
        · subst k1
          go_wp2_with fail
          all_goals (
            refine KT1.mono ?_
            rintro e w' ⟨rfl, rfl⟩
            go_wp2)
          all_goals go_ret
          all_goals (refine ⟨ret_bool (dec_eq ?_), HB.out⟩; simp [mayP]; try omega)
        · have e1 : (k == 1) = false := by rw [beq_eq_false_iff_ne]; exact k1
          by_cases k2 : k = 2
          · subst k2
            by_cases htt : lo ≤ t ∧ t ≤ hi
            · have KT2 := KT t
              rw [show inB lo hi t = true from decide_eq_true htt] at KT2
              go_wp2_with fail
              all_goals (
                refine KT1.mono ?_
                rintro e w' ⟨rfl, rfl⟩
                go_wp2_with fail
                refine KT2.mono ?_
                rintro e w' ⟨rfl, rfl⟩
                go_wp2)
              all_goals go_ret
              all_goals (refine ⟨ret_bool (dec_eq ?_), HB.out⟩; simp [mayP]; try omega)
            · have KT2 := KT t
              rw [show inB lo hi t = false from decide_eq_false htt] at KT2
              go_wp2_with fail
              all_goals (
                refine KT1.mono ?_
                rintro e w' ⟨rfl, rfl⟩
                go_wp2_with fail
                refine KT2.mono ?_
                rintro e w' ⟨rfl, rfl⟩
                go_wp2)
              all_goals go_ret
              all_goals (refine ⟨ret_bool (dec_eq ?_), HB.out⟩; simp [mayP]; try omega)
          · have e2 : (k == 2) = false := by rw [beq_eq_false_iff_ne]; exact k2
            by_cases k3 : k = 3
            · subst k3
              go_wp2_with fail
              all_goals (
                refine KT1.mono ?_
                rintro e w' ⟨rfl, rfl⟩
                go_wp2)
              all_goals go_ret
              all_goals (refine ⟨ret_bool (dec_eq ?_), HB.out⟩; simp [mayP]; try omega)
            · have e3 : (k == 3) = false := by rw [beq_eq_false_iff_ne]; exact k3
              go_wp2
              all_goals go_ret
              all_goals (refine ⟨ret_bool (dec_eq ?_), HB.out⟩; simp [mayP]; try omega)
      · have KT1 := KT f
        rw [show inB lo hi f = false from decide_eq_false hff] at KT1
        by_cases k1 : k = 1
        · subst k1
          go_wp2_with fail
          all_goals (
            refine KT1.mono ?_
            rintro e w' ⟨rfl, rfl⟩
            go_wp2)
          all_goals go_ret
          all_goals (refine ⟨ret_bool (dec_eq ?_), HB.out⟩; simp [mayP]; try omega)
        · have e1 : (k == 1) = false := by rw [beq_eq_false_iff_ne]; exact k1
          by_cases k2 : k = 2
          · subst k2
            go_wp2_with fail
            all_goals (
              refine KT1.mono ?_
              rintro e w' ⟨rfl, rfl⟩
              go_wp2)
            all_goals go_ret
            all_goals (refine ⟨ret_bool (dec_eq ?_), HB.out⟩; simp [mayP]; try omega)
          · have e2 : (k == 2) = false := by rw [beq_eq_false_iff_ne]; exact k2
            by_cases k3 : k = 3
            · subst k3
              go_wp2_with fail
              all_goals (
                refine KT1.mono ?_
                rintro e w' ⟨rfl, rfl⟩
                go_wp2)
              all_goals go_ret
              all_goals (refine ⟨ret_bool (dec_eq ?_), HB.out⟩; simp [mayP]; try omega)
            · have e3 : (k == 3) = false := by rw [beq_eq_false_iff_ne]; exact k3
              go_wp2
              all_goals go_ret
              all_goals (refine ⟨ret_bool (dec_eq ?_), HB.out⟩; simp [mayP]; try omega)
  · rw [show fieldB lo hi = false from decide_eq_false hf]
    go_wp2
    all_goals go_ret
    all_goals (refine ⟨ret_bool (dec_eq ?_), HB.out⟩; simp [mayP]; try omega)
end Go.Proofs.YtahlegempjlbbaaDoor
