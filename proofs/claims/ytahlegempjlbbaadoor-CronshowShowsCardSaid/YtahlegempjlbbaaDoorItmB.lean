/- Contract of the document's May of items (layer 12). -/
import Derived.Test.YtahlegempjlbbaaDoorItm
namespace Go.Proofs.YtahlegempjlbbaaDoor
open Go.RowKit
set_option linter.unusedVariables false

set_option maxHeartbeats 1600000 in
set_option maxRecDepth 20000 in
theorem rimay_any (q : Q4) (lo hi : Int) (w : World) : Calls Tryd.prog 16 #[qv q, .int .i64 lo, .int .i64 hi] w fun e w' => e = .returned (.bool (mayB lo hi q)) ∧ Below w.heap.size w w' := by
  obtain ⟨k, f, t, s⟩ := q
  unfold qv
  simp only []
  obtain ⟨W1, hW1⟩ : ∃ W1, w.alloc (.cells #[.int .i64 k, .int .i64 f, .int .i64 t, .int .i64 s] 36) = W1 := ⟨_, rfl⟩
  have HB := Lib.hid (show Below w.heap.size w W1 by rw [← hW1]; exact (Below.refl _ _).alloc (Nat.le_refl _) _)
  have g0 : W1.heap[w.heap.size]? = some (.cells #[.int .i64 k, .int .i64 f, .int .i64 t, .int .i64 s] 36 (0, 0)) := by rw [← hW1]; exact blk_new w _
  have c0 := blk_cell g0 0
  have c1 := blk_cell g0 1
  have c2 := blk_cell g0 2
  have c3 := blk_cell g0 3
  simp only [List.getElem?_toArray, List.getElem?_cons_zero, List.getElem?_cons_succ] at c0 c1 c2 c3
  clear g0
  by_cases hf : 0 ≤ lo ∧ lo ≤ hi ∧ hi ≤ 9999
  · obtain ⟨h1, h2, h3⟩ := hf
    have d1 : decide (lo < 0) = false := dec_n (by omega)
    have d2 : decide (hi < lo) = false := dec_n (by omega)
    have d3 : decide (9999 < hi) = false := dec_n (by omega)
    by_cases k0 : k = 0
    · subst k0
      go_enter Tryd.func16, Tryd.ntmps16
      go_wp2
      all_goals go_ret
      all_goals (refine ⟨ret_bool (dec_eq ?_), HB.out⟩; simp [mayP]; try omega)
    · have e0 : (k == 0) = false := by rw [beq_eq_false_iff_ne]; exact k0
      by_cases k1 : k = 1
      · subst k1
        go_enter Tryd.func16, Tryd.ntmps16
        go_wp2
        all_goals go_ret
        all_goals (refine ⟨ret_bool (dec_eq ?_), HB.out⟩; simp [mayP]; try omega)
      · have e1 : (k == 1) = false := by rw [beq_eq_false_iff_ne]; exact k1
        by_cases k2 : k = 2
        · subst k2
          go_enter Tryd.func16, Tryd.ntmps16
          go_wp2
          all_goals go_ret
          all_goals (refine ⟨ret_bool (dec_eq ?_), HB.out⟩; simp [mayP]; try omega)
        · have e2 : (k == 2) = false := by rw [beq_eq_false_iff_ne]; exact k2
          by_cases k3 : k = 3
          · subst k3
            go_enter Tryd.func16, Tryd.ntmps16
            go_wp2
            all_goals go_ret
            all_goals (refine ⟨ret_bool (dec_eq ?_), HB.out⟩; simp [mayP]; try omega)
          · have e3 : (k == 3) = false := by rw [beq_eq_false_iff_ne]; exact k3
            go_enter Tryd.func16, Tryd.ntmps16
            go_wp2
            all_goals go_ret
            all_goals (refine ⟨ret_bool (dec_eq ?_), HB.out⟩; simp [mayP]; try omega)
  · go_enter Tryd.func16, Tryd.ntmps16
    have hm : mayB lo hi (k, f, t, s) = false := decide_eq_false (fun h => hf h.1)
    rw [hm]
    by_cases h1 : lo < 0
    · have d1 := dec_t h1
      go_wp2
      go_ret
      exact ⟨rfl, HB.out⟩
    · have d1 := dec_n h1
      by_cases h2 : hi < lo
      · have d2 := dec_t h2
        go_wp2
        go_ret
        exact ⟨rfl, HB.out⟩
      · have d2 := dec_n h2
        have d3 : decide (9999 < hi) = true := dec_t (by omega)
        go_wp2
        go_ret
        exact ⟨rfl, HB.out⟩
end Go.Proofs.YtahlegempjlbbaaDoor
