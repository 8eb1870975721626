/- Contracts of the functions of package span (layer 9), of moment's In and Split (layer 8), and of the document's answers for spans. -/
import Derived.Test.YtbfndcogieiejaaDoorWeek
import Derived.Deep.RegionHeld3
namespace Go.Proofs.YtbfndcogieiejaaDoor
open Go.RowKit

theorem below_a1 (w : World) (o1 : Obj) : Below w.heap.size w (w.alloc o1) := (Below.refl _ _).alloc (Nat.le_refl _) o1
theorem below_a2 (w : World) (o1 o2 : Obj) : Below w.heap.size w ((w.alloc o1).alloc o2) := (below_a1 w o1).alloc (by simp) o2
theorem below_a3 (w : World) (o1 o2 o3 : Obj) : Below w.heap.size w (((w.alloc o1).alloc o2).alloc o3) := (below_a2 w o1 o2).alloc (by simp; omega) o3
theorem below_cut {w w1 w2 : World} (h : Below w.heap.size w w1) (h2 : Below w1.heap.size w1 w2) : Below w.heap.size w w2 := h.trans (h2.mono h.size)

theorem min_yes (t : Int) (w : World) (h1 : 0 ≤ t) (h2 : t < 12622780800) : Calls Tryd.prog 26 #[.int .i64 t] w fun e w' => e = .returned (.bool true) ∧ w = w' := by
  go_enter Tryd.func26, Tryd.ntmps26
  go_wp2
  go_ret
  exact ⟨rfl, rfl⟩
theorem min_no (t : Int) (w : World) (h : t < 0 ∨ 12622780800 ≤ t) : Calls Tryd.prog 26 #[.int .i64 t] w fun e w' => e = .returned (.bool false) ∧ w = w' := by
  by_cases h1 : t < 0
  · have hd := dec_f (show ¬ 0 ≤ t by omega)
    clear h
    go_enter Tryd.func26, Tryd.ntmps26
    go_wp2
    go_ret
    exact ⟨rfl, rfl⟩
  · have hd := dec_f (show ¬ t < 12622780800 by omega)
    have h2 : 0 ≤ t := by omega
    clear h h1
    go_enter Tryd.func26, Tryd.ntmps26
    go_wp2
    go_ret
    exact ⟨rfl, rfl⟩
theorem split_yes (t : Int) (w : World) (h1 : 0 ≤ t) (h2 : t < 12622780800) : Calls Tryd.prog 34 #[.int .i64 t] w fun e w' => e = .returned (.tuple #[.int .i64 (t / 86400), .int .i64 (t % 86400), .bool true]) ∧ w = w' := by
  go_enter Tryd.func34, Tryd.ntmps34
  go_wp2_with (go_at_call 26; refine (min_yes _ _ h1 h2).mono ?_; rintro e w' ⟨rfl, rfl⟩)
  go_ret3
  exact ⟨rfl, rfl⟩
theorem split_no (t : Int) (w : World) (h : t < 0 ∨ 12622780800 ≤ t) : Calls Tryd.prog 34 #[.int .i64 t] w fun e w' => e = .returned (.tuple #[.int .i64 0, .int .i64 0, .bool false]) ∧ w = w' := by
  go_enter Tryd.func34, Tryd.ntmps34
  go_wp2_with (go_at_call 26; refine (min_no _ _ h).mono ?_; rintro e w' ⟨rfl, rfl⟩)
  go_ret3
  exact ⟨rfl, rfl⟩

/-- a span held within the window -/
def hF (f : Int) : Int := if f < 0 then 0 else f
def hU (u : Int) : Int := if 12622780799 < u then 12622780799 else u
def heldV (f u : Int) : Value := if hU u < hF f then .agg #[.int .i64 0, .int .i64 (-1)] else .agg #[.int .i64 (hF f), .int .i64 (hU u)]
theorem none_any (w : World) : Calls Tryd.prog 60 #[] w fun e w' => e = .returned (.agg #[.int .i64 0, .int .i64 (-1)]) ∧ w.alloc (.cells #[.int .i64 0, .int .i64 (-1)] 32) = w' := by
  go_enter Tryd.func60, Tryd.ntmps60
  go_wp2
  exact bodyPost_ret (v := .agg #[.int .i64 0, .int .i64 (-1)]) (by simp [results, Tryd.results60, go_sem]) rfl ⟨rfl, rfl⟩
theorem below_a4 (w : World) (o1 o2 o3 o4 : Obj) : Below w.heap.size w ((((w.alloc o1).alloc o2).alloc o3).alloc o4) := (below_a3 w o1 o2 o3).alloc (by simp; omega) o4
theorem rheld_any (f u : Int) (w : World) : Calls Tryd.prog 11 #[.agg #[.int .i64 f, .int .i64 u]] w fun e w' => e = .returned (heldV f u) ∧ Below w.heap.size w w' := by
  by_cases h1 : f < 0
  · by_cases h2 : 12622780799 < u
    · have e1 : hF f = 0 := by unfold hF; rw [if_pos h1]
      have e2 : hU u = 12622780799 := by unfold hU; rw [if_pos h2]
      have HV := Lib.hid (show heldV f u = .agg #[.int .i64 (0), .int .i64 (12622780799)] by unfold heldV; rw [e1, e2]; rfl)
      clear e1 e2
      go_enter Tryd.func11, Tryd.ntmps11
      go_wp2
      exact bodyPost_ret (v := .agg #[.int .i64 (0), .int .i64 (12622780799)]) (by simp [results, Tryd.results11, go_sem]) rfl ⟨ret_val HV.out.symm, below_a2 _ _ _⟩
    · have e1 : hF f = 0 := by unfold hF; rw [if_pos h1]
      have e2 : hU u = u := by unfold hU; rw [if_neg h2]
      by_cases h3 : u < 0
      · have HV := Lib.hid (show heldV f u = .agg #[.int .i64 0, .int .i64 (-1)] by unfold heldV; rw [e1, e2, if_pos h3])
        clear e1 e2
        go_enter Tryd.func11, Tryd.ntmps11
        go_wp2
        exact bodyPost_ret (v := .agg #[.int .i64 0, .int .i64 (-1)]) (by simp [results, Tryd.results11, go_sem]) rfl ⟨ret_val HV.out.symm, below_a2 _ _ _⟩
      · have HV := Lib.hid (show heldV f u = .agg #[.int .i64 (0), .int .i64 (u)] by unfold heldV; rw [e1, e2]; rw [if_neg h3])
        clear e1 e2
        go_enter Tryd.func11, Tryd.ntmps11
        go_wp2
        exact bodyPost_ret (v := .agg #[.int .i64 (0), .int .i64 (u)]) (by simp [results, Tryd.results11, go_sem]) rfl ⟨ret_val HV.out.symm, below_a2 _ _ _⟩
  · by_cases h2 : 12622780799 < u
    · have e1 : hF f = f := by unfold hF; rw [if_neg h1]
      have e2 : hU u = 12622780799 := by unfold hU; rw [if_pos h2]
      by_cases h3 : 12622780799 < f
      · have HV := Lib.hid (show heldV f u = .agg #[.int .i64 0, .int .i64 (-1)] by unfold heldV; rw [e1, e2, if_pos h3])
        clear e1 e2
        go_enter Tryd.func11, Tryd.ntmps11
        go_wp2
        exact bodyPost_ret (v := .agg #[.int .i64 0, .int .i64 (-1)]) (by simp [results, Tryd.results11, go_sem]) rfl ⟨ret_val HV.out.symm, below_a2 _ _ _⟩
      · have HV := Lib.hid (show heldV f u = .agg #[.int .i64 (f), .int .i64 (12622780799)] by unfold heldV; rw [e1, e2]; rw [if_neg h3])
        clear e1 e2
        go_enter Tryd.func11, Tryd.ntmps11
        go_wp2
        exact bodyPost_ret (v := .agg #[.int .i64 (f), .int .i64 (12622780799)]) (by simp [results, Tryd.results11, go_sem]) rfl ⟨ret_val HV.out.symm, below_a2 _ _ _⟩
    · have e1 : hF f = f := by unfold hF; rw [if_neg h1]
      have e2 : hU u = u := by unfold hU; rw [if_neg h2]
      by_cases h3 : u < f
      · have HV := Lib.hid (show heldV f u = .agg #[.int .i64 0, .int .i64 (-1)] by unfold heldV; rw [e1, e2, if_pos h3])
        clear e1 e2
        go_enter Tryd.func11, Tryd.ntmps11
        go_wp2
        exact bodyPost_ret (v := .agg #[.int .i64 0, .int .i64 (-1)]) (by simp [results, Tryd.results11, go_sem]) rfl ⟨ret_val HV.out.symm, below_a2 _ _ _⟩
      · have HV := Lib.hid (show heldV f u = .agg #[.int .i64 (f), .int .i64 (u)] by unfold heldV; rw [e1, e2]; rw [if_neg h3])
        clear e1 e2
        go_enter Tryd.func11, Tryd.ntmps11
        go_wp2
        exact bodyPost_ret (v := .agg #[.int .i64 (f), .int .i64 (u)]) (by simp [results, Tryd.results11, go_sem]) rfl ⟨ret_val HV.out.symm, below_a2 _ _ _⟩
theorem sheld_any (f u : Int) (w : World) : Calls Tryd.prog 33 #[.agg #[.int .i64 f, .int .i64 u]] w fun e w' => e = .returned (heldV f u) ∧ Below w.heap.size w w' := by
  by_cases h1 : f < 0
  · by_cases h2 : 12622780799 < u
    · have e1 : hF f = 0 := by unfold hF; rw [if_pos h1]
      have e2 : hU u = 12622780799 := by unfold hU; rw [if_pos h2]
      have HV := Lib.hid (show heldV f u = .agg #[.int .i64 (0), .int .i64 (12622780799)] by unfold heldV; rw [e1, e2]; rfl)
      clear e1 e2
      go_enter Tryd.func33, Tryd.ntmps33
      go_wp2
      exact bodyPost_ret (v := .agg #[.int .i64 (0), .int .i64 (12622780799)]) (by simp [results, Tryd.results33, go_sem]) rfl ⟨ret_val HV.out.symm, below_a3 _ _ _ _⟩
    · have e1 : hF f = 0 := by unfold hF; rw [if_pos h1]
      have e2 : hU u = u := by unfold hU; rw [if_neg h2]
      by_cases h3 : u < 0
      · have HV := Lib.hid (show heldV f u = .agg #[.int .i64 0, .int .i64 (-1)] by unfold heldV; rw [e1, e2, if_pos h3])
        clear e1 e2
        go_enter Tryd.func33, Tryd.ntmps33
        go_wp2_with (go_at_call 60; refine (none_any _).mono ?_; rintro e w' ⟨rfl, rfl⟩)
        exact bodyPost_ret (v := .agg #[.int .i64 0, .int .i64 (-1)]) (by simp [results, Tryd.results33, go_sem]) rfl ⟨ret_val HV.out.symm, below_a4 _ _ _ _ _⟩
      · have HV := Lib.hid (show heldV f u = .agg #[.int .i64 (0), .int .i64 (u)] by unfold heldV; rw [e1, e2]; rw [if_neg h3])
        clear e1 e2
        go_enter Tryd.func33, Tryd.ntmps33
        go_wp2
        exact bodyPost_ret (v := .agg #[.int .i64 (0), .int .i64 (u)]) (by simp [results, Tryd.results33, go_sem]) rfl ⟨ret_val HV.out.symm, below_a3 _ _ _ _⟩
  · by_cases h2 : 12622780799 < u
    · have e1 : hF f = f := by unfold hF; rw [if_neg h1]
      have e2 : hU u = 12622780799 := by unfold hU; rw [if_pos h2]
      by_cases h3 : 12622780799 < f
      · have HV := Lib.hid (show heldV f u = .agg #[.int .i64 0, .int .i64 (-1)] by unfold heldV; rw [e1, e2, if_pos h3])
        clear e1 e2
        go_enter Tryd.func33, Tryd.ntmps33
        go_wp2_with (go_at_call 60; refine (none_any _).mono ?_; rintro e w' ⟨rfl, rfl⟩)
        exact bodyPost_ret (v := .agg #[.int .i64 0, .int .i64 (-1)]) (by simp [results, Tryd.results33, go_sem]) rfl ⟨ret_val HV.out.symm, below_a4 _ _ _ _ _⟩
      · have HV := Lib.hid (show heldV f u = .agg #[.int .i64 (f), .int .i64 (12622780799)] by unfold heldV; rw [e1, e2]; rw [if_neg h3])
        clear e1 e2
        go_enter Tryd.func33, Tryd.ntmps33
        go_wp2
        exact bodyPost_ret (v := .agg #[.int .i64 (f), .int .i64 (12622780799)]) (by simp [results, Tryd.results33, go_sem]) rfl ⟨ret_val HV.out.symm, below_a3 _ _ _ _⟩
    · have e1 : hF f = f := by unfold hF; rw [if_neg h1]
      have e2 : hU u = u := by unfold hU; rw [if_neg h2]
      by_cases h3 : u < f
      · have HV := Lib.hid (show heldV f u = .agg #[.int .i64 0, .int .i64 (-1)] by unfold heldV; rw [e1, e2, if_pos h3])
        clear e1 e2
        go_enter Tryd.func33, Tryd.ntmps33
        go_wp2_with (go_at_call 60; refine (none_any _).mono ?_; rintro e w' ⟨rfl, rfl⟩)
        exact bodyPost_ret (v := .agg #[.int .i64 0, .int .i64 (-1)]) (by simp [results, Tryd.results33, go_sem]) rfl ⟨ret_val HV.out.symm, below_a4 _ _ _ _ _⟩
      · have HV := Lib.hid (show heldV f u = .agg #[.int .i64 (f), .int .i64 (u)] by unfold heldV; rw [e1, e2]; rw [if_neg h3])
        clear e1 e2
        go_enter Tryd.func33, Tryd.ntmps33
        go_wp2
        exact bodyPost_ret (v := .agg #[.int .i64 (f), .int .i64 (u)]) (by simp [results, Tryd.results33, go_sem]) rfl ⟨ret_val HV.out.symm, below_a3 _ _ _ _⟩
end Go.Proofs.YtbfndcogieiejaaDoor
