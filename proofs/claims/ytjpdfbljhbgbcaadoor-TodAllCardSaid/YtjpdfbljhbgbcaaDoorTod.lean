/- Contracts of tod.below, Of, Parts, In, join, first, held and Next at the chapter's example, and of the document's In (layer 7). -/
import Derived.Test.YtjpdfbljhbgbcaaDoorMaskC
namespace Go.Proofs.YtjpdfbljhbgbcaaDoor
open Go.RowKit
set_option linter.unusedVariables false

def IsTod (h m s : Int) : Prop := 0 ≤ h ∧ h < 24 ∧ 0 ≤ m ∧ m < 60 ∧ 0 ≤ s ∧ s < 60
theorem below_yes (n k : Int) (w : World) (h1 : 0 ≤ n) (h2 : n < k) : Calls Tryd.prog 59 #[.int .i64 n, .int .i64 k] w fun e w' => e = .returned (.bool true) ∧ w = w' := by
  go_enter Tryd.func59, Tryd.ntmps59
  go_wp2
  go_ret
  exact ⟨rfl, rfl⟩
theorem below_no (n k : Int) (w : World) (h : n < 0 ∨ k ≤ n) : Calls Tryd.prog 59 #[.int .i64 n, .int .i64 k] w fun e w' => e = .returned (.bool false) ∧ w = w' := by
  by_cases h1 : 0 ≤ n
  · have n1 := dec_n (show ¬ n < k by omega)
    clear h
    go_enter Tryd.func59, Tryd.ntmps59
    go_wp2
    go_ret
    exact ⟨rfl, rfl⟩
  · have n1 := dec_n h1
    clear h h1
    go_enter Tryd.func59, Tryd.ntmps59
    go_wp2
    go_ret
    exact ⟨rfl, rfl⟩
theorem tparts_yes (s : Int) (w : World) (h1 : 0 ≤ s) (h2 : s < 86400) : Calls Tryd.prog 60 #[.int .i64 s] w fun e w' => e = .returned (.tuple #[.int .i64 (s / 3600), .int .i64 (s / 60 % 60), .int .i64 (s % 60), .bool true]) ∧ w = w' := by
  go_enter Tryd.func60, Tryd.ntmps60
  go_wp2_with (go_at_call 59; refine (below_yes _ _ _ h1 h2).mono ?_; rintro e w' ⟨rfl, rfl⟩)
  exact bodyPost_ret (v := .tuple #[.int .i64 (s / 3600), .int .i64 (s / 60 % 60), .int .i64 (s % 60), .bool true]) (by simp [results, Tryd.results60, go_sem]) rfl ⟨rfl, rfl⟩
theorem tparts_no (s : Int) (w : World) (h : s < 0 ∨ 86400 ≤ s) : Calls Tryd.prog 60 #[.int .i64 s] w fun e w' => e = .returned (.tuple #[.int .i64 0, .int .i64 0, .int .i64 0, .bool false]) ∧ w = w' := by
  have k := fun w => below_no s 86400 w h
  clear h
  go_enter Tryd.func60, Tryd.ntmps60
  go_wp2_with (go_at_call 59; refine (k _).mono ?_; rintro e w' ⟨rfl, rfl⟩)
  exact bodyPost_ret (v := .tuple #[.int .i64 0, .int .i64 0, .int .i64 0, .bool false]) (by simp [results, Tryd.results60, go_sem]) rfl ⟨rfl, rfl⟩
theorem tjoin_any (h m s : Int) (w : World) (i : IsTod h m s) : Calls Tryd.prog 37 #[.int .i64 h, .int .i64 m, .int .i64 s] w fun e w' => e = .returned (.int .i64 (3600 * h + 60 * m + s)) ∧ w = w' := by
  obtain ⟨h1, h2, h3, h4, h5, h6⟩ := i
  go_enter Tryd.func37, Tryd.ntmps37
  go_wp2
  go_ret
  exact ⟨rfl, rfl⟩
theorem tod_yes (h m s : Int) (w : World) (i : IsTod h m s) : Calls Tryd.prog 38 #[.int .i64 h, .int .i64 m, .int .i64 s] w fun e w' => e = .returned (.tuple #[.int .i64 (3600 * h + 60 * m + s), .bool true]) ∧ w = w' := by
  have k0 := fun w => tjoin_any h m s w i
  obtain ⟨h1, h2, h3, h4, h5, h6⟩ := i
  have k1 := fun w => below_yes h 24 w h1 h2
  have k2 := fun w => below_yes m 60 w h3 h4
  have k3 := fun w => below_yes s 60 w h5 h6
  go_enter Tryd.func38, Tryd.ntmps38
  go_wp2_with fail
  refine (k1 _).mono ?_
  rintro e w1 ⟨rfl, rfl⟩
  go_wp2_with fail
  refine (k2 _).mono ?_
  rintro e w1 ⟨rfl, rfl⟩
  go_wp2_with fail
  refine (k3 _).mono ?_
  rintro e w1 ⟨rfl, rfl⟩
  go_wp2_with fail
  refine (k0 _).mono ?_
  rintro e w1 ⟨rfl, rfl⟩
  go_wp2
  go_ret2
  exact ⟨rfl, rfl⟩
theorem tod_no (h m s : Int) (w : World) (i : ¬ IsTod h m s) : Calls Tryd.prog 38 #[.int .i64 h, .int .i64 m, .int .i64 s] w fun e w' => e = .returned (.tuple #[.int .i64 0, .bool false]) ∧ w = w' := by
  unfold IsTod at i
  by_cases c1 : 0 ≤ h ∧ h < 24
  · have k1 := fun w => below_yes h 24 w c1.1 c1.2
    by_cases c2 : 0 ≤ m ∧ m < 60
    · have k2 := fun w => below_yes m 60 w c2.1 c2.2
      have k3 := fun w => below_no s 60 w (by omega)
      clear i c1 c2
      go_enter Tryd.func38, Tryd.ntmps38
      go_wp2_with fail
      refine (k1 _).mono ?_
      rintro e w1 ⟨rfl, rfl⟩
      go_wp2_with fail
      refine (k2 _).mono ?_
      rintro e w1 ⟨rfl, rfl⟩
      go_wp2_with fail
      refine (k3 _).mono ?_
      rintro e w1 ⟨rfl, rfl⟩
      go_wp2
      go_ret2
      exact ⟨rfl, rfl⟩
    · have k2 := fun w => below_no m 60 w (by omega)
      clear i c1 c2
      go_enter Tryd.func38, Tryd.ntmps38
      go_wp2_with fail
      refine (k1 _).mono ?_
      rintro e w1 ⟨rfl, rfl⟩
      go_wp2_with fail
      refine (k2 _).mono ?_
      rintro e w1 ⟨rfl, rfl⟩
      go_wp2
      go_ret2
      exact ⟨rfl, rfl⟩
  · have k1 := fun w => below_no h 24 w (by omega)
    clear i c1
    go_enter Tryd.func38, Tryd.ntmps38
    go_wp2_with fail
    refine (k1 _).mono ?_
    rintro e w1 ⟨rfl, rfl⟩
    go_wp2
    go_ret2
    exact ⟨rfl, rfl⟩
/-- is a second one of masks? -/
def inT (s : Int) (H M S : Nat) : Bool := decide (0 ≤ s ∧ s < 86400) && (inM H (s / 3600) && (inM M (s / 60 % 60) && inM S (s % 60)))
theorem inT_out (s : Int) (H M S : Nat) (h : s < 0 ∨ 86400 ≤ s) : inT s H M S = false := by unfold inT; rw [dec_n (by omega)]; rfl
theorem inT_in (s : Int) (H M S : Nat) (h1 : 0 ≤ s) (h2 : s < 86400) : inT s H M S = (inM H (s / 3600) && (inM M (s / 60 % 60) && inM S (s % 60))) := by unfold inT; rw [dec_t ⟨h1, h2⟩]; rfl
/- the chapter's example: 3724 is 1:02:04; the next one of 1:02 with second 0 or 30 -/
theorem held_ex (w : World) : Calls Tryd.prog 34 #[.int .u64 2, .int .u64 4, .int .u64 1073741825] w fun e w' => e = .returned (.tuple #[.int .u64 2, .int .u64 4, .int .u64 1073741825, .bool true]) ∧ w = w' := by
  have b1 : bits BinOp.and IntKind.u64 2 16777215 = 2 := by decide
  have b2 : bits BinOp.and IntKind.u64 4 1152921504606846975 = 4 := by decide
  have b3 : bits BinOp.and IntKind.u64 1073741825 1152921504606846975 = 1073741825 := by decide
  go_enter Tryd.func34, Tryd.ntmps34
  go_wp2
  exact bodyPost_ret (v := .tuple #[.int .u64 2, .int .u64 4, .int .u64 1073741825, .bool true]) (by simp [results, Tryd.results34, go_sem]) rfl ⟨rfl, rfl⟩
theorem hasex1 (w : World) : Calls Tryd.prog 61 #[.int .u64 2, .int .i64 1] w fun e w' => e = .returned (.bool true) ∧ w = w' := by
  have := has_any 2 1 w (by decide)
  rwa [show inM 2 1 = true by decide] at this
theorem hasex2 (w : World) : Calls Tryd.prog 61 #[.int .u64 4, .int .i64 2] w fun e w' => e = .returned (.bool true) ∧ w = w' := by
  have := has_any 4 2 w (by decide)
  rwa [show inM 4 2 = true by decide] at this
theorem nextex (w : World) (hT : Tab w) : Calls Tryd.prog 63 #[.int .u64 1073741825, .int .i64 3] w fun e w' => e = .returned (.tuple #[.int .i64 30, .bool true]) ∧ w = w' := by
  have := next_any 1073741825 3 w (by decide) ⟨by omega, by omega⟩ hT
  have e : above 1073741825 3 = 1073741824 := by unfold above; rw [mk_bv]; decide
  rw [e, show leastV 1073741824 = .tuple #[.int .i64 30, .bool true] by unfold leastV; rw [if_neg (by decide)]; rfl] at this
  exact this
set_option maxRecDepth 20000 in
theorem tnext_ex (w : World) (hT : Tab w) : Calls Tryd.prog 39 #[.int .i64 3724, .int .u64 2, .int .u64 4, .int .u64 1073741825] w fun e w' => e = .returned (.tuple #[.int .i64 3750, .bool true]) ∧ w = w' := by
  have k1 := held_ex w
  have k2 : Calls Tryd.prog 60 #[.int .i64 3724] w fun e w' => e = .returned (.tuple #[.int .i64 1, .int .i64 2, .int .i64 4, .bool true]) ∧ w = w' := tparts_yes 3724 w (by omega) (by omega)
  have k3 := hasex1 w
  have k4 := hasex2 w
  have k5 := nextex w hT
  have k6 : Calls Tryd.prog 37 #[.int .i64 1, .int .i64 2, .int .i64 30] w fun e w' => e = .returned (.int .i64 3750) ∧ w = w' := tjoin_any 1 2 30 w ⟨by omega, by omega, by omega, by omega, by omega, by omega⟩
  clear hT
  go_enter Tryd.func39, Tryd.ntmps39
  go_wp2_with fail
  refine k1.mono ?_
  rintro e w1 ⟨rfl, rfl⟩
  go_wp2_with fail
  refine k2.mono ?_
  rintro e w1 ⟨rfl, rfl⟩
  go_wp2_with fail
  refine k3.mono ?_
  rintro e w1 ⟨rfl, rfl⟩
  go_wp2_with fail
  refine k4.mono ?_
  rintro e w1 ⟨rfl, rfl⟩
  go_wp2_with fail
  refine k5.mono ?_
  rintro e w1 ⟨rfl, rfl⟩
  go_wp2_with fail
  refine k6.mono ?_
  rintro e w1 ⟨rfl, rfl⟩
  go_wp2
  go_ret2
  exact ⟨rfl, rfl⟩
theorem lives07_any (w : World) (hT : Tab w) : Calls Tryd.prog 12 #[] w fun e w' => e = .returned (.bool true) ∧ w = w' := by
  have k1 : Calls Tryd.prog 38 #[.int .i64 1, .int .i64 2, .int .i64 3] w fun e w' => e = .returned (.tuple #[.int .i64 3723, .bool true]) ∧ w = w' := tod_yes 1 2 3 w ⟨by omega, by omega, by omega, by omega, by omega, by omega⟩
  have k2 := tnext_ex w hT
  clear hT
  go_enter Tryd.func12, Tryd.ntmps12
  go_wp2_with fail
  refine k1.mono ?_
  rintro e w1 ⟨rfl, rfl⟩
  go_wp2_with fail
  refine k2.mono ?_
  rintro e w1 ⟨rfl, rfl⟩
  go_wp2
  go_ret
  exact ⟨rfl, rfl⟩
end Go.Proofs.YtjpdfbljhbgbcaaDoor
