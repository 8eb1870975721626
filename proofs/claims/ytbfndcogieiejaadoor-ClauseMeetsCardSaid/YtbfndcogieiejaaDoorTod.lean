/- Contracts of tod.below, Of, Parts, In, join, first, held and Next at the chapter's example, and of the document's In (layer 7). -/
import Derived.Test.YtbfndcogieiejaaDoorMask5
namespace Go.Proofs.YtbfndcogieiejaaDoor
open Go.RowKit
set_option linter.unusedVariables false

def IsTod (h m s : Int) : Prop := 0 ≤ h ∧ h < 24 ∧ 0 ≤ m ∧ m < 60 ∧ 0 ≤ s ∧ s < 60
theorem below_yes (n k : Int) (w : World) (h1 : 0 ≤ n) (h2 : n < k) : Calls Tryd.prog 77 #[.int .i64 n, .int .i64 k] w fun e w' => e = .returned (.bool true) ∧ w = w' := by
  go_enter Tryd.func77, Tryd.ntmps77
  go_wp2
  go_ret
  exact ⟨rfl, rfl⟩
theorem below_no (n k : Int) (w : World) (h : n < 0 ∨ k ≤ n) : Calls Tryd.prog 77 #[.int .i64 n, .int .i64 k] w fun e w' => e = .returned (.bool false) ∧ w = w' := by
  by_cases h1 : 0 ≤ n
  · have n1 := dec_n (show ¬ n < k by omega)
    clear h
    go_enter Tryd.func77, Tryd.ntmps77
    go_wp2
    go_ret
    exact ⟨rfl, rfl⟩
  · have n1 := dec_n h1
    clear h h1
    go_enter Tryd.func77, Tryd.ntmps77
    go_wp2
    go_ret
    exact ⟨rfl, rfl⟩
theorem tparts_yes (s : Int) (w : World) (h1 : 0 ≤ s) (h2 : s < 86400) : Calls Tryd.prog 61 #[.int .i64 s] w fun e w' => e = .returned (.tuple #[.int .i64 (s / 3600), .int .i64 (s / 60 % 60), .int .i64 (s % 60), .bool true]) ∧ w = w' := by
  go_enter Tryd.func61, Tryd.ntmps61
  go_wp2_with (go_at_call 77; refine (below_yes _ _ _ h1 h2).mono ?_; rintro e w' ⟨rfl, rfl⟩)
  exact bodyPost_ret (v := .tuple #[.int .i64 (s / 3600), .int .i64 (s / 60 % 60), .int .i64 (s % 60), .bool true]) (by simp [results, Tryd.results61, go_sem]) rfl ⟨rfl, rfl⟩
theorem tparts_no (s : Int) (w : World) (h : s < 0 ∨ 86400 ≤ s) : Calls Tryd.prog 61 #[.int .i64 s] w fun e w' => e = .returned (.tuple #[.int .i64 0, .int .i64 0, .int .i64 0, .bool false]) ∧ w = w' := by
  have k := fun w => below_no s 86400 w h
  clear h
  go_enter Tryd.func61, Tryd.ntmps61
  go_wp2_with (go_at_call 77; refine (k _).mono ?_; rintro e w' ⟨rfl, rfl⟩)
  exact bodyPost_ret (v := .tuple #[.int .i64 0, .int .i64 0, .int .i64 0, .bool false]) (by simp [results, Tryd.results61, go_sem]) rfl ⟨rfl, rfl⟩
/-- is a second one of masks? -/
def inT (s : Int) (H M S : Nat) : Bool := decide (0 ≤ s ∧ s < 86400) && (inM H (s / 3600) && (inM M (s / 60 % 60) && inM S (s % 60)))
theorem inT_out (s : Int) (H M S : Nat) (h : s < 0 ∨ 86400 ≤ s) : inT s H M S = false := by unfold inT; rw [dec_n (by omega)]; rfl
theorem inT_in (s : Int) (H M S : Nat) (h1 : 0 ≤ s) (h2 : s < 86400) : inT s H M S = (inM H (s / 3600) && (inM M (s / 60 % 60) && inM S (s % 60))) := by unfold inT; rw [dec_t ⟨h1, h2⟩]; rfl
theorem tin_any (s : Int) (H M S : Nat) (w : World) (hH : H < 18446744073709551616) (hM : M < 18446744073709551616) (hS : S < 18446744073709551616) :
    Calls Tryd.prog 35 #[.int .i64 s, .int .u64 H, .int .u64 M, .int .u64 S] w fun e w' => e = .returned (.bool (inT s H M S)) ∧ w = w' := by
  by_cases h : 0 ≤ s ∧ s < 86400
  · obtain ⟨h1, h2⟩ := h
    rw [inT_in s H M S h1 h2]
    have k0 := fun w => tparts_yes s w h1 h2
    have k1 := fun w => has_any H (s / 3600) w hH
    have k2 := fun w => has_any M (s / 60 % 60) w hM
    have k3 := fun w => has_any S (s % 60) w hS
    generalize inM H (s / 3600) = b1 at k1 ⊢
    generalize inM M (s / 60 % 60) = b2 at k2 ⊢
    generalize inM S (s % 60) = b3 at k3 ⊢
    clear hH hM hS h1 h2
    cases b1
    · go_enter Tryd.func35, Tryd.ntmps35
      go_wp2_with fail
      refine (k0 _).mono ?_
      rintro e w1 ⟨rfl, rfl⟩
      go_wp2_with fail
      refine (k1 _).mono ?_
      rintro e w1 ⟨rfl, rfl⟩
      go_wp2
      go_ret
      exact ⟨rfl, rfl⟩
    · cases b2
      · go_enter Tryd.func35, Tryd.ntmps35
        go_wp2_with fail
        refine (k0 _).mono ?_
        rintro e w1 ⟨rfl, rfl⟩
        go_wp2_with fail
        refine (k1 _).mono ?_
        rintro e w1 ⟨rfl, rfl⟩
        go_wp2_with fail
        refine (k2 _).mono ?_
        rintro e w1 ⟨rfl, rfl⟩
        go_wp2
        go_ret
        exact ⟨rfl, rfl⟩
      · go_enter Tryd.func35, Tryd.ntmps35
        go_wp2_with fail
        refine (k0 _).mono ?_
        rintro e w1 ⟨rfl, rfl⟩
        go_wp2_with fail
        refine (k1 _).mono ?_
        rintro e w1 ⟨rfl, rfl⟩
        go_wp2_with fail
        refine (k2 _).mono ?_
        rintro e w1 ⟨rfl, rfl⟩
        go_wp2_with fail
        refine (k3 _).mono ?_
        rintro e w1 ⟨rfl, rfl⟩
        go_wp2
        go_ret
        exact ⟨rfl, rfl⟩
  · rw [inT_out s H M S (by omega)]
    have k0 := fun w => tparts_no s w (by omega)
    clear h
    go_enter Tryd.func35, Tryd.ntmps35
    go_wp2_with fail
    refine (k0 _).mono ?_
    rintro e w1 ⟨rfl, rfl⟩
    go_wp2
    go_ret
    exact ⟨rfl, rfl⟩
/- the chapter's example: 3724 is 1:02:04; the next one of 1:02 with second 0 or 30 -/
theorem hasex1 (w : World) : Calls Tryd.prog 50 #[.int .u64 2, .int .i64 1] w fun e w' => e = .returned (.bool true) ∧ w = w' := by
  have := has_any 2 1 w (by decide)
  rwa [show inM 2 1 = true by decide] at this
theorem hasex2 (w : World) : Calls Tryd.prog 50 #[.int .u64 4, .int .i64 2] w fun e w' => e = .returned (.bool true) ∧ w = w' := by
  have := has_any 4 2 w (by decide)
  rwa [show inM 4 2 = true by decide] at this
end Go.Proofs.YtbfndcogieiejaaDoor
