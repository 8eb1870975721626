/- Which unit an instant lies in: the program's answer and the document's are one (layer 10). -/
import Derived.Test.YtbfndcogieiejaaDoorUnA
import Derived.Test.YtbfndcogieiejaaDoorWalk10
namespace Go.Proofs.YtbfndcogieiejaaDoor
open Go.RowKit Civ
set_option linter.unusedVariables false

theorem rumay_in (u : Int) (w : World) (h1 : 0 ≤ u) (h2 : u < 7) : Calls Tryd.prog 31 #[.int .i64 u] w fun e w' => e = .returned (.bool true) ∧ w = w' := by
  have d1 : decide (0 ≤ u) = true := dec_t h1
  have d2 : decide (u ≤ 6) = true := dec_t (by omega)
  go_enter Tryd.func31, Tryd.ntmps31
  go_wp2
  go_ret
  exact ⟨rfl, rfl⟩
theorem rumay_out (u : Int) (w : World) (h : u < 0 ∨ 7 ≤ u) : Calls Tryd.prog 31 #[.int .i64 u] w fun e w' => e = .returned (.bool false) ∧ w = w' := by
  by_cases h1 : 0 ≤ u
  · have d1 : decide (0 ≤ u) = true := dec_t h1
    have d2 : decide (u ≤ 6) = false := dec_n (by omega)
    go_enter Tryd.func31, Tryd.ntmps31
    go_wp2
    go_ret
    exact ⟨rfl, rfl⟩
  · have d1 : decide (0 ≤ u) = false := dec_n h1
    go_enter Tryd.func31, Tryd.ntmps31
    go_wp2
    go_ret
    exact ⟨rfl, rfl⟩
theorem uwhich_t (u t : Int) (w : World) (h : t < 0 ∨ 12622780800 ≤ t) : Calls Tryd.prog 62 #[.int .i64 u, .int .i64 t] w fun e w' => e = .returned (.tuple #[.int .i64 0, .bool false]) ∧ Below w.heap.size w w' := by
  have K := mSplit_no t w h
  clear h
  go_enter Tryd.func62, Tryd.ntmps62
  go_wp2_with fail
  refine K.mono ?_
  rintro e w' ⟨rfl, rfl⟩
  clear K
  go_wp2
  go_ret2
  exact ⟨rfl, Below.refl _ _⟩
theorem uwhich_u (u t : Int) (w : World) (h1 : 0 ≤ t) (h2 : t < 12622780800) (h : u < 0 ∨ 7 ≤ u) : Calls Tryd.prog 62 #[.int .i64 u, .int .i64 t] w fun e w' => e = .returned (.tuple #[.int .i64 0, .bool false]) ∧ Below w.heap.size w w' := by
  have K := mSplit_yes t w h1 h2
  have K2 := umay_no u w h
  clear h h1 h2
  go_enter Tryd.func62, Tryd.ntmps62
  go_wp2_with fail
  refine K.mono ?_
  rintro e w' ⟨rfl, rfl⟩
  clear K
  go_wp2_with fail
  refine K2.mono ?_
  rintro e w' ⟨rfl, rfl⟩
  clear K2
  go_wp2
  go_ret2
  exact ⟨rfl, Below.refl _ _⟩
/-- both tell the same -/
def Both (u t V : Int) : Prop := (∀ w, Calls Tryd.prog 62 #[.int .i64 u, .int .i64 t] w fun e w' => e = .returned (.tuple #[.int .i64 V, .bool true]) ∧ Below w.heap.size w w') ∧
  (∀ w, Calls Tryd.prog 70 #[.int .i64 u, .int .i64 t] w fun e w' => e = .returned (.int .i64 V) ∧ Below w.heap.size w w')
theorem both_low (u t S : Int) (hS : sz u = S) (hp : 0 < S) (h1 : 0 ≤ t) (h2 : t < 12622780800) : Both u t (t / S) := by
  have hu : 0 ≤ u ∧ u < 7 := by
    rcases sz_cases u with ⟨rfl, _⟩ | ⟨rfl, _⟩ | ⟨rfl, _⟩ | ⟨_, _, _, hq⟩ <;> omega
  refine ⟨fun w => ?_, fun w => ?_⟩
  · have K := mSplit_yes t w h1 h2
    have K2 := umay_yes u w hu.1 hu.2
    have K3 := usize_any u w
    rw [hS] at K3
    have d := dec_t hp
    have hne : ¬ S = 0 := by omega
    clear hS hu
    go_enter Tryd.func62, Tryd.ntmps62
    go_wp2_with fail
    refine K.mono ?_
    rintro e w' ⟨rfl, rfl⟩
    clear K
    go_wp2_with fail
    refine K2.mono ?_
    rintro e w' ⟨rfl, rfl⟩
    clear K2
    go_wp2_with fail
    refine K3.mono ?_
    rintro e w' ⟨rfl, rfl⟩
    clear K3
    go_wp2
    go_ret2
    exact ⟨by first | rfl | (simp [Int.tdiv_eq_ediv_of_nonneg h1]), Below.refl _ _⟩
  · refine (rwhich_any u t S w h1 (by omega) hS (by omega)).mono ?_
    rintro e w' ⟨rfl, rfl⟩
    exact ⟨rfl, Below.refl _ _⟩
theorem both_day (t : Int) (h1 : 0 ≤ t) (h2 : t < 12622780800) : Both 3 t (t / 86400) := by
  have hd1 : 0 ≤ t / 86400 := by omega
  have hd2 : t / 86400 < 146097 := by omega
  refine ⟨fun w => ?_, fun w => ?_⟩
  · have K := mSplit_yes t w h1 h2
    have K2 := umay_yes 3 w (by omega) (by omega)
    have K3 := usize_any 3 w
    rw [show sz 3 = 0 by decide] at K3
    generalize t / 86400 = d at K hd1 hd2 ⊢
    have KO : ∀ W, Calls Tryd.prog 76 #[.int .i64 3, .agg #[.int .i64 d, .int .i64 0, .int .i64 0, .int .i64 0, .int .i64 0, .int .i64 0, .int .i64 0, .int .i64 0, .int .i64 0, .int .i64 0]] W fun e w' => e = .returned (.int .i64 d) ∧ Below W.heap.size W w' := by
      intro W
      go_enter Tryd.func76, Tryd.ntmps76
      go_wp2
      go_ret
      exact ⟨rfl, (Below.refl _ _).alloc (Nat.le_refl _) _⟩
    go_enter Tryd.func62, Tryd.ntmps62
    go_wp2_with fail
    refine K.mono ?_
    rintro e w' ⟨rfl, rfl⟩
    clear K
    go_wp2_with fail
    refine K2.mono ?_
    rintro e w' ⟨rfl, rfl⟩
    clear K2
    go_wp2_with fail
    refine K3.mono ?_
    rintro e w' ⟨rfl, rfl⟩
    clear K3
    go_wp2_with fail
    refine (KO _).mono ?_
    rintro e w2 ⟨rfl, hb⟩
    go_wp2
    go_ret2
    exact ⟨rfl, ((Below.refl _ _).alloc (Nat.le_refl _) _).trans (hb.mono (by simp))⟩
  · go_enter Tryd.func70, Tryd.ntmps70
    go_wp2
    go_ret
    exact ⟨by first | rfl | (simp [Int.tdiv_eq_ediv_of_nonneg h1]), Below.refl _ _⟩
theorem both_week (t : Int) (h1 : 0 ≤ t) (h2 : t < 12622780800) : Both 4 t (wn (t / 86400)) := by
  have hd1 : 0 ≤ t / 86400 := by omega
  have hd2 : t / 86400 < 146097 := by omega
  refine ⟨fun w => ?_, fun w => ?_⟩
  · have K := mSplit_yes t w h1 h2
    have K2 := umay_yes 4 w (by omega) (by omega)
    have K3 := usize_any 4 w
    rw [show sz 4 = 0 by decide] at K3
    generalize t / 86400 = d at K hd1 hd2 ⊢
    have KO : ∀ W, Calls Tryd.prog 76 #[.int .i64 4, .agg #[.int .i64 d, .int .i64 0, .int .i64 0, .int .i64 0, .int .i64 0, .int .i64 0, .int .i64 0, .int .i64 0, .int .i64 0, .int .i64 0]] W fun e w' => e = .returned (.int .i64 (wn d)) ∧ Below W.heap.size W w' := by
      intro W
      have KN := fun W => wnum_any d W (i64_of d (by omega) (by omega))
      go_enter Tryd.func76, Tryd.ntmps76
      go_wp2_with fail
      refine (KN _).mono ?_
      rintro e w' ⟨rfl, rfl⟩
      go_wp2
      go_ret
      exact ⟨rfl, (Below.refl _ _).alloc (Nat.le_refl _) _⟩
    go_enter Tryd.func62, Tryd.ntmps62
    go_wp2_with fail
    refine K.mono ?_
    rintro e w' ⟨rfl, rfl⟩
    clear K
    go_wp2_with fail
    refine K2.mono ?_
    rintro e w' ⟨rfl, rfl⟩
    clear K2
    go_wp2_with fail
    refine K3.mono ?_
    rintro e w' ⟨rfl, rfl⟩
    clear K3
    go_wp2_with fail
    refine (KO _).mono ?_
    rintro e w2 ⟨rfl, hb⟩
    go_wp2
    go_ret2
    exact ⟨rfl, ((Below.refl _ _).alloc (Nat.le_refl _) _).trans (hb.mono (by simp))⟩
  · have KN := rwnum_any (t / 86400) w (i64_of _ (by omega) (by omega))
    have ht : t.tdiv 86400 = t / 86400 := Int.tdiv_eq_ediv_of_nonneg h1
    go_enter Tryd.func70, Tryd.ntmps70
    go_wp2_with fail
    refine KN.mono ?_
    rintro e w' ⟨rfl, rfl⟩
    go_wp2
    go_ret
    exact ⟨rfl, Below.refl _ _⟩
end Go.Proofs.YtbfndcogieiejaaDoor
