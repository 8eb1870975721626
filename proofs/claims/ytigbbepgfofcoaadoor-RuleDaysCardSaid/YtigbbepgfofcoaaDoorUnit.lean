/- Contracts of Size and Phase of package unit (layer 10), of moment's In, Split and Join (layer 8), and of the document's answers for units below a day. -/
import Derived.Test.YtigbbepgfofcoaaDoorWeek
namespace Go.Proofs.YtigbbepgfofcoaaDoor
open Go.RowKit Civ

theorem below_a1 (w : World) (o1 : Obj) : Below w.heap.size w (w.alloc o1) := (Below.refl _ _).alloc (Nat.le_refl _) o1
theorem mIn_yes (t : Int) (w : World) (h1 : 0 ≤ t) (h2 : t < 12622780800) : Calls Tryd.prog 23 #[.int .i64 t] w fun e w' => e = .returned (.bool true) ∧ w = w' := by
  go_enter Tryd.func23, Tryd.ntmps23
  go_wp2
  go_ret
  exact ⟨rfl, rfl⟩
theorem mIn_no (t : Int) (w : World) (h : t < 0 ∨ 12622780800 ≤ t) : Calls Tryd.prog 23 #[.int .i64 t] w fun e w' => e = .returned (.bool false) ∧ w = w' := by
  by_cases h1 : t < 0
  · have hd := dec_f (show ¬ 0 ≤ t by omega)
    clear h
    go_enter Tryd.func23, Tryd.ntmps23
    go_wp2
    go_ret
    exact ⟨rfl, rfl⟩
  · have hd := dec_f (show ¬ t < 12622780800 by omega)
    have h2 : 0 ≤ t := by omega
    clear h h1
    go_enter Tryd.func23, Tryd.ntmps23
    go_wp2
    go_ret
    exact ⟨rfl, rfl⟩
theorem rIn_yes (t : Int) (w : World) (h1 : 0 ≤ t) (h2 : t ≤ 12622780799) : Calls Tryd.prog 53 #[.int .i64 t] w fun e w' => e = .returned (.bool true) ∧ w = w' := by
  go_enter Tryd.func53, Tryd.ntmps53
  go_wp2
  go_ret
  exact ⟨rfl, rfl⟩
theorem rIn_no (t : Int) (w : World) (h : t < 0 ∨ 12622780800 ≤ t) : Calls Tryd.prog 53 #[.int .i64 t] w fun e w' => e = .returned (.bool false) ∧ w = w' := by
  by_cases h1 : t < 0
  · have hd := dec_f (show ¬ 0 ≤ t by omega)
    clear h
    go_enter Tryd.func53, Tryd.ntmps53
    go_wp2
    go_ret
    exact ⟨rfl, rfl⟩
  · have hd := dec_f (show ¬ t ≤ 12622780799 by omega)
    have h2 : 0 ≤ t := by omega
    clear h h1
    go_enter Tryd.func53, Tryd.ntmps53
    go_wp2
    go_ret
    exact ⟨rfl, rfl⟩
theorem mSplit_yes (t : Int) (w : World) (h1 : 0 ≤ t) (h2 : t < 12622780800) : Calls Tryd.prog 69 #[.int .i64 t] w fun e w' => e = .returned (.tuple #[.int .i64 (t / 86400), .int .i64 (t % 86400), .bool true]) ∧ w = w' := by
  go_enter Tryd.func69, Tryd.ntmps69
  go_wp2_with (go_at_call 23; refine (mIn_yes _ _ h1 h2).mono ?_; rintro e w' ⟨rfl, rfl⟩)
  go_ret3
  exact ⟨rfl, rfl⟩
theorem mSplit_no (t : Int) (w : World) (h : t < 0 ∨ 12622780800 ≤ t) : Calls Tryd.prog 69 #[.int .i64 t] w fun e w' => e = .returned (.tuple #[.int .i64 0, .int .i64 0, .bool false]) ∧ w = w' := by
  go_enter Tryd.func69, Tryd.ntmps69
  go_wp2_with (go_at_call 23; refine (mIn_no _ _ h).mono ?_; rintro e w' ⟨rfl, rfl⟩)
  go_ret3
  exact ⟨rfl, rfl⟩
/-- how great a unit below a day is -/
def sz (u : Int) : Int := if u = 0 then 1 else if u = 1 then 60 else if u = 2 then 3600 else 0
theorem sz_cases (u : Int) : (u = 0 ∧ sz u = 1) ∨ (u = 1 ∧ sz u = 60) ∨ (u = 2 ∧ sz u = 3600) ∨ ((u == 0) = false ∧ (u == 1) = false ∧ (u == 2) = false ∧ sz u = 0) := by
  unfold sz
  by_cases h0 : u = 0
  · subst h0; simp
  · by_cases h1 : u = 1
    · subst h1; simp
    · by_cases h2 : u = 2
      · subst h2; simp
      · simp [h0, h1, h2]
end Go.Proofs.YtigbbepgfofcoaaDoor
