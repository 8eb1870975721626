/- Contracts of the functions of package span (layer 9), of moment's In and Split (layer 8), and of the document's answers for spans. -/
import Derived.Test.YtigbbepgfofcoaaDoorWeek
import Derived.Deep.RegionHeld3
namespace Go.Proofs.YtigbbepgfofcoaaDoor
open Go.RowKit

theorem below_a1 (w : World) (o1 : Obj) : Below w.heap.size w (w.alloc o1) := (Below.refl _ _).alloc (Nat.le_refl _) o1
theorem below_a2 (w : World) (o1 o2 : Obj) : Below w.heap.size w ((w.alloc o1).alloc o2) := (below_a1 w o1).alloc (by simp) o2
theorem below_a3 (w : World) (o1 o2 o3 : Obj) : Below w.heap.size w (((w.alloc o1).alloc o2).alloc o3) := (below_a2 w o1 o2).alloc (by simp; omega) o3
theorem below_cut {w w1 w2 : World} (h : Below w.heap.size w w1) (h2 : Below w1.heap.size w1 w2) : Below w.heap.size w w2 := h.trans (h2.mono h.size)

theorem min_yes (t : Int) (w : World) (h1 : 0 ≤ t) (h2 : t < 12622780800) : Calls Tryd.prog 23 #[.int .i64 t] w fun e w' => e = .returned (.bool true) ∧ w = w' := by
  go_enter Tryd.func23, Tryd.ntmps23
  go_wp2
  go_ret
  exact ⟨rfl, rfl⟩
theorem min_no (t : Int) (w : World) (h : t < 0 ∨ 12622780800 ≤ t) : Calls Tryd.prog 23 #[.int .i64 t] w fun e w' => e = .returned (.bool false) ∧ w = w' := by
  by_cases h1 : t < 0
  · have hd := dec_f (show ¬ 0 ≤ t by omega)
    clear h
    go_enter Tryd.func23, Tryd.ntmps23
    go_wp2
    go_ret
    exact ⟨rfl, rfl⟩
  · have hd := dec_f (show ¬ t < 12622780800 by omega)
    have h2 : 0 ≤ t := by omega
    clear h h1
    go_enter Tryd.func23, Tryd.ntmps23
    go_wp2
    go_ret
    exact ⟨rfl, rfl⟩
theorem split_yes (t : Int) (w : World) (h1 : 0 ≤ t) (h2 : t < 12622780800) : Calls Tryd.prog 69 #[.int .i64 t] w fun e w' => e = .returned (.tuple #[.int .i64 (t / 86400), .int .i64 (t % 86400), .bool true]) ∧ w = w' := by
  go_enter Tryd.func69, Tryd.ntmps69
  go_wp2_with (go_at_call 23; refine (min_yes _ _ h1 h2).mono ?_; rintro e w' ⟨rfl, rfl⟩)
  go_ret3
  exact ⟨rfl, rfl⟩
theorem split_no (t : Int) (w : World) (h : t < 0 ∨ 12622780800 ≤ t) : Calls Tryd.prog 69 #[.int .i64 t] w fun e w' => e = .returned (.tuple #[.int .i64 0, .int .i64 0, .bool false]) ∧ w = w' := by
  go_enter Tryd.func69, Tryd.ntmps69
  go_wp2_with (go_at_call 23; refine (min_no _ _ h).mono ?_; rintro e w' ⟨rfl, rfl⟩)
  go_ret3
  exact ⟨rfl, rfl⟩

/-- a span held within the window -/
def hF (f : Int) : Int := if f < 0 then 0 else f
def hU (u : Int) : Int := if 12622780799 < u then 12622780799 else u
def heldV (f u : Int) : Value := if hU u < hF f then .agg #[.int .i64 0, .int .i64 (-1)] else .agg #[.int .i64 (hF f), .int .i64 (hU u)]
theorem below_a4 (w : World) (o1 o2 o3 o4 : Obj) : Below w.heap.size w ((((w.alloc o1).alloc o2).alloc o3).alloc o4) := (below_a3 w o1 o2 o3).alloc (by simp; omega) o4
end Go.Proofs.YtigbbepgfofcoaaDoor
