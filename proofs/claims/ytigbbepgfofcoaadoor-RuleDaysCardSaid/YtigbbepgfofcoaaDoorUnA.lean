/- The units' names, and contracts of what tells them (layer 10). -/
import Derived.Test.YtigbbepgfofcoaaDoorUnit
import Derived.Test.YtigbbepgfofcoaaDoorDec
import Derived.Test.YtigbbepgfofcoaaDoorBut
namespace Go.Proofs.YtigbbepgfofcoaaDoor
open Go.RowKit
set_option linter.unusedVariables false

def tabUn : List (List UInt8) := [[83, 69, 67, 79, 78, 68, 76, 89], [77, 73, 78, 85, 84, 69, 76, 89], [72, 79, 85, 82, 76, 89], [68, 65, 73, 76, 89], [87, 69, 69, 75, 76, 89], [77, 79, 78, 84, 72, 76, 89], [89, 69, 65, 82, 76, 89]]
def nmU (j : Nat) : ByteArray := ⟨(tabUn[j]?.getD []).toArray⟩
def TabUn (w : World) : Prop := ∀ j, j < 7 → w.cell? ⟨0, j, none⟩ = some (.string (nmU j))
theorem ucell_lt {w : World} {p : Addr} {u : Value} (h : w.cell? p = some u) : p.block < w.heap.size := by
  rcases Nat.lt_or_ge p.block w.heap.size with g | g
  · exact g
  · exfalso; simp [World.cell?, Array.getElem?_eq_none g] at h
theorem TabUn.lt {w : World} (h : TabUn w) : 0 < w.heap.size := ucell_lt (h 0 (by decide))
theorem TabUn.below {w w' : World} (h : TabUn w) (hb : Below w.heap.size w w') : TabUn w' := fun j hj => (hb.cell (p := ⟨0, j, none⟩) h.lt).trans (h j hj)
theorem nmU_inj : ∀ i j, i < 7 → j < 7 → nmU i = nmU j → i = j := by
  intro i j hi hj h
  have h' : ∀ i : Fin 7, ∀ j : Fin 7, (tabUn[i.val]?.getD []) = (tabUn[j.val]?.getD []) → i = j := by decide
  have e : (tabUn[i]?.getD []) = (tabUn[j]?.getD []) := by
    have := congrArg (fun b : ByteArray => b.data.toList) h
    simpa [nmU] using this
  exact congrArg Fin.val (h' ⟨i, hi⟩ ⟨j, hj⟩ e)
theorem umay_yes (u : Int) (w : World) (h1 : 0 ≤ u) (h2 : u < 7) : Calls Tryd.prog 82 #[.int .i64 u] w fun e w' => e = .returned (.bool true) ∧ w = w' := by
  have d1 : decide (0 ≤ u) = true := dec_t h1
  have d2 : decide (u < 7) = true := dec_t h2
  go_enter Tryd.func82, Tryd.ntmps82
  go_wp2
  go_ret
  exact ⟨rfl, rfl⟩
theorem umay_no (u : Int) (w : World) (h : u < 0 ∨ 7 ≤ u) : Calls Tryd.prog 82 #[.int .i64 u] w fun e w' => e = .returned (.bool false) ∧ w = w' := by
  by_cases h1 : 0 ≤ u
  · have d1 : decide (0 ≤ u) = true := dec_t h1
    have d2 : decide (u < 7) = false := dec_n (by omega)
    go_enter Tryd.func82, Tryd.ntmps82
    go_wp2
    go_ret
    exact ⟨rfl, rfl⟩
  · have d1 : decide (0 ≤ u) = false := dec_n h1
    go_enter Tryd.func82, Tryd.ntmps82
    go_wp2
    go_ret
    exact ⟨rfl, rfl⟩
theorem idxS7 (nm : Nat → ByteArray) : ∀ (k : Nat) (hk : k < 7) (w : World), Sem.run Tryd.prog (Instr.index 92 (.agg #[.string (nm 0), .string (nm 1), .string (nm 2), .string (nm 3), .string (nm 4), .string (nm 5), .string (nm 6)]) (.int .i64 (k : Int))) w = .ok (.string (nm k)) w
  | 0, _, w => by simp [Instr.index, run_underlying Tryd.underlying92, asIntOf, go_sem]
  | 1, _, w => by simp [Instr.index, run_underlying Tryd.underlying92, asIntOf, go_sem]
  | 2, _, w => by simp [Instr.index, run_underlying Tryd.underlying92, asIntOf, go_sem]
  | 3, _, w => by simp [Instr.index, run_underlying Tryd.underlying92, asIntOf, go_sem]
  | 4, _, w => by simp [Instr.index, run_underlying Tryd.underlying92, asIntOf, go_sem]
  | 5, _, w => by simp [Instr.index, run_underlying Tryd.underlying92, asIntOf, go_sem]
  | 6, _, w => by simp [Instr.index, run_underlying Tryd.underlying92, asIntOf, go_sem]
  | k + 7, hk, w => absurd hk (by omega)
theorem beq_yes {a b : ByteArray} (h : a = b) : (a.toList == b.toList) = true := by rw [h, beq_iff_eq]
theorem toList_inj {a b : ByteArray} (h : a.toList = b.toList) : a = b := by
  have e : a.data.toList = b.data.toList := by
    rw [← ByteArray.toList_eq, ← ByteArray.toList_eq, h]
  exact ByteArray.ext (Array.ext' e)
theorem beq_no {a b : ByteArray} (h : a ≠ b) : (a.toList == b.toList) = false := by
  rw [beq_eq_false_iff_ne]
  exact fun e => h (toList_inj e)
theorem uname_any (i0 : Nat) (hi0 : i0 < 7) (w : World) (hT : TabUn w) : Calls Tryd.prog 25 #[.int .i64 (i0 : Int)] w fun e w' => e = .returned (.string (nmU i0)) ∧ w = w' := by
  have c := hT i0 hi0
  have K := umay_yes (i0 : Int) w (by omega) (by omega)
  have h0 : (0 : Int) ≤ (i0 : Int) := by omega
  have h1 : (i0 : Int) < 7 := by omega
  generalize nmU i0 = s at c ⊢
  clear hT
  go_enter Tryd.func25, Tryd.ntmps25
  go_wp2_with fail
  refine K.mono ?_
  rintro e w' ⟨rfl, rfl⟩
  clear K
  go_wp2
  go_ret
  exact ⟨rfl, rfl⟩
theorem uname_no (u : Int) (h : u < 0 ∨ 7 ≤ u) (w : World) : Calls Tryd.prog 25 #[.int .i64 u] w fun e w' => e = .returned (.string ⟨#[]⟩) ∧ w = w' := by
  have K := umay_no u w h
  clear h
  go_enter Tryd.func25, Tryd.ntmps25
  go_wp2_with fail
  refine K.mono ?_
  rintro e w' ⟨rfl, rfl⟩
  clear K
  go_wp2
  go_ret
  exact ⟨rfl, rfl⟩
end Go.Proofs.YtigbbepgfofcoaaDoor
