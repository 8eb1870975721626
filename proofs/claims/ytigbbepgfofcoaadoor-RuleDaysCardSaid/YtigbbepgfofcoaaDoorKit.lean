/- Words used by all texts of this seat: bounds of int64, a slice that reads as a list of integers, new blocks, endings; nothing of the program is spoken of. -/
import Derived.Test.YtigbbepgfofcoaaDoorRows
import Derived.WalkKit
import Derived.WalkSpells
import Derived.WalkLawsBesides
import Derived.Lib.Hide
import Derived.Deep.QuietTactic
import Derived.BigQuiet
namespace Go.Proofs.YtigbbepgfofcoaaDoor
open Go.RowKit

def I64 (a : Int) : Prop := -9223372036854775808 ≤ a ∧ a ≤ 9223372036854775807
theorem ret_i64 {a b : Int} (h : a = b) : Ending.returned (.int .i64 a) = .returned (.int .i64 b) := by rw [h]
theorem ret_u64 {a b : Int} (h : a = b) : Ending.returned (.int .u64 a) = .returned (.int .u64 b) := by rw [h]
theorem ret_bool {a b : Bool} (h : a = b) : Ending.returned (.bool a) = .returned (.bool b) := by rw [h]

def Ints (k : IntKind) (w : World) (A : Option Addr) (zs : List Int) : Prop := ∀ j, j < zs.length → ∃ b off, A = some ⟨b, off, none⟩ ∧ b < w.heap.size ∧ w.cell? ⟨b, off + j, none⟩ = some (.int k (zs[j]?.getD 0))
theorem Ints.drewN {k : IntKind} {w : World} {A : Option Addr} {zs : List Int} (h : Ints k w A zs) (n : Nat) : Ints k (w.drewN n) A zs := h
theorem getD_mem {zs : List Int} {P : Int → Prop} (hz : ∀ z ∈ zs, P z) {k : Nat} (hk : k < zs.length) : P (zs[k]?.getD 0) := by
  rw [List.getElem?_eq_getElem hk]; exact hz _ (List.getElem_mem hk)
theorem ret_u64b {a b : Nat} {x : Bool} (h : a = b) : Ending.returned (.tuple #[.int .u64 a, .bool x]) = .returned (.tuple #[.int .u64 b, .bool x]) := by rw [h]
theorem below_draws (B : Nat) (w : World) (n : Nat) : Below B w (w.drewN n) := ⟨rfl, rfl, rfl, Nat.le_refl _, fun _ _ => rfl⟩
theorem cell_new (w : World) (cs : Array Value) (t : TypeId) (i : Nat) : (w.alloc (.cells cs t)).cell? ⟨w.heap.size, i, none⟩ = cs[i]? := cell_of_row _ _ _ _ _ _ (heap_alloc_new w _)
theorem ints_new (k : IntKind) (w : World) (zs : List Int) (cs : Array Value) (t : TypeId) (h : cs = (zs.map (Value.int k)).toArray) : Ints k (w.alloc (.cells cs t)) (some ⟨w.heap.size, 0, none⟩) zs := by
  subst h
  intro j hj
  refine ⟨w.heap.size, 0, rfl, by simp, ?_⟩
  rw [Nat.zero_add, cell_new]
  simp [hj]
end Go.Proofs.YtigbbepgfofcoaaDoor
