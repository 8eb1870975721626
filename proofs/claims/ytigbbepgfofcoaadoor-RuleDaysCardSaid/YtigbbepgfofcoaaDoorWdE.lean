/- wide.May and wide.Has (layer 4). -/
import Derived.Test.YtigbbepgfofcoaaDoorWdD
import Derived.Deep.RegionHeld3
import Derived.Deep.RegionWith
namespace Go.Proofs.YtigbbepgfofcoaaDoor
open Go.RowKit
set_option linter.unusedVariables false

attribute [local go_sem] eq7
theorem sev_mk {g : Nat} {f : Nat → Nat} {W0 X : World} (HG : Sev W0 g f) (hb : Below W0.heap.size W0 X) : Below W0.heap.size W0 X ∧ X.cell? ⟨g, 0, none⟩ = some (.int .u64 (f 0 : Nat)) ∧ X.cell? ⟨g, 1, none⟩ = some (.int .u64 (f 1 : Nat)) ∧ X.cell? ⟨g, 2, none⟩ = some (.int .u64 (f 2 : Nat)) ∧ X.cell? ⟨g, 3, none⟩ = some (.int .u64 (f 3 : Nat)) ∧ X.cell? ⟨g, 4, none⟩ = some (.int .u64 (f 4 : Nat)) ∧ X.cell? ⟨g, 5, none⟩ = some (.int .u64 (f 5 : Nat)) ∧ X.cell? ⟨g, 6, none⟩ = some (.int .u64 (f 6 : Nat)) := ⟨hb, (HG.below hb).cells⟩
theorem sev_al {B : Nat} {W0 X : World} {P : Prop} {o : Obj} (H : Below W0.heap.size W0 X ∧ P) : Below W0.heap.size W0 (X.alloc o) := H.1.alloc H.1.size o
theorem sev_tr {B : Nat} {W0 X Y : World} {P : Prop} (H : Below W0.heap.size W0 X ∧ P) (hb : Below X.heap.size X Y) : Below W0.heap.size W0 Y := H.1.trans (hb.mono H.1.size)
theorem sev_tr2 {B : Nat} {W0 X Y : World} {P : Prop} {o : Obj} (H : Below W0.heap.size W0 X ∧ P) (hb : Below (X.alloc o).heap.size (X.alloc o) Y) : Below W0.heap.size W0 Y := (H.1.alloc H.1.size o).trans (hb.mono (Nat.le_trans H.1.size (by simp)))
theorem sev_new1 {w : World} {P : Nat → Bool} : Sev (w.alloc (.cells #[.int .u64 (wv P 0 : Nat), .int .u64 (wv P 1 : Nat), .int .u64 (wv P 2 : Nat), .int .u64 (wv P 3 : Nat), .int .u64 (wv P 4 : Nat), .int .u64 (wv P 5 : Nat), .int .u64 (wv P 6 : Nat)] 73)) w.heap.size (wv P) := Sev.new w (wv P)
theorem same7_and (P Q : Nat → Bool) : same7 P Q = (decide (wv P 0 = wv Q 0) && (decide (wv P 1 = wv Q 1) && (decide (wv P 2 = wv Q 2) && (decide (wv P 3 = wv Q 3) && (decide (wv P 4 = wv Q 4) && (decide (wv P 5 = wv Q 5) && decide (wv P 6 = wv Q 6))))))) := by simp only [same7, Bool.decide_and]
/-- is a number in a set? -/
def hasW (P : Nat → Bool) (n : Int) : Bool := decide (0 ≤ n ∧ n < 400) && P n.toNat
theorem hasW_lo (P : Nat → Bool) (n : Int) (h : n < 0 ∨ 400 ≤ n) : hasW P n = false := by unfold hasW; rw [dec_n (by omega)]; rfl
theorem hasW_in (P : Nat → Bool) (n : Nat) (h : n < 400) : hasW P n = P n := by unfold hasW; rw [dec_t (by omega)]; simp
theorem wv_bit (P : Nat → Bool) (n : Nat) : (wv P (n / 64)).testBit (n % 64) = P n := by
  rw [wv_test, dec_t (Nat.mod_lt _ (by omega)), show 64 * (n / 64) + n % 64 = n by omega]
  simp
end Go.Proofs.YtigbbepgfofcoaaDoor
