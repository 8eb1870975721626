/- wide.Both (layer 4). -/
import Derived.Test.YtigbbepgfofcoaaDoorWdB
namespace Go.Proofs.YtigbbepgfofcoaaDoor
open Go.RowKit
set_option linter.unusedVariables false

/-- a slice of sets -/
def Sets (w : World) (A : Option Addr) (Ps : List (Nat → Bool)) : Prop := ∀ k, k < Ps.length → ∃ b off, A = some ⟨b, off, none⟩ ∧ b < w.heap.size ∧ ∀ j, j < 7 → w.cell? ⟨b, off + k * 7 + j, none⟩ = some (.int .u64 (wv (Ps[k]?.getD fun _ => false) j : Nat))
theorem Sets.below {w w' : World} {A : Option Addr} {Ps : List (Nat → Bool)} (h : Sets w A Ps) (hb : Below w.heap.size w w') : Sets w' A Ps := fun k hk => by
  obtain ⟨b, off, hA, hl, hc⟩ := h k hk
  exact ⟨b, off, hA, Nat.lt_of_lt_of_le hl hb.size, fun j hj => (hb.cell (p := ⟨b, off + k * 7 + j, none⟩) hl).trans (hc j hj)⟩
/-- what is in all sets -/
def andP (Ps : List (Nat → Bool)) (i : Nat) : Bool := fullW i && Ps.all fun P => P i
def orP (Ps : List (Nat → Bool)) (i : Nat) : Bool := Ps.any fun P => P i
theorem andP_nil : ∀ i, fullW i = andP [] i := fun i => by simp [andP]
theorem take_stepP (Ps : List (Nat → Bool)) (k : Nat) (h : k < Ps.length) : Ps.take (k + 1) = Ps.take k ++ [Ps[k]?.getD fun _ => false] := by
  rw [List.take_succ_eq_append_getElem h, List.getElem?_eq_getElem h]; rfl
theorem and_nat (a b : Nat) (ha : a < 18446744073709551616) (hb : b < 18446744073709551616) : bits BinOp.and IntKind.u64 ((a : Nat) : Int) ((b : Nat) : Int) = ((a &&& b : Nat) : Int) := u64_and_nat a b ha hb
theorem wv_and (P Q : Nat → Bool) (j : Nat) : wv P j &&& wv Q j = wv (fun i => P i && Q i) j := mk_and _ _
theorem wv_or (P Q : Nat → Bool) (j : Nat) : wv P j ||| wv Q j = wv (fun i => P i || Q i) j := mk_or _ _
theorem andP_step (Ps : List (Nat → Bool)) (k : Nat) (h : k < Ps.length) (j : Nat) : bits BinOp.and IntKind.u64 ((wv (andP (Ps.take k)) j : Nat) : Int) ((wv (Ps[k]?.getD fun _ => false) j : Nat) : Int) = ((wv (andP (Ps.take (k + 1))) j : Nat) : Int) := by
  rw [and_nat _ _ (wv_lt _ _) (wv_lt _ _), wv_and, take_stepP Ps k h]
  congr 1
  exact wv_congr fun i _ => by unfold andP; rw [List.all_append]; simp [Bool.and_assoc]
theorem sets_cells {w : World} {b off k : Nat} {f : Nat → Nat} (h : ∀ j, j < 7 → w.cell? ⟨b, off + k * 7 + j, none⟩ = some (.int .u64 (f j : Nat))) : w.cell? ⟨b, off + k * 7, none⟩ = some (.int .u64 (f 0 : Nat)) ∧ w.cell? ⟨b, off + k * 7 + 1, none⟩ = some (.int .u64 (f 1 : Nat)) ∧ w.cell? ⟨b, off + k * 7 + 2, none⟩ = some (.int .u64 (f 2 : Nat)) ∧ w.cell? ⟨b, off + k * 7 + 3, none⟩ = some (.int .u64 (f 3 : Nat)) ∧ w.cell? ⟨b, off + k * 7 + 4, none⟩ = some (.int .u64 (f 4 : Nat)) ∧ w.cell? ⟨b, off + k * 7 + 5, none⟩ = some (.int .u64 (f 5 : Nat)) ∧ w.cell? ⟨b, off + k * 7 + 6, none⟩ = some (.int .u64 (f 6 : Nat)) := ⟨h 0 (by omega), h 1 (by omega), h 2 (by omega), h 3 (by omega), h 4 (by omega), h 5 (by omega), h 6 (by omega)⟩
def upd (f g : Nat → Nat) (j x : Nat) : Nat := if x < j then g x else f x
end Go.Proofs.YtigbbepgfofcoaaDoor
