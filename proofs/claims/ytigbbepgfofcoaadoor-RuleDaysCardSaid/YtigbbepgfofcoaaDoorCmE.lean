/- Whether a clause may be (layer 13). -/
import Derived.Test.YtigbbepgfofcoaaDoorCm0
import Derived.Test.YtigbbepgfofcoaaDoorWdE
import Derived.Test.YtigbbepgfofcoaaDoorUnA
namespace Go.Proofs.YtigbbepgfofcoaaDoor
open Go.RowKit
set_option linter.unusedVariables false

structure Cl where
  (s m h mo d e wk : Nat) (orr : Bool) (n : Int) (b : Bool) (D : Nat → Nat) (P : Nat → Bool) (u st an fr un : Int)
/-- the thirty cells of a clause -/
def clC (c : Cl) : Array Value := #[.int .u64 (c.s : Nat), .int .u64 (c.m : Nat), .int .u64 (c.h : Nat), .int .u64 (c.mo : Nat), .int .u64 (c.d : Nat), .int .u64 (c.e : Nat), .int .u64 (c.wk : Nat), .bool c.orr, .int .i64 c.n, .bool c.b, .int .u64 (c.D 0 : Nat), .int .u64 (c.D 1 : Nat), .int .u64 (c.D 2 : Nat), .int .u64 (c.D 3 : Nat), .int .u64 (c.D 4 : Nat), .int .u64 (c.D 5 : Nat), .int .u64 (c.D 6 : Nat), .int .u64 (c.D 7 : Nat),
  .int .u64 (wv c.P 0 : Nat), .int .u64 (wv c.P 1 : Nat), .int .u64 (wv c.P 2 : Nat), .int .u64 (wv c.P 3 : Nat), .int .u64 (wv c.P 4 : Nat), .int .u64 (wv c.P 5 : Nat), .int .u64 (wv c.P 6 : Nat), .int .i64 c.u, .int .i64 c.st, .int .i64 c.an, .int .i64 c.fr, .int .i64 c.un]
def clV (c : Cl) : Value := .agg (clC c)
def ClIn (c : Cl) : Prop := c.s < 18446744073709551616 ∧ c.m < 18446744073709551616 ∧ c.h < 18446744073709551616 ∧ c.mo < 18446744073709551616 ∧ c.d < 18446744073709551616 ∧ c.e < 18446744073709551616 ∧ c.wk < 18446744073709551616 ∧ ∀ i, c.D i < 18446744073709551616
/-- a block with a clause -/
def ClAt (W : World) (g : Nat) (c : Cl) : Prop := W.heap[g]? = some (.cells (clC c) 75 (0, 0))
theorem ClAt.masks {W : World} {g : Nat} {c : Cl} (h : ClAt W g c) : W.cell? ⟨g, 0, none⟩ = some (.int .u64 (c.s : Nat)) ∧ W.cell? ⟨g, 1, none⟩ = some (.int .u64 (c.m : Nat)) ∧ W.cell? ⟨g, 2, none⟩ = some (.int .u64 (c.h : Nat)) ∧ W.cell? ⟨g, 3, none⟩ = some (.int .u64 (c.mo : Nat)) ∧ W.cell? ⟨g, 4, none⟩ = some (.int .u64 (c.d : Nat)) ∧ W.cell? ⟨g, 5, none⟩ = some (.int .u64 (c.e : Nat)) ∧ W.cell? ⟨g, 6, none⟩ = some (.int .u64 (c.wk : Nat)) := ⟨blk_cell h 0, blk_cell h 1, blk_cell h 2, blk_cell h 3, blk_cell h 4, blk_cell h 5, blk_cell h 6⟩
theorem ClAt.ord {W : World} {g : Nat} {c : Cl} (h : ClAt W g c) : W.cell? ⟨g, 8, none⟩ = some (.int .i64 c.n) ∧ W.cell? ⟨g, 9, none⟩ = some (.bool c.b) ∧ W.cell? ⟨g, 10, none⟩ = some (.int .u64 (c.D 0 : Nat)) ∧ W.cell? ⟨g, 11, none⟩ = some (.int .u64 (c.D 1 : Nat)) ∧ W.cell? ⟨g, 12, none⟩ = some (.int .u64 (c.D 2 : Nat)) ∧ W.cell? ⟨g, 13, none⟩ = some (.int .u64 (c.D 3 : Nat)) ∧ W.cell? ⟨g, 14, none⟩ = some (.int .u64 (c.D 4 : Nat)) ∧ W.cell? ⟨g, 15, none⟩ = some (.int .u64 (c.D 5 : Nat)) ∧ W.cell? ⟨g, 16, none⟩ = some (.int .u64 (c.D 6 : Nat)) ∧ W.cell? ⟨g, 17, none⟩ = some (.int .u64 (c.D 7 : Nat)) := ⟨blk_cell h 8, blk_cell h 9, blk_cell h 10, blk_cell h 11, blk_cell h 12, blk_cell h 13, blk_cell h 14, blk_cell h 15, blk_cell h 16, blk_cell h 17⟩
theorem ClAt.years {W : World} {g : Nat} {c : Cl} (h : ClAt W g c) : W.cell? ⟨g, 18, none⟩ = some (.int .u64 (wv c.P 0 : Nat)) ∧ W.cell? ⟨g, 19, none⟩ = some (.int .u64 (wv c.P 1 : Nat)) ∧ W.cell? ⟨g, 20, none⟩ = some (.int .u64 (wv c.P 2 : Nat)) ∧ W.cell? ⟨g, 21, none⟩ = some (.int .u64 (wv c.P 3 : Nat)) ∧ W.cell? ⟨g, 22, none⟩ = some (.int .u64 (wv c.P 4 : Nat)) ∧ W.cell? ⟨g, 23, none⟩ = some (.int .u64 (wv c.P 5 : Nat)) ∧ W.cell? ⟨g, 24, none⟩ = some (.int .u64 (wv c.P 6 : Nat)) := ⟨blk_cell h 18, blk_cell h 19, blk_cell h 20, blk_cell h 21, blk_cell h 22, blk_cell h 23, blk_cell h 24⟩
theorem ClAt.rest {W : World} {g : Nat} {c : Cl} (h : ClAt W g c) : W.cell? ⟨g, 25, none⟩ = some (.int .i64 c.u) ∧ W.cell? ⟨g, 26, none⟩ = some (.int .i64 c.st) ∧ W.cell? ⟨g, 27, none⟩ = some (.int .i64 c.an) := ⟨blk_cell h 25, blk_cell h 26, blk_cell h 27⟩
theorem ClAt.below {W W' : World} {g : Nat} {c : Cl} (h : ClAt W g c) (hb : Below W.heap.size W W') : ClAt W' g c := (hb.block _ (lt_of_block h)).trans h
def masksB (c : Cl) : Bool := masks7 c.s c.m c.h c.mo c.d c.e c.wk
/-- may a clause be? -/
def mayB (c : Cl) : Bool := masksB c && (ordB c.n c.b c.D && (same7 c.P (clip c.P) && (decide (0 ≤ c.u ∧ c.u < 7) && (decide (1 ≤ c.st) && decide (0 ≤ c.an ∧ c.an < 12622780800)))))
theorem nmU_some : ∀ i, i < 7 → nmU i ≠ ⟨#[]⟩ := by
  intro i hi h
  have q := congrArg (fun a : ByteArray => a.size) h
  match i, hi with
  | 0, _ => revert q; decide
  | 1, _ => revert q; decide
  | 2, _ => revert q; decide
  | 3, _ => revert q; decide
  | 4, _ => revert q; decide
  | 5, _ => revert q; decide
  | 6, _ => revert q; decide
theorem TabUn.bel {w w' : World} (h : TabUn w) (hb : Below w.heap.size w w') : TabUn w' := fun j hj => (hb.cell (p := ⟨0, j, none⟩) (ucell_lt (h j hj))).trans (h j hj)
end Go.Proofs.YtigbbepgfofcoaaDoor
