/- Cells of sets: stores, and what a call gives that has its result in cells (layer 4). -/
import Derived.Test.YtigbbepgfofcoaaDoorWideMath
import Derived.Test.YtigbbepgfofcoaaDoorOwn
import Derived.Laws.Rows
import Derived.Laws.StructEq
import Derived.ChangeKeysEq
import Derived.LoopTactic
namespace Go.Proofs.YtigbbepgfofcoaaDoor
open Go.RowKit
set_option linter.unusedVariables false

theorem put7 {w : World} {g : Nat} {u0 u1 u2 u3 u4 u5 u6 b0 b1 b2 b3 b4 b5 b6 : Value} {t : TypeId} (h : w.heap[g]? = some (.cells #[u0, u1, u2, u3, u4, u5, u6] t (0, 0))) :
    (((((((w.setCell ⟨g, 0, none⟩ b0).setCell ⟨g, 1, none⟩ b1).setCell ⟨g, 2, none⟩ b2).setCell ⟨g, 3, none⟩ b3).setCell ⟨g, 4, none⟩ b4).setCell ⟨g, 5, none⟩ b5).setCell ⟨g, 6, none⟩ b6).heap[g]? = some (.cells #[b0, b1, b2, b3, b4, b5, b6] t (0, 0)) ∧ But (fun k => k = g) w (((((((w.setCell ⟨g, 0, none⟩ b0).setCell ⟨g, 1, none⟩ b1).setCell ⟨g, 2, none⟩ b2).setCell ⟨g, 3, none⟩ b3).setCell ⟨g, 4, none⟩ b4).setCell ⟨g, 5, none⟩ b5).setCell ⟨g, 6, none⟩ b6) := by
  have h0 : (w.setCell ⟨g, 0, none⟩ b0).heap[g]? = some (.cells #[b0, u1, u2, u3, u4, u5, u6] t (0, 0)) := by
    have q := blk_put h 0 b0
    simpa using q
  have h1 : ((w.setCell ⟨g, 0, none⟩ b0).setCell ⟨g, 1, none⟩ b1).heap[g]? = some (.cells #[b0, b1, u2, u3, u4, u5, u6] t (0, 0)) := by
    have q := blk_put h0 1 b1
    simpa using q
  have h2 : (((w.setCell ⟨g, 0, none⟩ b0).setCell ⟨g, 1, none⟩ b1).setCell ⟨g, 2, none⟩ b2).heap[g]? = some (.cells #[b0, b1, b2, u3, u4, u5, u6] t (0, 0)) := by
    have q := blk_put h1 2 b2
    simpa using q
  have h3 : ((((w.setCell ⟨g, 0, none⟩ b0).setCell ⟨g, 1, none⟩ b1).setCell ⟨g, 2, none⟩ b2).setCell ⟨g, 3, none⟩ b3).heap[g]? = some (.cells #[b0, b1, b2, b3, u4, u5, u6] t (0, 0)) := by
    have q := blk_put h2 3 b3
    simpa using q
  have h4 : (((((w.setCell ⟨g, 0, none⟩ b0).setCell ⟨g, 1, none⟩ b1).setCell ⟨g, 2, none⟩ b2).setCell ⟨g, 3, none⟩ b3).setCell ⟨g, 4, none⟩ b4).heap[g]? = some (.cells #[b0, b1, b2, b3, b4, u5, u6] t (0, 0)) := by
    have q := blk_put h3 4 b4
    simpa using q
  have h5 : ((((((w.setCell ⟨g, 0, none⟩ b0).setCell ⟨g, 1, none⟩ b1).setCell ⟨g, 2, none⟩ b2).setCell ⟨g, 3, none⟩ b3).setCell ⟨g, 4, none⟩ b4).setCell ⟨g, 5, none⟩ b5).heap[g]? = some (.cells #[b0, b1, b2, b3, b4, b5, u6] t (0, 0)) := by
    have q := blk_put h4 5 b5
    simpa using q
  have h6 : (((((((w.setCell ⟨g, 0, none⟩ b0).setCell ⟨g, 1, none⟩ b1).setCell ⟨g, 2, none⟩ b2).setCell ⟨g, 3, none⟩ b3).setCell ⟨g, 4, none⟩ b4).setCell ⟨g, 5, none⟩ b5).setCell ⟨g, 6, none⟩ b6).heap[g]? = some (.cells #[b0, b1, b2, b3, b4, b5, b6] t (0, 0)) := by
    have q := blk_put h5 6 b6
    simpa using q
  have d0 : But (fun k => k = g) w (w.setCell ⟨g, 0, none⟩ b0) := (But.refl (fun k => k = g) w).setCell (.inr rfl) _
  have d1 : But (fun k => k = g) w ((w.setCell ⟨g, 0, none⟩ b0).setCell ⟨g, 1, none⟩ b1) := d0.setCell (.inr rfl) _
  have d2 : But (fun k => k = g) w (((w.setCell ⟨g, 0, none⟩ b0).setCell ⟨g, 1, none⟩ b1).setCell ⟨g, 2, none⟩ b2) := d1.setCell (.inr rfl) _
  have d3 : But (fun k => k = g) w ((((w.setCell ⟨g, 0, none⟩ b0).setCell ⟨g, 1, none⟩ b1).setCell ⟨g, 2, none⟩ b2).setCell ⟨g, 3, none⟩ b3) := d2.setCell (.inr rfl) _
  have d4 : But (fun k => k = g) w (((((w.setCell ⟨g, 0, none⟩ b0).setCell ⟨g, 1, none⟩ b1).setCell ⟨g, 2, none⟩ b2).setCell ⟨g, 3, none⟩ b3).setCell ⟨g, 4, none⟩ b4) := d3.setCell (.inr rfl) _
  have d5 : But (fun k => k = g) w ((((((w.setCell ⟨g, 0, none⟩ b0).setCell ⟨g, 1, none⟩ b1).setCell ⟨g, 2, none⟩ b2).setCell ⟨g, 3, none⟩ b3).setCell ⟨g, 4, none⟩ b4).setCell ⟨g, 5, none⟩ b5) := d4.setCell (.inr rfl) _
  have d6 : But (fun k => k = g) w (((((((w.setCell ⟨g, 0, none⟩ b0).setCell ⟨g, 1, none⟩ b1).setCell ⟨g, 2, none⟩ b2).setCell ⟨g, 3, none⟩ b3).setCell ⟨g, 4, none⟩ b4).setCell ⟨g, 5, none⟩ b5).setCell ⟨g, 6, none⟩ b6) := d5.setCell (.inr rfl) _
  exact ⟨h6, d6⟩

/-- a block of seven words -/
def Sev (w : World) (b : Nat) (f : Nat → Nat) : Prop := w.heap[b]? = some (.cells (c7 f) 73 (0, 0))
theorem Sev.cell {w : World} {b : Nat} {f : Nat → Nat} (h : Sev w b f) (k : Nat) (hk : k < 7) : w.cell? ⟨b, k, none⟩ = some (.int .u64 (f k : Nat)) := by
  rw [blk_cell h k, c7_get f k hk]
theorem Sev.lt {w : World} {b : Nat} {f : Nat → Nat} (h : Sev w b f) : b < w.heap.size := lt_of_block h
theorem Sev.free {w : World} {b : Nat} {f : Nat → Nat} (h : Sev w b f) (k : Nat) : w.frozen? ⟨b, k, none⟩ = false := blk_free h k
theorem Sev.below {w w' : World} {b : Nat} {f : Nat → Nat} (h : Sev w b f) (hb : Below w.heap.size w w') : Sev w' b f := (hb.block _ h.lt).trans h
theorem Sev.but {w w' : World} {b : Nat} {f : Nat → Nat} {X : Nat → Prop} (h : Sev w b f) (hb : But X w w') (hx : ¬ X b) : Sev w' b f := hb.blk h hx
theorem Sev.alloc {w : World} {b : Nat} {f : Nat → Nat} (h : Sev w b f) (o : Obj) : Sev (w.alloc o) b f := blk_more h o
theorem Sev.new (w : World) (f : Nat → Nat) : Sev (w.alloc (.cells (c7 f) 73)) w.heap.size f := blk_new w _
theorem Sev.put {w : World} {b : Nat} {f g : Nat → Nat} (h : Sev w b f) (k x : Nat) (hk : k < 7) (hx : g k = x) (ho : ∀ j, j < 7 → j ≠ k → g j = f j) : Sev (w.setCell ⟨b, k, none⟩ (.int .u64 (x : Nat))) b g := by
  have q := blk_put h k (.int .u64 (x : Nat))
  rw [c7_set f g k hk x hx ho] at q
  exact q
theorem Sev.drew {w : World} {b : Nat} {f : Nat → Nat} (h : Sev w b f) : Sev w.drew b f := h
theorem Sev.other {w : World} {b : Nat} {f : Nat → Nat} (h : Sev w b f) (g k : Nat) (u : Value) (hg : b ≠ g) : Sev (w.setCell ⟨g, k, none⟩ u) b f := blk_else h ⟨g, k, none⟩ hg u
theorem Sev.congr {w : World} {b : Nat} {f g : Nat → Nat} (h : Sev w b f) (e : ∀ j, j < 7 → f j = g j) : Sev w b g := by
  unfold Sev at h ⊢
  rw [h, c7_congr e]
theorem results7 {fn : Func} {p : Tmp} {tmps : Array Value} {w : World} {b : Nat} {f : Nat → Nat} (h : fn.results = #[.cell p 73]) (hp : tmps.getD p undef = .pointer (some ⟨b, 0, none⟩)) (hb : Sev w b f) : (results fn tmps).run Tryd.prog w = .ok (.agg (c7 f)) w :=
  results_cell_row h tmps w b _ (c7 f) (0, 0) _ hp hb Tryd.underlying73 rfl (by rw [c7_size]; kernel_rfl)
theorem idx7 (f : Nat → Nat) (j : Nat) (hj : j < 7) (w : World) : (Instr.index 73 (.agg (c7 f)) (.int .i64 j)).run Tryd.prog w = .ok (.int .u64 (f j : Nat)) w := by
  have hu := Tryd.underlying73
  have he := Tryd.underlying35
  obtain ⟨i, hi⟩ := Option.isSome_iff_exists.1 (show (Tryd.prog.info? 35).isSome = true by kernel_rfl)
  have hs : i.size = 1 := by
    have h := show (Tryd.prog.info? 35).map (·.size) = some 1 by kernel_rfl
    rw [hi] at h
    simpa using h
  have hz := fun w => run_sizeOf (P := Tryd.prog) w hi
  have hn : 0 ≤ (j : Int) ∧ (j : Int) < 7 := by omega
  have hg := c7_get f j hj
  simp [Instr.index, run_underlying hu, asIntOf, hz, go_sem, part, isAgg, run_underlying he, Program.cellsOf, hi, hs, hg, hj]
theorem guard7 : Tryd.prog.eqGuardType Tryd.prog.depth 73 = false := by kernel_rfl
set_option maxRecDepth 100000 in
theorem eq7 (a0 a1 a2 a3 a4 a5 a6 b0 b1 b2 b3 b4 b5 b6 : Nat) (w : World) : (Op.equalIn 10000 73 (.agg #[.int .u64 (a0 : Nat), .int .u64 (a1 : Nat), .int .u64 (a2 : Nat), .int .u64 (a3 : Nat), .int .u64 (a4 : Nat), .int .u64 (a5 : Nat), .int .u64 (a6 : Nat)]) (.agg #[.int .u64 (b0 : Nat), .int .u64 (b1 : Nat), .int .u64 (b2 : Nat), .int .u64 (b3 : Nat), .int .u64 (b4 : Nat), .int .u64 (b5 : Nat), .int .u64 (b6 : Nat)])).run Tryd.prog w = .ok (decide (a0 = b0 ∧ a1 = b1 ∧ a2 = b2 ∧ a3 = b3 ∧ a4 = b4 ∧ a5 = b5 ∧ a6 = b6)) w := by
  have u3 := Tryd.underlying35
  have hS := Tryd.underlying73
  obtain ⟨i, hi⟩ := Option.isSome_iff_exists.1 (show (Tryd.prog.info? 35).isSome = true by kernel_rfl)
  rw [show (10000 : Nat) = 9999 + 1 from rfl, run_equalIn_array w 9999 _ _ hS hi, show Tryd.prog.cellsOf 35 = 1 by kernel_rfl, show List.range 7 = [0, 1, 2, 3, 4, 5, 6] by decide]
  have hc : ∀ a b : Nat, (((a : Nat) : Int) == ((b : Nat) : Int)) = decide (a = b) := fun a b => by
    rw [Bool.eq_iff_iff, beq_iff_eq, decide_eq_true_eq]; omega
  simp only [Op.eqItems]
  go_simp
  repeat' split
  all_goals simp [*]
theorem Sev.put7 {w : World} {b : Nat} {f : Nat → Nat} (h : Sev w b f) (g : Nat → Nat) : Sev (((((((w.setCell ⟨b, 0, none⟩ (.int .u64 (g 0 : Nat))).setCell ⟨b, 1, none⟩ (.int .u64 (g 1 : Nat))).setCell ⟨b, 2, none⟩ (.int .u64 (g 2 : Nat))).setCell ⟨b, 3, none⟩ (.int .u64 (g 3 : Nat))).setCell ⟨b, 4, none⟩ (.int .u64 (g 4 : Nat))).setCell ⟨b, 5, none⟩ (.int .u64 (g 5 : Nat))).setCell ⟨b, 6, none⟩ (.int .u64 (g 6 : Nat))) b g ∧ But (fun k => k = b) w (((((((w.setCell ⟨b, 0, none⟩ (.int .u64 (g 0 : Nat))).setCell ⟨b, 1, none⟩ (.int .u64 (g 1 : Nat))).setCell ⟨b, 2, none⟩ (.int .u64 (g 2 : Nat))).setCell ⟨b, 3, none⟩ (.int .u64 (g 3 : Nat))).setCell ⟨b, 4, none⟩ (.int .u64 (g 4 : Nat))).setCell ⟨b, 5, none⟩ (.int .u64 (g 5 : Nat))).setCell ⟨b, 6, none⟩ (.int .u64 (g 6 : Nat))) := Go.Proofs.YtigbbepgfofcoaaDoor.put7 h
/-- the seven cells of a block, one by one -/
theorem Sev.cells {w : World} {b : Nat} {f : Nat → Nat} (h : Sev w b f) : w.cell? ⟨b, 0, none⟩ = some (.int .u64 (f 0 : Nat)) ∧ w.cell? ⟨b, 1, none⟩ = some (.int .u64 (f 1 : Nat)) ∧ w.cell? ⟨b, 2, none⟩ = some (.int .u64 (f 2 : Nat)) ∧ w.cell? ⟨b, 3, none⟩ = some (.int .u64 (f 3 : Nat)) ∧ w.cell? ⟨b, 4, none⟩ = some (.int .u64 (f 4 : Nat)) ∧ w.cell? ⟨b, 5, none⟩ = some (.int .u64 (f 5 : Nat)) ∧ w.cell? ⟨b, 6, none⟩ = some (.int .u64 (f 6 : Nat)) := ⟨h.cell 0 (by omega), h.cell 1 (by omega), h.cell 2 (by omega), h.cell 3 (by omega), h.cell 4 (by omega), h.cell 5 (by omega), h.cell 6 (by omega)⟩
theorem Sev.frees {w : World} {b : Nat} {f : Nat → Nat} (h : Sev w b f) : w.frozen? ⟨b, 0, none⟩ = false ∧ w.frozen? ⟨b, 1, none⟩ = false ∧ w.frozen? ⟨b, 2, none⟩ = false ∧ w.frozen? ⟨b, 3, none⟩ = false ∧ w.frozen? ⟨b, 4, none⟩ = false ∧ w.frozen? ⟨b, 5, none⟩ = false ∧ w.frozen? ⟨b, 6, none⟩ = false := ⟨h.free 0, h.free 1, h.free 2, h.free 3, h.free 4, h.free 5, h.free 6⟩
end Go.Proofs.YtigbbepgfofcoaaDoor
