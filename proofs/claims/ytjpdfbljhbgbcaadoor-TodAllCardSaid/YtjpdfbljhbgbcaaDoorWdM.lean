/- What is kept while a set's iterator runs: the list in its box, the marks of the loops, the rest (layer 4). -/
import Derived.Test.YtjpdfbljhbgbcaaDoorWdL
import Derived.WalkMore
namespace Go.Proofs.YtjpdfbljhbgbcaaDoor
open Go.RowKit Go.Shelf
set_option linter.unusedVariables false

theorem wpIn_scope_wide {P : Program} {n : Nat} {c : Code} {Q : Exit → Act → World → Prop} {a : Act} {w : World} (h : c.wpIn Fence.wide n P (Exit.noGoto Q) a w) : (Code.scope c).wpIn Fence.wide n P Q a w :=
  wpIn_wide.2 (wp_scope_straight (wpIn_wide.1 h))
theorem numsP_app (p : Nat → Bool) (a : Nat) : ∀ n, numsP p (a + n) = numsP p a ++ (numsP (fun i => p (a + i)) n).map fun x => (a : Int) + x
  | 0 => by simp [numsP]
  | n + 1 => by
    rw [show a + (n + 1) = (a + n) + 1 by omega]
    cases h : p (a + n)
    · rw [numsP_no p _ h, numsP_no (fun i => p (a + i)) n h, numsP_app p a n]
    · rw [numsP_yes p _ h, numsP_yes (fun i => p (a + i)) n h, numsP_app p a n, List.map_append, List.append_assoc]
      simp
theorem word_list (Q : Nat → Bool) (j : Nat) (hj : j < 7) : numsP Q (64 * (j + 1)) = numsP Q (64 * j) ++ (numsP (wv Q j).testBit 64).map fun x => wrap64 (64 * (j : Int) + x) := by
  rw [show 64 * (j + 1) = 64 * j + 64 by omega, numsP_app]
  congr 1
  rw [numsP_congr 64 fun i hi => show Q (64 * j + i) = (wv Q j).testBit i by rw [wv_test, dec_t hi]; simp]
  apply List.map_congr_left
  intro x hx
  obtain ⟨i, hi, _, rfl⟩ := mem_numsP.1 hx
  rw [IntWalk.wrap64_in _ ⟨by omega, by omega⟩]
  omega
/-- the marks of the loops over functions that have ended -/
def Marks (lo : Nat) : Nat → List Deferred → World → Prop
  | _, [], _ => True
  | hi, d :: ds, W => ∃ D, d = { target := .collected D, args := #[] } ∧ lo ≤ D ∧ D < hi ∧ W.heap[D]? = some (.deferred (some [])) ∧ Marks lo D ds W
theorem Marks.keep {lo : Nat} {W W' : World} (hk : ∀ D, lo ≤ D → W.heap[D]? = some (.deferred (some [])) → W'.heap[D]? = some (.deferred (some []))) : ∀ {ds hi}, Marks lo hi ds W → Marks lo hi ds W'
  | [], _, _ => trivial
  | _ :: _, _, ⟨D, h1, h2, h3, h4, h5⟩ => ⟨D, h1, h2, h3, hk D h2 h4, Marks.keep hk h5⟩
theorem Marks.upto {lo : Nat} {W W' : World} : ∀ {ds hi}, Marks lo hi ds W → (∀ D, D < hi → W'.heap[D]? = W.heap[D]?) → Marks lo hi ds W'
  | [], _, _, _ => trivial
  | _ :: _, hi, ⟨D, h1, h2, h3, h4, h5⟩, hk => ⟨D, h1, h2, h3, (hk D h3).trans h4, h5.upto fun D' h => hk D' (by omega)⟩
theorem Marks.wide {lo : Nat} {W : World} : ∀ {ds hi hi'}, Marks lo hi ds W → hi ≤ hi' → Marks lo hi' ds W
  | [], _, _, _, _ => trivial
  | _ :: _, _, _, ⟨D, h1, h2, h3, h4, h5⟩, h => ⟨D, h1, h2, by omega, h4, h5⟩
/-- what holds while the iterator runs -/
def Core (Fv : Value) (w : World) (g : Nat) (v : Value) (zs : List Int) (hi : Nat) (ds : List Deferred) (W : World) : Prop :=
  W.heap[g]? = some (.cells #[v] 26 (0, 0)) ∧ OwnI W (w.heap.size + 1) v zs ∧ W.heap[w.heap.size]? = some (.cells #[Fv] 31 (0, 0)) ∧ But (fun k => k = g) w W ∧ Marks w.heap.size hi ds W
theorem cells_kept {W W' : World} {row : Option Nat} {k : Nat} {cs : Array Value} {t : TypeId} {z : Nat × Nat} (h : W.heap[k]? = some (.cells cs t z)) (hg : W.grownBy W' row) (hr : ∀ r, row = some r → ∃ o : Obj, W.heap[r]? = some o ∧ o.isCells = false) : W'.heap[k]? = some (.cells cs t z) := by
  rw [hg.block k (lt_of_block h) (fun e => by
    obtain ⟨o, h1, h2⟩ := hr k e.symm
    rw [h] at h1; cases h1; cases h2)]
  exact h
theorem own_kept {W W' : World} {row : Option Nat} {B : Nat} {v : Value} {zs : List Int} (h : OwnI W B v zs) (hg : W.grownBy W' row) (hr : ∀ r, row = some r → ∃ o : Obj, W.heap[r]? = some o ∧ o.isCells = false) : OwnI W' B v zs := by
  refine World.ownsRow.kept h hg ?_
  cases e : v.ownBlock with
  | none => exact .inl rfl
  | some k =>
    refine .inr fun q => ?_
    obtain ⟨o, h1, h2⟩ := hr k q.symm
    obtain ⟨o', h3, h4⟩ := row_cells h e
    rw [h1] at h3; cases h3; rw [h2] at h4; cases h4
theorem Core.kept {Fv : Value} {w : World} {g : Nat} {v : Value} {zs : List Int} {hi B : Nat} {ds : List Deferred} {W W' : World} {row : Option Nat} (h : Core Fv w g v zs hi ds W) (hB : hi ≤ B) (hw : w.heap.size ≤ B) (hW : hi ≤ W.heap.size) (hg : W.grownBy W' row) (hr : ∀ r, row = some r → B ≤ r ∧ ∃ o : Obj, W.heap[r]? = some o ∧ o.isCells = false) : Core Fv w g v zs hi ds W' := by
  obtain ⟨h1, h2, h3, h4, h5⟩ := h
  have hr' := fun r e => (hr r e).2
  refine ⟨cells_kept h1 hg hr', own_kept h2 hg hr', cells_kept h3 hg hr', ⟨hg.os.trans h4.os, hg.tape.trans h4.tape, hg.output.trans h4.output, Nat.le_trans h4.size hg.size, fun k hk hx => ?_⟩, h5.upto fun D hD => hg.block D (by omega) (fun e => by have := (hr D e.symm).1; omega)⟩
  rw [hg.block k (Nat.lt_of_lt_of_le hk h4.size) (fun e => by have := (hr k e.symm).1; omega)]
  exact h4.block k hk hx
theorem Core.grew {Fv : Value} {w : World} {g : Nat} {v v' : Value} {zs : List Int} {x : Int} {hi : Nat} {ds : List Deferred} {W W' : World} (h : Core Fv w g v zs hi ds W) (hgw : g < w.heap.size) (hg : W'.heap[g]? = some (.cells #[v'] 26 (0, 0))) (ho : OwnI W' (w.heap.size + 1) v' (zs ++ [x])) (hG : Grew W g v W' v') : Core Fv w g v' (zs ++ [x]) hi ds W' := by
  obtain ⟨h1, h2, h3, h4, h5⟩ := h
  have hrow := fun k hk => own_block h2 k hk
  refine ⟨hg, ho, hG.1.blk h3 (fun hx => by
    rcases hx with e | e
    · omega
    · have := hrow _ e; omega), ⟨hG.1.os.trans h4.os, hG.1.tape.trans h4.tape, hG.1.output.trans h4.output, Nat.le_trans h4.size hG.1.size, fun k hk hx => (hG.1.block k (Nat.lt_of_lt_of_le hk h4.size) (fun e => by
    rcases e with e | e
    · exact hx e
    · have := hrow _ e; omega)).trans (h4.block k hk hx)⟩, h5.keep fun D _ hD => ?_⟩
  · rw [hG.1.block D (lt_of_block hD) (fun hx => by
      rcases hx with e | e
      · subst e; rw [h1] at hD; cases hD
      · obtain ⟨o, h6, h7⟩ := row_cells h2 e
        rw [hD] at h6; cases h6; cases h7)]
    exact hD
end Go.Proofs.YtjpdfbljhbgbcaaDoor
