/- The contract of Meet of package span (layer 9): what any spans, at most a thousand, have together. -/
import Derived.Test.YtigbbepgfofcoaaDoorSpanB
import Derived.BigRegion
namespace Go.Proofs.YtigbbepgfofcoaaDoor
open Go.RowKit

theorem blk_lt {w : World} {g : Nat} {o : Obj} (h : w.heap[g]? = some o) : g < w.heap.size := by
  rcases Nat.lt_or_ge g w.heap.size with h1 | h1
  · exact h1
  · rw [Array.getElem?_eq_none h1] at h; cases h
theorem blk_frozen {w : World} {g : Nat} {cs : Array Value} {t : TypeId} (h : w.heap[g]? = some (.cells cs t (0, 0))) (i : Nat) : w.frozen? ⟨g, i, none⟩ = false := by
  simp [World.frozen?, h]
theorem blk_set {w : World} {g : Nat} {cs : Array Value} {t : TypeId} (h : w.heap[g]? = some (.cells cs t (0, 0))) (i : Nat) (u : Value) : (w.setCell ⟨g, i, none⟩ u).heap[g]? = some (.cells (cs.setIfInBounds i u) t (0, 0)) := by
  simp [World.setCell, Array.getElem?_modify, h]
theorem blk_far {w : World} {g : Nat} {o : Obj} (h : w.heap[g]? = some o) (p : Addr) (hp : g ≠ p.block) (u : Value) : (w.setCell p u).heap[g]? = some o := (Below.heap_setCell w p u g hp).trans h
theorem blk_alloc {w : World} {g : Nat} {o : Obj} (h : w.heap[g]? = some o) (o' : Obj) : (w.alloc o').heap[g]? = some o := (Below.heap_alloc w o' g (blk_lt h)).trans h

def Spans (w : World) (A : Option Addr) (l : List (Int × Int)) : Prop := ∀ j, j < l.length → ∃ b off, A = some ⟨b, off, none⟩ ∧ b < w.heap.size ∧ w.cell? ⟨b, off + j * 2, none⟩ = some (.int .i64 (l[j]?.getD (0, 0)).1) ∧ w.cell? ⟨b, off + j * 2 + 1, none⟩ = some (.int .i64 (l[j]?.getD (0, 0)).2)
def mF (l : List (Int × Int)) : Int := l.foldl (fun F p => if F < p.1 then p.1 else F) 0
def mU (l : List (Int × Int)) : Int := l.foldl (fun U p => if p.2 < U then p.2 else U) 12622780799
theorem mF_step (l : List (Int × Int)) (k : Nat) (hk : k < l.length) : mF (l.take (k + 1)) = if mF (l.take k) < (l[k]?.getD (0, 0)).1 then (l[k]?.getD (0, 0)).1 else mF (l.take k) := by
  unfold mF
  rw [List.take_add_one, List.foldl_append]
  simp [List.getElem?_eq_getElem hk]
theorem mU_step (l : List (Int × Int)) (k : Nat) (hk : k < l.length) : mU (l.take (k + 1)) = if (l[k]?.getD (0, 0)).2 < mU (l.take k) then (l[k]?.getD (0, 0)).2 else mU (l.take k) := by
  unfold mU
  rw [List.take_add_one, List.foldl_append]
  simp [List.getElem?_eq_getElem hk]
/-- what a round of Meet keeps: the span so far, and the block of the result -/
def MeetAt (w wr : World) (F U : Int) : Prop := Below w.heap.size w wr ∧ wr.heap[w.heap.size + 1 + 1]? = some (.cells #[.int .i64 F, .int .i64 U] 56 (0, 0)) ∧ wr.heap[w.heap.size]? = some (.cells #[.int .i64 0, .int .i64 0] 56 (0, 0))
theorem MeetAt.keep {w wr : World} {F U : Int} (h : MeetAt w wr F U) (x y : Int) (o : Obj) : MeetAt w (((wr.setCell ⟨w.heap.size + 1 + 1, 0, none⟩ (.int .i64 x)).setCell ⟨w.heap.size + 1 + 1, 1, none⟩ (.int .i64 y)).alloc o).drew x y := by
  obtain ⟨h1, h2, h3⟩ := h
  have hz := blk_lt h2
  refine ⟨(((h1.setCell (p := ⟨w.heap.size + 1 + 1, 0, none⟩) (by simp; omega) _).setCell (p := ⟨w.heap.size + 1 + 1, 1, none⟩) (by simp; omega) _).alloc (by simp; omega) o).drew, ?_, ?_⟩
  · exact blk_alloc (blk_set (blk_set h2 0 _) 1 _) o
  · exact blk_alloc (blk_far (blk_far h3 _ (by simp; omega) _) _ (by simp; omega) _) o
theorem MeetAt.start (w : World) : MeetAt w (((w.alloc (.cells #[.int .i64 0, .int .i64 0] 56)).alloc (.cells #[.int .i64 0, .int .i64 12622780799] 56)).alloc (.cells #[.int .i64 0, .int .i64 12622780799] 56)) 0 12622780799 := by
  refine ⟨below_a3 _ _ _ _, ?_, ?_⟩
  · have h := heap_alloc_new ((w.alloc (.cells #[.int .i64 0, .int .i64 0] 56)).alloc (.cells #[.int .i64 0, .int .i64 12622780799] 56)) (.cells #[.int .i64 0, .int .i64 12622780799] 56)
    rw [show ((w.alloc (.cells #[.int .i64 0, .int .i64 0] 56)).alloc (.cells #[.int .i64 0, .int .i64 12622780799] 56)).heap.size = w.heap.size + 1 + 1 by simp] at h
    exact h
  · exact blk_alloc (blk_alloc (heap_alloc_new w _) _) _
theorem held_eq {F U f u : Int} {v : Value} (h1 : F = f) (h2 : U = u) (h : heldV F U = v) : heldV f u = v := by rw [← h1, ← h2]; exact h
end Go.Proofs.YtigbbepgfofcoaaDoor
