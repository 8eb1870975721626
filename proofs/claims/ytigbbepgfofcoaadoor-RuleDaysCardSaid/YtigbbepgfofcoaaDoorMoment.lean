/- The contract of the function inside moment.written: it puts a number's digits where a letter of the form stands. -/
import Derived.Test.YtigbbepgfofcoaaDoorSpanC
import Derived.OwnWalk
import Derived.Maps.AppendAt
import Derived.RangeFuncBox
namespace Go.Proofs.YtigbbepgfofcoaaDoor
open Go.RowKit

/-- bytes put from the k-th place down: where the form has the letter, the last digit of what is left of n -/
def putG (form : List UInt8) (c : Nat) : Nat → Int → List Int → List Int
  | 0, _, bs => bs
  | k + 1, n, bs => if (form.getD k 0).toNat = c then putG form c k (n / 10) (bs.set k (48 + n % 10)) else putG form c k n bs
theorem putG_length (form : List UInt8) (c : Nat) : ∀ k n bs, (putG form c k n bs).length = bs.length
  | 0, _, _ => rfl
  | k + 1, n, bs => by
    unfold putG
    split
    · rw [putG_length form c k]; simp
    · exact putG_length form c k n bs
def BytesIs (w : World) (B : Nat) (bs : List Int) : Prop := B < w.heap.size ∧ ∀ j, j < bs.length → w.cell? ⟨B, j, none⟩ = some (.int .u8 (bs[j]?.getD 0)) ∧ w.frozen? ⟨B, j, none⟩ = false
theorem BytesIs.set {w : World} {B : Nat} {bs : List Int} (h : BytesIs w B bs) (k : Nat) (hk : k < bs.length) (x : Int) : BytesIs (w.setCell ⟨B, k, none⟩ (.int .u8 x)) B (bs.set k x) := by
  refine ⟨by simpa using h.1, fun j hj => ?_⟩
  have hj' : j < bs.length := by simpa using hj
  obtain ⟨h1, h2⟩ := h.2 j hj'
  refine ⟨?_, by rw [World.frozen?_setCell]; exact h2⟩
  by_cases e : j = k
  · subst e
    rw [World.cell?_setCell_same' _ _ _ (by rw [h1]; rfl)]
    simp [hj']
  · rw [World.cell?_setCell_other _ _ _ _ (by intro he; injection he with _ h3; omega), h1]
    rw [List.getElem?_set_ne (by omega)]
theorem grown_set (W : World) (b i : Nat) (v : Value) : W.grownBy (W.setCell ⟨b, i, none⟩ v) (some b) :=
  ⟨rfl, rfl, rfl, by simp, fun k _ hk => Below.heap_setCell W _ v k (by intro e; exact hk (by rw [e]))⟩
end Go.Proofs.YtigbbepgfofcoaaDoor
