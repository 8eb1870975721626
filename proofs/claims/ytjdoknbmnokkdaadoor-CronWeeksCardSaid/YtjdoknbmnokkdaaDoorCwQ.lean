/- How a law's argument that is a slice of items is read (beside the opener of a line). -/
import Derived.Test.YtjdoknbmnokkdaaDoorCrO
namespace Go.Proofs.YtjdoknbmnokkdaaDoor
open Go.ChangeShapes Go.WideShapes Go.ChangeAt Go.RowKit Go.Joins Go.Deep
set_option linter.unusedVariables false

theorem open_itemsv {H : Type} {enc : TypeId × Value → H} {P : Program} {w : World} {base : Nat} {sp : Nat → Bool} {held : Bool} {t e : TypeId} {f0 f1 f2 f3 : Field} {A : Option Addr} {n c : Nat} {d : DataW H} {ps : List MemPlace}
    (ht : P.underlying t = some (.slice e)) (he : P.underlying e = some (.struct #[f0, f1, f2, f3])) (hone : oneCellFields P #[f0, f1, f2, f3] = true) (ce : P.cellsOf e = 4)
    (u0 : P.underlying f0.type = some (.int .i64)) (u1 : P.underlying f1.type = some (.int .i64)) (u2 : P.underlying f2.type = some (.int .i64)) (u3 : P.underlying f3.type = some (.int .i64)) (h : DataW.Trod enc P w base sp held t (.slice A n c) d ps) :
    ∃ l : List Q4, n = l.length ∧ ItemsAt w A l := by
  obtain ⟨fuel, hf⟩ := h
  have hf' : DataW.trod enc P w base sp held fuel t [.slice A n c] = some (d, ps) := by simpa [Value.cells] using hf
  obtain ⟨A', c', l, hv, hi, _, _⟩ := open_items ht he hone ce u0 u1 u2 u3 hf'
  injection hv with h1 h2 h3
  subst h1
  exact ⟨l, h2, hi⟩
end Go.Proofs.YtjdoknbmnokkdaaDoor
