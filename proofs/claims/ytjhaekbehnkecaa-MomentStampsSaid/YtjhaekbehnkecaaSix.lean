/- How a law's argument that is a struct of six ints is read; nothing of the program is spoken of. -/
import Derived.Test.YtjhaekbehnkecaaOpen
import Derived.Lib.SmallJoins
namespace Go.Proofs.Ytjhaekbehnkecaa
open Go.ChangeShapes Go.WideShapes Go.ChangeAt Go.RowKit Go.Joins Go.Deep

theorem array6 {α : Type} {cs : Array α} (h : cs.size = 6) : ∃ c0 c1 c2 c3 c4 c5, cs = #[c0, c1, c2, c3, c4, c5] := by
  obtain ⟨l⟩ := cs
  match l, h with
  | [c0, c1, c2, c3, c4, c5], _ => exact ⟨c0, c1, c2, c3, c4, c5, rfl⟩
theorem open_six {H : Type} {enc : TypeId × Value → H} {P : Program} {w : World} {base b0 : Nat} {r : Reach} {sp : Nat → Bool} {held : Bool} {t : TypeId} {f0 f1 f2 f3 f4 f5 : Field} {v : Value} {d : DataW H} {ps : List MemPlace}
    (hs : P.underlying t = some (.struct #[f0, f1, f2, f3, f4, f5])) (hone : oneCellFields P #[f0, f1, f2, f3, f4, f5] = true) (hC : P.cellsOf t = 6) (h0 : P.underlying f0.type = some (.int .i64)) (h1 : P.underlying f1.type = some (.int .i64)) (h2 : P.underlying f2.type = some (.int .i64)) (h3 : P.underlying f3.type = some (.int .i64)) (h4 : P.underlying f4.type = some (.int .i64)) (h5 : P.underlying f5.type = some (.int .i64))
    (hval : Value.okWide P w r b0 t v) (h : DataW.Trod enc P w base sp held t v d ps) :
    ∃ a0 a1 a2 a3 a4 a5 : Int, v = .agg #[.int .i64 a0, .int .i64 a1, .int .i64 a2, .int .i64 a3, .int .i64 a4, .int .i64 a5] := by
  obtain ⟨cs, rfl, hsz⟩ := okWide_struct hs hval
  obtain ⟨c0, c1, c2, c3, c4, c5, rfl⟩ := array6 (hsz.trans hC)
  obtain ⟨fuel, hf⟩ := h
  obtain ⟨xs, n, _, _, _, hlen, hg⟩ := DataW.trod_struct hs hf
  match xs, hlen with
  | [y0, y1, y2, y3, y4, y5], _ =>
    obtain ⟨o0, k0⟩ := hone_of hone 0 f0 rfl
    have t0 : DataW.trod enc P w base sp held n f0.type [c0] = some y0 := by simpa [Value.cells, o0, k0] using hg 0 f0 rfl
    obtain ⟨a0, ea0, _, _⟩ := DataW.trod_int h0 t0
    obtain ⟨o1, k1⟩ := hone_of hone 1 f1 rfl
    have t1 : DataW.trod enc P w base sp held n f1.type [c1] = some y1 := by simpa [Value.cells, o1, k1] using hg 1 f1 rfl
    obtain ⟨a1, ea1, _, _⟩ := DataW.trod_int h1 t1
    obtain ⟨o2, k2⟩ := hone_of hone 2 f2 rfl
    have t2 : DataW.trod enc P w base sp held n f2.type [c2] = some y2 := by simpa [Value.cells, o2, k2] using hg 2 f2 rfl
    obtain ⟨a2, ea2, _, _⟩ := DataW.trod_int h2 t2
    obtain ⟨o3, k3⟩ := hone_of hone 3 f3 rfl
    have t3 : DataW.trod enc P w base sp held n f3.type [c3] = some y3 := by simpa [Value.cells, o3, k3] using hg 3 f3 rfl
    obtain ⟨a3, ea3, _, _⟩ := DataW.trod_int h3 t3
    obtain ⟨o4, k4⟩ := hone_of hone 4 f4 rfl
    have t4 : DataW.trod enc P w base sp held n f4.type [c4] = some y4 := by simpa [Value.cells, o4, k4] using hg 4 f4 rfl
    obtain ⟨a4, ea4, _, _⟩ := DataW.trod_int h4 t4
    obtain ⟨o5, k5⟩ := hone_of hone 5 f5 rfl
    have t5 : DataW.trod enc P w base sp held n f5.type [c5] = some y5 := by simpa [Value.cells, o5, k5] using hg 5 f5 rfl
    obtain ⟨a5, ea5, _, _⟩ := DataW.trod_int h5 t5
    simp at ea0 ea1 ea2 ea3 ea4 ea5
    subst ea0 ea1 ea2 ea3 ea4 ea5
    exact ⟨a0, a1, a2, a3, a4, a5, rfl⟩
end Go.Proofs.Ytjhaekbehnkecaa
