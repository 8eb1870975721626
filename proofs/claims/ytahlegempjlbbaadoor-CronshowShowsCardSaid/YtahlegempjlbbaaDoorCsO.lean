/- How a law's argument that is a line is read, with the numbers' size. -/
import Derived.Test.YtahlegempjlbbaaDoorCrO
import Derived.Test.YtahlegempjlbbaaDoorCsQ
namespace Go.Proofs.YtahlegempjlbbaaDoor
open Go.ChangeShapes Go.WideShapes Go.ChangeAt Go.RowKit Go.Joins Go.Deep
set_option linter.unusedVariables false

theorem open_cronI {H : Type} {enc : TypeId × Value → H} {P : Program} {w : World} {base b0 : Nat} {r : Reach} {sp : Nat → Bool} {held : Bool} {t e : TypeId} {f0 f1 f2 f3 : Field} {g0 g1 g2 g3 g4 : Field} {v : Value} {d : DataW H} {ps : List MemPlace}
    (hs : P.underlying t = some (.struct #[g0, g1, g2, g3, g4])) (hone : oneCellFields P #[g0, g1, g2, g3, g4] = true) (hC : P.cellsOf t = 5) (s0 : P.underlying g0.type = some (.slice e)) (s1 : P.underlying g1.type = some (.slice e)) (s2 : P.underlying g2.type = some (.slice e)) (s3 : P.underlying g3.type = some (.slice e)) (s4 : P.underlying g4.type = some (.slice e))
    (he : P.underlying e = some (.struct #[f0, f1, f2, f3])) (hone2 : oneCellFields P #[f0, f1, f2, f3] = true) (ce : P.cellsOf e = 4)
    (u0 : P.underlying f0.type = some (.int .i64)) (u1 : P.underlying f1.type = some (.int .i64)) (u2 : P.underlying f2.type = some (.int .i64)) (u3 : P.underlying f3.type = some (.int .i64))
    (hval : Value.okWide P w r b0 t v) (h : DataW.Trod enc P w base sp held t v d ps) : ∃ (A : Nat → Option Addr) (c : Nat → Nat) (L : Nat → List Q4), v = vCr A c L ∧ Lists 5 w A c L ∧ ∀ f, f < 5 → ∀ k, k < (L f).length → Q4In (nthQ (L f) k) := by
  obtain ⟨cs, rfl, hsz⟩ := okWide_struct hs hval
  obtain ⟨c0, c1, c2, c3, c4, rfl⟩ := array5 (hsz.trans hC)
  obtain ⟨fuel, hf⟩ := h
  obtain ⟨xs, n, _, _, _, hlen, hg⟩ := DataW.trod_struct hs hf
  match xs, hlen with
  | [y0, y1, y2, y3, y4], _ =>
    obtain ⟨o0, k0⟩ := hone_of hone 0 g0 rfl
    have t0 : DataW.trod enc P w base sp held n g0.type [c0] = some y0 := by simpa [Value.cells, o0, k0] using hg 0 g0 rfl
    obtain ⟨A0, n0, l0, rfl, hi0, hz0, hA0, _⟩ := open_itemsI s0 he hone2 ce u0 u1 u2 u3 t0
    obtain ⟨o1, k1⟩ := hone_of hone 1 g1 rfl
    have t1 : DataW.trod enc P w base sp held n g1.type [c1] = some y1 := by simpa [Value.cells, o1, k1] using hg 1 g1 rfl
    obtain ⟨A1, n1, l1, rfl, hi1, hz1, hA1, _⟩ := open_itemsI s1 he hone2 ce u0 u1 u2 u3 t1
    obtain ⟨o2, k2⟩ := hone_of hone 2 g2 rfl
    have t2 : DataW.trod enc P w base sp held n g2.type [c2] = some y2 := by simpa [Value.cells, o2, k2] using hg 2 g2 rfl
    obtain ⟨A2, n2, l2, rfl, hi2, hz2, hA2, _⟩ := open_itemsI s2 he hone2 ce u0 u1 u2 u3 t2
    obtain ⟨o3, k3⟩ := hone_of hone 3 g3 rfl
    have t3 : DataW.trod enc P w base sp held n g3.type [c3] = some y3 := by simpa [Value.cells, o3, k3] using hg 3 g3 rfl
    obtain ⟨A3, n3, l3, rfl, hi3, hz3, hA3, _⟩ := open_itemsI s3 he hone2 ce u0 u1 u2 u3 t3
    obtain ⟨o4, k4⟩ := hone_of hone 4 g4 rfl
    have t4 : DataW.trod enc P w base sp held n g4.type [c4] = some y4 := by simpa [Value.cells, o4, k4] using hg 4 g4 rfl
    obtain ⟨A4, n4, l4, rfl, hi4, hz4, hA4, _⟩ := open_itemsI s4 he hone2 ce u0 u1 u2 u3 t4
    refine ⟨(fun | 0 => A0 | 1 => A1 | 2 => A2 | 3 => A3 | 4 => A4 | _ => none), (fun | 0 => n0 | 1 => n1 | 2 => n2 | 3 => n3 | 4 => n4 | _ => 0), (fun | 0 => l0 | 1 => l1 | 2 => l2 | 3 => l3 | 4 => l4 | _ => []), rfl, (fun i hi => ?_), (fun f hf => ?_)⟩
    rotate_left
    · match f, hf with
      | 0, _ => exact hz0
      | 1, _ => exact hz1
      | 2, _ => exact hz2
      | 3, _ => exact hz3
      | 4, _ => exact hz4
    match i, hi with
    | 0, _ => exact ⟨hi0, hA0⟩
    | 1, _ => exact ⟨hi1, hA1⟩
    | 2, _ => exact ⟨hi2, hA2⟩
    | 3, _ => exact ⟨hi3, hA3⟩
    | 4, _ => exact ⟨hi4, hA4⟩
end Go.Proofs.YtahlegempjlbbaaDoor
