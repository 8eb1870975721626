/- How a law's argument that is a struct of fields of items is read (cal); nothing of the program's functions is spoken of. -/
import Derived.Test.YtjgifiaokmmjfaaDoorClA
import Derived.Test.YtjgifiaokmmjfaaDoorOpen
import Derived.Lib.SmallJoins
import Derived.Deep.SlicePairs
import Derived.Test.YtjgifiaokmmjfaaDoorCrO
namespace Go.Proofs.YtjgifiaokmmjfaaDoor
open Go.ChangeShapes Go.WideShapes Go.ChangeAt Go.RowKit Go.Joins Go.Deep
set_option linter.unusedVariables false

theorem array8 {α : Type} {cs : Array α} (h : cs.size = 8) : ∃ c0 c1 c2 c3 c4 c5 c6 c7, cs = #[c0, c1, c2, c3, c4, c5, c6, c7] := by
  obtain ⟨l⟩ := cs
  match l, h with
  | [c0, c1, c2, c3, c4, c5, c6, c7], _ => exact ⟨c0, c1, c2, c3, c4, c5, c6, c7, rfl⟩
theorem open_cal {H : Type} {enc : TypeId × Value → H} {P : Program} {w : World} {base b0 : Nat} {r : Reach} {sp : Nat → Bool} {held : Bool} {t e : TypeId} {f0 f1 f2 f3 : Field} {g0 g1 g2 g3 g4 g5 g6 g7 : Field} {v : Value} {d : DataW H} {ps : List MemPlace}
    (hs : P.underlying t = some (.struct #[g0, g1, g2, g3, g4, g5, g6, g7])) (hone : oneCellFields P #[g0, g1, g2, g3, g4, g5, g6, g7] = true) (hC : P.cellsOf t = 8) (s0 : P.underlying g0.type = some (.slice e)) (s1 : P.underlying g1.type = some (.slice e)) (s2 : P.underlying g2.type = some (.slice e)) (s3 : P.underlying g3.type = some (.slice e)) (s4 : P.underlying g4.type = some .bool) (s5 : P.underlying g5.type = some (.slice e)) (s6 : P.underlying g6.type = some (.slice e)) (s7 : P.underlying g7.type = some (.slice e))
    (he : P.underlying e = some (.struct #[f0, f1, f2, f3])) (hone2 : oneCellFields P #[f0, f1, f2, f3] = true) (ce : P.cellsOf e = 4)
    (u0 : P.underlying f0.type = some (.int .i64)) (u1 : P.underlying f1.type = some (.int .i64)) (u2 : P.underlying f2.type = some (.int .i64)) (u3 : P.underlying f3.type = some (.int .i64))
    (hval : Value.okWide P w r b0 t v) (h : DataW.Trod enc P w base sp held t v d ps) : ∃ (bk : Bool) (A : Nat → Option Addr) (c : Nat → Nat) (L : Nat → List Q4), v = vCl bk A c L ∧ Lists 7 w A c L := by
  obtain ⟨cs, rfl, hsz⟩ := okWide_struct hs hval
  obtain ⟨c0, c1, c2, c3, c4, c5, c6, c7, rfl⟩ := array8 (hsz.trans hC)
  obtain ⟨fuel, hf⟩ := h
  obtain ⟨xs, n, _, _, _, hlen, hg⟩ := DataW.trod_struct hs hf
  match xs, hlen with
  | [y0, y1, y2, y3, y4, y5, y6, y7], _ =>
    obtain ⟨o0, k0⟩ := hone_of hone 0 g0 rfl
    have t0 : DataW.trod enc P w base sp held n g0.type [c0] = some y0 := by simpa [Value.cells, o0, k0] using hg 0 g0 rfl
    obtain ⟨A0, n0, l0, rfl, hi0, hA0, _⟩ := open_items s0 he hone2 ce u0 u1 u2 u3 t0
    obtain ⟨o1, k1⟩ := hone_of hone 1 g1 rfl
    have t1 : DataW.trod enc P w base sp held n g1.type [c1] = some y1 := by simpa [Value.cells, o1, k1] using hg 1 g1 rfl
    obtain ⟨A1, n1, l1, rfl, hi1, hA1, _⟩ := open_items s1 he hone2 ce u0 u1 u2 u3 t1
    obtain ⟨o2, k2⟩ := hone_of hone 2 g2 rfl
    have t2 : DataW.trod enc P w base sp held n g2.type [c2] = some y2 := by simpa [Value.cells, o2, k2] using hg 2 g2 rfl
    obtain ⟨A2, n2, l2, rfl, hi2, hA2, _⟩ := open_items s2 he hone2 ce u0 u1 u2 u3 t2
    obtain ⟨o3, k3⟩ := hone_of hone 3 g3 rfl
    have t3 : DataW.trod enc P w base sp held n g3.type [c3] = some y3 := by simpa [Value.cells, o3, k3] using hg 3 g3 rfl
    obtain ⟨A3, n3, l3, rfl, hi3, hA3, _⟩ := open_items s3 he hone2 ce u0 u1 u2 u3 t3
    obtain ⟨o4, k4⟩ := hone_of hone 4 g4 rfl
    have t4 : DataW.trod enc P w base sp held n g4.type [c4] = some y4 := by simpa [Value.cells, o4, k4] using hg 4 g4 rfl
    obtain ⟨bk, eb, _⟩ := DataW.trod_bool s4 t4
    simp at eb
    subst eb
    obtain ⟨o5, k5⟩ := hone_of hone 5 g5 rfl
    have t5 : DataW.trod enc P w base sp held n g5.type [c5] = some y5 := by simpa [Value.cells, o5, k5] using hg 5 g5 rfl
    obtain ⟨A4, n4, l4, rfl, hi4, hA4, _⟩ := open_items s5 he hone2 ce u0 u1 u2 u3 t5
    obtain ⟨o6, k6⟩ := hone_of hone 6 g6 rfl
    have t6 : DataW.trod enc P w base sp held n g6.type [c6] = some y6 := by simpa [Value.cells, o6, k6] using hg 6 g6 rfl
    obtain ⟨A5, n5, l5, rfl, hi5, hA5, _⟩ := open_items s6 he hone2 ce u0 u1 u2 u3 t6
    obtain ⟨o7, k7⟩ := hone_of hone 7 g7 rfl
    have t7 : DataW.trod enc P w base sp held n g7.type [c7] = some y7 := by simpa [Value.cells, o7, k7] using hg 7 g7 rfl
    obtain ⟨A6, n6, l6, rfl, hi6, hA6, _⟩ := open_items s7 he hone2 ce u0 u1 u2 u3 t7
    refine ⟨bk, (fun | 0 => A0 | 1 => A1 | 2 => A2 | 3 => A3 | 4 => A4 | 5 => A5 | 6 => A6 | _ => none), (fun | 0 => n0 | 1 => n1 | 2 => n2 | 3 => n3 | 4 => n4 | 5 => n5 | 6 => n6 | _ => 0), (fun | 0 => l0 | 1 => l1 | 2 => l2 | 3 => l3 | 4 => l4 | 5 => l5 | 6 => l6 | _ => []), rfl, fun i hi => ?_⟩
    match i, hi with
    | 0, _ => exact ⟨hi0, hA0⟩
    | 1, _ => exact ⟨hi1, hA1⟩
    | 2, _ => exact ⟨hi2, hA2⟩
    | 3, _ => exact ⟨hi3, hA3⟩
    | 4, _ => exact ⟨hi4, hA4⟩
    | 5, _ => exact ⟨hi5, hA5⟩
    | 6, _ => exact ⟨hi6, hA6⟩
end Go.Proofs.YtjgifiaokmmjfaaDoor
