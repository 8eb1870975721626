/- How a law's argument that is a struct of fields of items is read (cron); nothing of the program's functions is spoken of. -/
import Derived.Test.YtahlegempjlbbaaDoorCrA
import Derived.Test.YtahlegempjlbbaaDoorOpen
import Derived.Lib.SmallJoins
import Derived.Deep.SlicePairs
namespace Go.Proofs.YtahlegempjlbbaaDoor
open Go.ChangeShapes Go.WideShapes Go.ChangeAt Go.RowKit Go.Joins Go.Deep
set_option linter.unusedVariables false

theorem open_items {H : Type} {enc : TypeId × Value → H} {P : Program} {w : World} {base : Nat} {sp : Nat → Bool} {held : Bool} {t e : TypeId} {f0 f1 f2 f3 : Field} {v : Value} {fuel : Nat} {x : DataW H × List MemPlace}
    (ht : P.underlying t = some (.slice e)) (he : P.underlying e = some (.struct #[f0, f1, f2, f3])) (hone : oneCellFields P #[f0, f1, f2, f3] = true) (ce : P.cellsOf e = 4)
    (u0 : P.underlying f0.type = some (.int .i64)) (u1 : P.underlying f1.type = some (.int .i64)) (u2 : P.underlying f2.type = some (.int .i64)) (u3 : P.underlying f3.type = some (.int .i64)) (hf : DataW.trod enc P w base sp held fuel t [v] = some x) :
    ∃ (A : Option Addr) (c : Nat) (l : List Q4), v = .slice A l.length c ∧ ItemsAt w A l ∧ (A = none → c = 0) ∧ l.length ≤ c := by
  rcases open_slice ht hf with ⟨hcs, _⟩ | ⟨a, len, cap, m, k, D, Pl, hcs, hb, hl, hm, hmm, _, hx⟩
  · obtain rfl : v = .slice none 0 0 := by simpa using hcs
    exact ⟨none, 0, [], rfl, ItemsAt.nil _ _, fun _ => rfl, Nat.le_refl _⟩
  · obtain rfl : v = .slice (some a) len cap := by simpa using hcs
    have hnm : len ≤ m := by rw [hmm]; split <;> omega
    have each : ∀ i, i < len → ∃ q : Q4, w.cell? (a.add (i * 4)) = some (.int .i64 q.1) ∧ w.cell? (a.add (i * 4 + 1)) = some (.int .i64 q.2.1) ∧ w.cell? (a.add (i * 4 + 2)) = some (.int .i64 q.2.2.1) ∧ w.cell? (a.add (i * 4 + 3)) = some (.int .i64 q.2.2.2) := by
      intro i hi
      obtain ⟨cs', h1, h2⟩ := hx i (by omega)
      rw [ce] at h1
      obtain ⟨_, hlen, hcell⟩ := World.cells?_some h1
      obtain ⟨xs, k', _, _, _, hxl, hg⟩ := DataW.trod_struct he h2
      match xs, hxl, cs', hlen with
      | [y0, y1, y2, y3], _, [v0, v1, v2, v3], _ =>
        have e0 := hcell 0 (by omega)
        have e1 := hcell 1 (by omega)
        have e2 := hcell 2 (by omega)
        have e3 := hcell 3 (by omega)
        rw [add_add] at e0 e1 e2 e3
        obtain ⟨o0, k0⟩ := hone_of hone 0 f0 rfl
        have t0 : DataW.trod enc P w base sp held k' f0.type [v0] = some y0 := by simpa [Value.cells, o0, k0] using hg 0 f0 rfl
        obtain ⟨a0, ea0, _, _⟩ := DataW.trod_int u0 t0
        obtain ⟨o1, k1⟩ := hone_of hone 1 f1 rfl
        have t1 : DataW.trod enc P w base sp held k' f1.type [v1] = some y1 := by simpa [Value.cells, o1, k1] using hg 1 f1 rfl
        obtain ⟨a1, ea1, _, _⟩ := DataW.trod_int u1 t1
        obtain ⟨o2, k2⟩ := hone_of hone 2 f2 rfl
        have t2 : DataW.trod enc P w base sp held k' f2.type [v2] = some y2 := by simpa [Value.cells, o2, k2] using hg 2 f2 rfl
        obtain ⟨a2, ea2, _, _⟩ := DataW.trod_int u2 t2
        obtain ⟨o3, k3⟩ := hone_of hone 3 f3 rfl
        have t3 : DataW.trod enc P w base sp held k' f3.type [v3] = some y3 := by simpa [Value.cells, o3, k3] using hg 3 f3 rfl
        obtain ⟨a3, ea3, _, _⟩ := DataW.trod_int u3 t3
        simp at ea0 ea1 ea2 ea3
        subst ea0 ea1 ea2 ea3
        exact ⟨(a0, a1, a2, a3), by simpa using e0, by simpa using e1, by simpa using e2, by simpa using e3⟩
    obtain ⟨q, hq⟩ := choose_lt each
    have hn : ∀ k, k < len → nthQ ((List.range len).map q) k = q k := fun k hk => by simp [nthQ, hk]
    refine ⟨some a, cap, (List.range len).map q, by simp, ?_, (fun h => by cases h), by simpa using hl⟩
    intro j hj
    have hjn : j < len := by simpa using hj
    obtain ⟨h0, h1, h2, h3⟩ := hq j hjn
    obtain ⟨b, off, spot⟩ := a
    have hspot : spot = none := by
      have := (hq 0 (by omega)).1
      simpa [Addr.add] using World.cell?_spot this
    subst hspot
    rw [add_plain] at h0 h1 h2 h3
    rw [hn j hjn]
    exact ⟨b, off, rfl, cell_lt h0, h0, h1, h2, h3⟩
theorem array5 {α : Type} {cs : Array α} (h : cs.size = 5) : ∃ c0 c1 c2 c3 c4, cs = #[c0, c1, c2, c3, c4] := by
  obtain ⟨l⟩ := cs
  match l, h with
  | [c0, c1, c2, c3, c4], _ => exact ⟨c0, c1, c2, c3, c4, rfl⟩
theorem open_cron {H : Type} {enc : TypeId × Value → H} {P : Program} {w : World} {base b0 : Nat} {r : Reach} {sp : Nat → Bool} {held : Bool} {t e : TypeId} {f0 f1 f2 f3 : Field} {g0 g1 g2 g3 g4 : Field} {v : Value} {d : DataW H} {ps : List MemPlace}
    (hs : P.underlying t = some (.struct #[g0, g1, g2, g3, g4])) (hone : oneCellFields P #[g0, g1, g2, g3, g4] = true) (hC : P.cellsOf t = 5) (s0 : P.underlying g0.type = some (.slice e)) (s1 : P.underlying g1.type = some (.slice e)) (s2 : P.underlying g2.type = some (.slice e)) (s3 : P.underlying g3.type = some (.slice e)) (s4 : P.underlying g4.type = some (.slice e))
    (he : P.underlying e = some (.struct #[f0, f1, f2, f3])) (hone2 : oneCellFields P #[f0, f1, f2, f3] = true) (ce : P.cellsOf e = 4)
    (u0 : P.underlying f0.type = some (.int .i64)) (u1 : P.underlying f1.type = some (.int .i64)) (u2 : P.underlying f2.type = some (.int .i64)) (u3 : P.underlying f3.type = some (.int .i64))
    (hval : Value.okWide P w r b0 t v) (h : DataW.Trod enc P w base sp held t v d ps) : ∃ (A : Nat → Option Addr) (c : Nat → Nat) (L : Nat → List Q4), v = vCr A c L ∧ Lists 5 w A c L := by
  obtain ⟨cs, rfl, hsz⟩ := okWide_struct hs hval
  obtain ⟨c0, c1, c2, c3, c4, rfl⟩ := array5 (hsz.trans hC)
  obtain ⟨fuel, hf⟩ := h
  obtain ⟨xs, n, _, _, _, hlen, hg⟩ := DataW.trod_struct hs hf
  match xs, hlen with
  | [y0, y1, y2, y3, y4], _ =>
    obtain ⟨o0, k0⟩ := hone_of hone 0 g0 rfl
    have t0 : DataW.trod enc P w base sp held n g0.type [c0] = some y0 := by simpa [Value.cells, o0, k0] using hg 0 g0 rfl
    obtain ⟨A0, n0, l0, rfl, hi0, hA0, _⟩ := open_items s0 he hone2 ce u0 u1 u2 u3 t0
    obtain ⟨o1, k1⟩ := hone_of hone 1 g1 rfl
    have t1 : DataW.trod enc P w base sp held n g1.type [c1] = some y1 := by simpa [Value.cells, o1, k1] using hg 1 g1 rfl
    obtain ⟨A1, n1, l1, rfl, hi1, hA1, _⟩ := open_items s1 he hone2 ce u0 u1 u2 u3 t1
    obtain ⟨o2, k2⟩ := hone_of hone 2 g2 rfl
    have t2 : DataW.trod enc P w base sp held n g2.type [c2] = some y2 := by simpa [Value.cells, o2, k2] using hg 2 g2 rfl
    obtain ⟨A2, n2, l2, rfl, hi2, hA2, _⟩ := open_items s2 he hone2 ce u0 u1 u2 u3 t2
    obtain ⟨o3, k3⟩ := hone_of hone 3 g3 rfl
    have t3 : DataW.trod enc P w base sp held n g3.type [c3] = some y3 := by simpa [Value.cells, o3, k3] using hg 3 g3 rfl
    obtain ⟨A3, n3, l3, rfl, hi3, hA3, _⟩ := open_items s3 he hone2 ce u0 u1 u2 u3 t3
    obtain ⟨o4, k4⟩ := hone_of hone 4 g4 rfl
    have t4 : DataW.trod enc P w base sp held n g4.type [c4] = some y4 := by simpa [Value.cells, o4, k4] using hg 4 g4 rfl
    obtain ⟨A4, n4, l4, rfl, hi4, hA4, _⟩ := open_items s4 he hone2 ce u0 u1 u2 u3 t4
    refine ⟨(fun | 0 => A0 | 1 => A1 | 2 => A2 | 3 => A3 | 4 => A4 | _ => none), (fun | 0 => n0 | 1 => n1 | 2 => n2 | 3 => n3 | 4 => n4 | _ => 0), (fun | 0 => l0 | 1 => l1 | 2 => l2 | 3 => l3 | 4 => l4 | _ => []), rfl, fun i hi => ?_⟩
    match i, hi with
    | 0, _ => exact ⟨hi0, hA0⟩
    | 1, _ => exact ⟨hi1, hA1⟩
    | 2, _ => exact ⟨hi2, hA2⟩
    | 3, _ => exact ⟨hi3, hA3⟩
    | 4, _ => exact ⟨hi4, hA4⟩
end Go.Proofs.YtahlegempjlbbaaDoor
