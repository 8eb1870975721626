/- How a law's argument that is a slice of items is read, with the numbers' size. -/
import Derived.Test.YtahlegempjlbbaaDoorItmD
import Derived.Test.YtahlegempjlbbaaDoorOpen
import Derived.Lib.SmallJoins
import Derived.Deep.SlicePairs
namespace Go.Proofs.YtahlegempjlbbaaDoor
open Go.ChangeShapes Go.WideShapes Go.ChangeAt Go.RowKit Go.Joins Go.Deep
set_option linter.unusedVariables false

/-- are an item's numbers int64? -/
def Q4In (q : Q4) : Prop := I64 q.1 ∧ I64 q.2.1 ∧ I64 q.2.2.1 ∧ I64 q.2.2.2
theorem open_itemsI {H : Type} {enc : TypeId × Value → H} {P : Program} {w : World} {base : Nat} {sp : Nat → Bool} {held : Bool} {t e : TypeId} {f0 f1 f2 f3 : Field} {v : Value} {fuel : Nat} {x : DataW H × List MemPlace}
    (ht : P.underlying t = some (.slice e)) (he : P.underlying e = some (.struct #[f0, f1, f2, f3])) (hone : oneCellFields P #[f0, f1, f2, f3] = true) (ce : P.cellsOf e = 4)
    (u0 : P.underlying f0.type = some (.int .i64)) (u1 : P.underlying f1.type = some (.int .i64)) (u2 : P.underlying f2.type = some (.int .i64)) (u3 : P.underlying f3.type = some (.int .i64)) (hf : DataW.trod enc P w base sp held fuel t [v] = some x) :
    ∃ (A : Option Addr) (c : Nat) (l : List Q4), v = .slice A l.length c ∧ ItemsAt w A l ∧ (∀ k, k < l.length → Q4In (nthQ l k)) ∧ (A = none → c = 0) ∧ l.length ≤ c := by
  rcases open_slice ht hf with ⟨hcs, _⟩ | ⟨a, len, cap, m, k, D, Pl, hcs, hb, hl, hm, hmm, _, hx⟩
  · obtain rfl : v = .slice none 0 0 := by simpa using hcs
    exact ⟨none, 0, [], rfl, ItemsAt.nil _ _, (fun k hk => absurd hk (Nat.not_lt_zero k)), fun _ => rfl, Nat.le_refl _⟩
  · obtain rfl : v = .slice (some a) len cap := by simpa using hcs
    have hnm : len ≤ m := by rw [hmm]; split <;> omega
    have each : ∀ i, i < len → ∃ q : Q4, w.cell? (a.add (i * 4)) = some (.int .i64 q.1) ∧ w.cell? (a.add (i * 4 + 1)) = some (.int .i64 q.2.1) ∧ w.cell? (a.add (i * 4 + 2)) = some (.int .i64 q.2.2.1) ∧ w.cell? (a.add (i * 4 + 3)) = some (.int .i64 q.2.2.2) ∧ Q4In q := by
      intro i hi
      obtain ⟨cs', h1, h2⟩ := hx i (by omega)
      rw [ce] at h1
      obtain ⟨_, hlen, hcell⟩ := World.cells?_some h1
      obtain ⟨xs, k', _, _, _, hxl, hg⟩ := DataW.trod_struct he h2
      match xs, hxl, cs', hlen with
      | [y0, y1, y2, y3], _, [v0, v1, v2, v3], _ =>
        have e0 := hcell 0 (by omega)
        have e1 := hcell 1 (by omega)
        have e2 := hcell 2 (by omega)
        have e3 := hcell 3 (by omega)
        rw [add_add] at e0 e1 e2 e3
        obtain ⟨o0, k0⟩ := hone_of hone 0 f0 rfl
        have t0 : DataW.trod enc P w base sp held k' f0.type [v0] = some y0 := by simpa [Value.cells, o0, k0] using hg 0 f0 rfl
        obtain ⟨a0, ea0, _, wz0⟩ := DataW.trod_int u0 t0
        obtain ⟨o1, k1⟩ := hone_of hone 1 f1 rfl
        have t1 : DataW.trod enc P w base sp held k' f1.type [v1] = some y1 := by simpa [Value.cells, o1, k1] using hg 1 f1 rfl
        obtain ⟨a1, ea1, _, wz1⟩ := DataW.trod_int u1 t1
        obtain ⟨o2, k2⟩ := hone_of hone 2 f2 rfl
        have t2 : DataW.trod enc P w base sp held k' f2.type [v2] = some y2 := by simpa [Value.cells, o2, k2] using hg 2 f2 rfl
        obtain ⟨a2, ea2, _, wz2⟩ := DataW.trod_int u2 t2
        obtain ⟨o3, k3⟩ := hone_of hone 3 f3 rfl
        have t3 : DataW.trod enc P w base sp held k' f3.type [v3] = some y3 := by simpa [Value.cells, o3, k3] using hg 3 f3 rfl
        obtain ⟨a3, ea3, _, wz3⟩ := DataW.trod_int u3 t3
        simp at ea0 ea1 ea2 ea3
        subst ea0 ea1 ea2 ea3
        exact ⟨(a0, a1, a2, a3), by simpa using e0, by simpa using e1, by simpa using e2, by simpa using e3, wf_i64 wz0, wf_i64 wz1, wf_i64 wz2, wf_i64 wz3⟩
    obtain ⟨q, hq⟩ := choose_lt each
    have hn : ∀ k, k < len → nthQ ((List.range len).map q) k = q k := fun k hk => by simp [nthQ, hk]
    refine ⟨some a, cap, (List.range len).map q, by simp, ?_, ?_, (fun h => by cases h), by simpa using hl⟩
    rotate_left
    · intro j hj
      have hjn : j < len := by simpa using hj
      rw [hn j hjn]
      exact (hq j hjn).2.2.2.2
    intro j hj
    have hjn : j < len := by simpa using hj
    obtain ⟨h0, h1, h2, h3, _⟩ := hq j hjn
    obtain ⟨b, off, spot⟩ := a
    have hspot : spot = none := by
      have := (hq 0 (by omega)).1
      simpa [Addr.add] using World.cell?_spot this
    subst hspot
    rw [add_plain] at h0 h1 h2 h3
    rw [hn j hjn]
    exact ⟨b, off, rfl, cell_lt h0, h0, h1, h2, h3⟩
theorem open_itemsvI {H : Type} {enc : TypeId × Value → H} {P : Program} {w : World} {base : Nat} {sp : Nat → Bool} {held : Bool} {t e : TypeId} {f0 f1 f2 f3 : Field} {A : Option Addr} {n c : Nat} {d : DataW H} {ps : List MemPlace}
    (ht : P.underlying t = some (.slice e)) (he : P.underlying e = some (.struct #[f0, f1, f2, f3])) (hone : oneCellFields P #[f0, f1, f2, f3] = true) (ce : P.cellsOf e = 4)
    (u0 : P.underlying f0.type = some (.int .i64)) (u1 : P.underlying f1.type = some (.int .i64)) (u2 : P.underlying f2.type = some (.int .i64)) (u3 : P.underlying f3.type = some (.int .i64)) (h : DataW.Trod enc P w base sp held t (.slice A n c) d ps) :
    ∃ l : List Q4, n = l.length ∧ ItemsAt w A l ∧ ∀ k, k < l.length → Q4In (nthQ l k) := by
  obtain ⟨fuel, hf⟩ := h
  have hf' : DataW.trod enc P w base sp held fuel t [.slice A n c] = some (d, ps) := by simpa [Value.cells] using hf
  obtain ⟨A', c', l, hv, hi, hin, _, _⟩ := open_itemsI ht he hone ce u0 u1 u2 u3 hf'
  injection hv with h1 h2 h3
  subst h1
  exact ⟨l, h2, hi, hin⟩
end Go.Proofs.YtahlegempjlbbaaDoor
