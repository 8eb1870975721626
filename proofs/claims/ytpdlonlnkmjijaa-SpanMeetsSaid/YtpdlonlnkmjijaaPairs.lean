/- How a law's argument that is a slice of structs of two int64 is read. -/
import Derived.Test.YtpdlonlnkmjijaaPair
import Derived.Test.YtpdlonlnkmjijaaSpanC
import Derived.Deep.SlicePairs
namespace Go.Proofs.Ytpdlonlnkmjijaa
open Go.ChangeShapes Go.WideShapes Go.ChangeAt Go.RowKit Go.Joins Go.Deep

theorem open_spans {H : Type} {enc : TypeId × Value → H} {P : Program} {w : World} {base : Nat} {sp : Nat → Bool} {held : Bool} {t e : TypeId} {f0 f1 : Field} {A : Option Addr} {n c : Nat} {d : DataW H} {ps : List MemPlace}
    (ht : P.underlying t = some (.slice e)) (he : P.underlying e = some (.struct #[f0, f1])) (ce : P.cellsOf e = 2) (o0 : f0.offset = 0) (o1 : f1.offset = 1) (c0 : P.cellsOf f0.type = 1) (c1 : P.cellsOf f1.type = 1)
    (u0 : P.underlying f0.type = some (.int .i64)) (u1 : P.underlying f1.type = some (.int .i64)) (h : DataW.Trod enc P w base sp held t (.slice A n c) d ps) :
    ∃ l : List (Int × Int), n = l.length ∧ l.length ≤ 9223372036854775807 ∧ Spans w A l := by
  obtain ⟨fuel, hf⟩ := h
  rcases open_slice_pairs ht he ce o0 o1 c0 c1 hf with ⟨hcs, _⟩ | ⟨a, len, cap, m, k, V0, V1, D0, D1, P0, P1, hcs, _, hl, hm, hmm, _, hx⟩
  · simp [Value.cells] at hcs
    obtain ⟨rfl, rfl, rfl⟩ := hcs
    exact ⟨[], rfl, by decide, fun j hj => by simp at hj⟩
  · simp [Value.cells] at hcs
    obtain ⟨rfl, rfl, rfl⟩ := hcs
    have hnm : n ≤ m := by rw [hmm]; split <;> omega
    have hv : ∀ i, i < m → ∃ q : Int × Int, V0 i = .int .i64 q.1 ∧ V1 i = .int .i64 q.2 := by
      intro i hi
      obtain ⟨_, _, h2, h3⟩ := hx i hi
      obtain ⟨x, e1, _, _⟩ := DataW.trod_int u0 h2
      obtain ⟨y, e2, _, _⟩ := DataW.trod_int u1 h3
      simp at e1 e2
      exact ⟨(x, y), e1, e2⟩
    refine ⟨(List.range n).map fun i => if hi : i < m then (hv i hi).choose else (0, 0), by simp, by unfold maxLen at hm; simp; omega, ?_⟩
    intro j hj
    have hjn : j < n := by simpa using hj
    have hjm : j < m := by omega
    obtain ⟨h0, h1, _, _⟩ := hx j hjm
    obtain ⟨q1, q2⟩ := (hv j hjm).choose_spec
    obtain ⟨b, off, spot⟩ := a
    have hspot : spot = none := by simpa [Addr.add] using World.cell?_spot (hx 0 (by omega)).1
    subst hspot
    rw [add_plain] at h0 h1
    have hlt : b < w.heap.size := by
      rcases Nat.lt_or_ge b w.heap.size with g | g
      · exact g
      · exfalso; simp [World.cell?, Array.getElem?_eq_none g] at h0
    refine ⟨b, off, rfl, hlt, ?_, ?_⟩
    · rw [h0, q1]; simp [hjn, hjm]
    · rw [show off + j * 2 + 1 = off + (j * 2 + 1) by omega, h1, q2]; simp [hjn, hjm]
end Go.Proofs.Ytpdlonlnkmjijaa
