/- How a law's argument that is a slice of structs of three int64 is read; nothing of the program is spoken of but its words for pieces in memory. -/
import Derived.Test.YtjlieamjlelipaaOpen
import Derived.Test.YtjlieamjlelipaaCoverE
import Derived.Lib.SmallJoins
import Derived.Deep.SlicePairs
namespace Go.Proofs.Ytjlieamjlelipaa
open Go.ChangeShapes Go.WideShapes Go.ChangeAt Go.RowKit Go.Joins Go.Deep

theorem open_pieces {H : Type} {enc : TypeId × Value → H} {P : Program} {w : World} {base : Nat} {sp : Nat → Bool} {held : Bool} {t e : TypeId} {f0 f1 f2 : Field} {A : Option Addr} {n c : Nat} {d : DataW H} {ps : List MemPlace}
    (ht : P.underlying t = some (.slice e)) (he : P.underlying e = some (.struct #[f0, f1, f2])) (hone : oneCellFields P #[f0, f1, f2] = true) (ce : P.cellsOf e = 3)
    (u0 : P.underlying f0.type = some (.int .i64)) (u1 : P.underlying f1.type = some (.int .i64)) (u2 : P.underlying f2.type = some (.int .i64)) (h : DataW.Trod enc P w base sp held t (.slice A n c) d ps) :
    ∃ l : List P3, n = l.length ∧ PiecesAt w A l ∧ ∀ k, k < l.length → P64 (nthP l k) := by
  obtain ⟨fuel, hf⟩ := h
  rcases open_slice ht hf with ⟨hcs, _⟩ | ⟨a, len, cap, m, k, D, Pl, hcs, hb, hl, hm, hmm, _, hx⟩
  · simp [Value.cells] at hcs
    obtain ⟨rfl, rfl, rfl⟩ := hcs
    exact ⟨[], rfl, fun j hj => by simp at hj, fun j hj => by simp at hj⟩
  · simp [Value.cells] at hcs
    obtain ⟨rfl, rfl, rfl⟩ := hcs
    have hnm : n ≤ m := by rw [hmm]; split <;> omega
    have each : ∀ i, i < n → ∃ q : P3, (w.cell? (a.add (i * 3)) = some (.int .i64 q.1) ∧ w.cell? (a.add (i * 3 + 1)) = some (.int .i64 q.2.1) ∧ w.cell? (a.add (i * 3 + 2)) = some (.int .i64 q.2.2)) ∧ P64 q := by
      intro i hi
      obtain ⟨cs', h1, h2⟩ := hx i (by omega)
      rw [ce] at h1
      obtain ⟨_, hlen, hcell⟩ := World.cells?_some h1
      obtain ⟨xs, k', _, _, _, hxl, hg⟩ := DataW.trod_struct he h2
      match xs, hxl, cs', hlen with
      | [y0, y1, y2], _, [v0, v1, v2], _ =>
        have e0 := hcell 0 (by omega)
        have e1 := hcell 1 (by omega)
        have e2 := hcell 2 (by omega)
        rw [add_add] at e0 e1 e2
        obtain ⟨o0, k0⟩ := hone_of hone 0 f0 rfl
        have t0 : DataW.trod enc P w base sp held k' f0.type [v0] = some y0 := by simpa [Value.cells, o0, k0] using hg 0 f0 rfl
        obtain ⟨a0, ea0, _, w0⟩ := DataW.trod_int u0 t0
        obtain ⟨o1, k1⟩ := hone_of hone 1 f1 rfl
        have t1 : DataW.trod enc P w base sp held k' f1.type [v1] = some y1 := by simpa [Value.cells, o1, k1] using hg 1 f1 rfl
        obtain ⟨a1, ea1, _, w1⟩ := DataW.trod_int u1 t1
        obtain ⟨o2, k2⟩ := hone_of hone 2 f2 rfl
        have t2 : DataW.trod enc P w base sp held k' f2.type [v2] = some y2 := by simpa [Value.cells, o2, k2] using hg 2 f2 rfl
        obtain ⟨a2, ea2, _, w2⟩ := DataW.trod_int u2 t2
        simp at ea0 ea1 ea2
        subst ea0 ea1 ea2
        exact ⟨(a0, a1, a2), ⟨by simpa using e0, by simpa using e1, by simpa using e2⟩, wf_i64 w0, wf_i64 w1, wf_i64 w2⟩
    obtain ⟨q, hq⟩ := choose_lt each
    have hn : ∀ k, k < n → nthP ((List.range n).map q) k = q k := fun k hk => by simp [nthP, hk]
    refine ⟨(List.range n).map q, by simp, ?_, fun k hk => by
      have hk' : k < n := by simpa using hk
      rw [hn k hk']; exact (hq k hk').2⟩
    intro j hj
    have hjn : j < n := by simpa using hj
    obtain ⟨⟨h0, h1, h2⟩, _⟩ := hq j hjn
    obtain ⟨b, off, spot⟩ := a
    have hspot : spot = none := by
      have := (hq 0 (by omega)).1.1
      simpa [Addr.add] using World.cell?_spot this
    subst hspot
    rw [add_plain] at h0 h1 h2
    have hlt : b < w.heap.size := by
      rcases Nat.lt_or_ge b w.heap.size with g | g
      · exact g
      · exfalso; simp [World.cell?, Array.getElem?_eq_none g] at h0
    rw [hn j hjn]
    exact ⟨b, off, rfl, hlt, h0, h1, h2⟩
end Go.Proofs.Ytjlieamjlelipaa
