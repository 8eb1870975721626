/- A rule in memory, and how a law's argument that is a rule is read (layer 32). -/
import Derived.Test.YtigbbepgfofcoaaDoorOwn
import Derived.Test.YtigbbepgfofcoaaDoorOpen
import Derived.Test.YtigbbepgfofcoaaDoorDec
import Derived.Lib.SmallJoins
import Derived.Deep.SlicePairs
namespace Go.Proofs.YtigbbepgfofcoaaDoor
open Go.ChangeShapes Go.WideShapes Go.ChangeAt Go.RowKit Go.Joins Go.Deep
set_option linter.unusedVariables false

abbrev N2 := Int × Int
def nthN (l : List N2) (k : Nat) : N2 := l[k]?.getD (0, 0)
/-- a slice's weekdays in memory -/
def NthsAt (w : World) (A : Option Addr) (l : List N2) : Prop := ∀ k, k < l.length → ∃ b off, A = some ⟨b, off, none⟩ ∧ b < w.heap.size ∧ w.cell? ⟨b, off + k * 2, none⟩ = some (.int .i64 (nthN l k).1) ∧ w.cell? ⟨b, off + k * 2 + 1, none⟩ = some (.int .i64 (nthN l k).2)
theorem NthsAt.nil (w : World) (A : Option Addr) : NthsAt w A [] := fun k hk => absurd hk (Nat.not_lt_zero k)
theorem NthsAt.below {w w' : World} {A : Option Addr} {l : List N2} (h : NthsAt w A l) (hb : Below w.heap.size w w') : NthsAt w' A l := fun k hk => by
  obtain ⟨b, off, hA, hl, h0, h1⟩ := h k hk
  exact ⟨b, off, hA, Nat.lt_of_lt_of_le hl hb.size, (hb.cell (p := ⟨b, off + k * 2, none⟩) hl).trans h0, (hb.cell (p := ⟨b, off + k * 2 + 1, none⟩) hl).trans h1⟩
/-- a rule: its numbers, its lists (0 months, 1 days, 2 hours, 3 minutes, 4 seconds), where they lie, and its weekdays -/
structure Rl where
  start : Int
  freq : Int
  itv : Int
  cnt : Int
  unt : Int
  A : Nat → Option Addr
  c : Nat → Nat
  Z : Nat → List Int
  AW : Option Addr
  cw : Nat
  N : List N2
def rlC (r : Rl) : Array Value := #[.int .i64 r.start, .int .i64 r.freq, .int .i64 r.itv, .int .i64 r.cnt, .int .i64 r.unt, .slice (r.A 0) (r.Z 0).length (r.c 0), .slice (r.A 1) (r.Z 1).length (r.c 1), .slice r.AW r.N.length r.cw, .slice (r.A 2) (r.Z 2).length (r.c 2), .slice (r.A 3) (r.Z 3).length (r.c 3), .slice (r.A 4) (r.Z 4).length (r.c 4)]
def rlV (r : Rl) : Value := .agg (rlC r)
/-- a rule's lists in memory -/
def RlAt (w : World) (r : Rl) : Prop := (∀ i, i < 5 → Ints .i64 w (r.A i) (r.Z i)) ∧ NthsAt w r.AW r.N
theorem RlAt.below {w w' : World} {r : Rl} (h : RlAt w r) (hb : Below w.heap.size w w') : RlAt w' r := ⟨fun i hi => (h.1 i hi).below hb, h.2.below hb⟩
/-- a rule's numbers are int64, its lists' lengths ints -/
def RlIn (r : Rl) : Prop := I64 r.start ∧ I64 r.freq ∧ I64 r.itv ∧ I64 r.cnt ∧ I64 r.unt ∧ (∀ i, i < 5 → (∀ z ∈ r.Z i, I64 z) ∧ (r.Z i).length ≤ 9223372036854775807) ∧ (∀ k, k < r.N.length → I64 (nthN r.N k).1 ∧ I64 (nthN r.N k).2) ∧ r.N.length ≤ 9223372036854775807
theorem open_intsv {H : Type} {enc : TypeId × Value → H} {P : Program} {w : World} {base : Nat} {sp : Nat → Bool} {held : Bool} {t e : TypeId} {v : Value} {fuel : Nat} {x : DataW H × List MemPlace}
    (ht : P.underlying t = some (.slice e)) (he : P.underlying e = some (.int .i64)) (hc : P.cellsOf e = 1) (hf : DataW.trod enc P w base sp held fuel t [v] = some x) :
    ∃ (A : Option Addr) (c : Nat) (zs : List Int), v = .slice A zs.length c ∧ Ints .i64 w A zs ∧ (∀ z ∈ zs, I64 z) ∧ zs.length ≤ 9223372036854775807 := by
  rcases open_ints ht he hc hf with ⟨hcs, _⟩ | ⟨a, l, c', zs, hcs, _, hl, hm, hz, _, hcell, hwz⟩
  · obtain rfl : v = .slice none 0 0 := by simpa using hcs
    exact ⟨none, 0, [], rfl, (fun j hj => by simp at hj), (fun z hz => absurd hz List.not_mem_nil), by simp⟩
  · obtain rfl : v = .slice (some a) l c' := by simpa using hcs
    have h : DataW.Trod enc P w base sp held t (.slice (some a) l c') x.1 x.2 := ⟨fuel, by simpa [Value.cells] using hf⟩
    obtain ⟨zs', hn, hlen, hwf, hi⟩ := open_list ht he hc h
    exact ⟨some a, c', zs', by rw [hn], hi, fun z hz => wf_i64 (hwf z hz), hlen⟩
theorem cell_ltN {w : World} {p : Addr} {u : Value} (h : w.cell? p = some u) : p.block < w.heap.size := by
  rcases Nat.lt_or_ge p.block w.heap.size with g | g
  · exact g
  · exfalso; simp [World.cell?, Array.getElem?_eq_none g] at h
theorem open_nths {H : Type} {enc : TypeId × Value → H} {P : Program} {w : World} {base : Nat} {sp : Nat → Bool} {held : Bool} {t e : TypeId} {f0 f1 : Field} {v : Value} {fuel : Nat} {x : DataW H × List MemPlace}
    (ht : P.underlying t = some (.slice e)) (he : P.underlying e = some (.struct #[f0, f1])) (hone : oneCellFields P #[f0, f1] = true) (ce : P.cellsOf e = 2)
    (u0 : P.underlying f0.type = some (.int .i64)) (u1 : P.underlying f1.type = some (.int .i64)) (hf : DataW.trod enc P w base sp held fuel t [v] = some x) :
    ∃ (A : Option Addr) (c : Nat) (l : List N2), v = .slice A l.length c ∧ NthsAt w A l ∧ (∀ k, k < l.length → I64 (nthN l k).1 ∧ I64 (nthN l k).2) ∧ l.length ≤ 9223372036854775807 := by
  rcases open_slice ht hf with ⟨hcs, _⟩ | ⟨a, len, cap, m, k, D, Pl, hcs, hb, hl, hm, hmm, _, hx⟩
  · obtain rfl : v = .slice none 0 0 := by simpa using hcs
    exact ⟨none, 0, [], rfl, NthsAt.nil _ _, (fun k hk => absurd hk (Nat.not_lt_zero k)), by simp⟩
  · obtain rfl : v = .slice (some a) len cap := by simpa using hcs
    have hnm : len ≤ m := by rw [hmm]; split <;> omega
    have each : ∀ i, i < len → ∃ q : N2, w.cell? (a.add (i * 2)) = some (.int .i64 q.1) ∧ w.cell? (a.add (i * 2 + 1)) = some (.int .i64 q.2) ∧ (I64 q.1 ∧ I64 q.2) := by
      intro i hi
      obtain ⟨cs', h1, h2⟩ := hx i (by omega)
      rw [ce] at h1
      obtain ⟨_, hlen, hcell⟩ := World.cells?_some h1
      obtain ⟨xs, k', _, _, _, hxl, hg⟩ := DataW.trod_struct he h2
      match xs, hxl, cs', hlen with
      | [y0, y1], _, [v0, v1], _ =>
        have e0 := hcell 0 (by omega)
        have e1 := hcell 1 (by omega)
        rw [add_add] at e0 e1
        obtain ⟨o0, k0⟩ := hone_of hone 0 f0 rfl
        have t0 : DataW.trod enc P w base sp held k' f0.type [v0] = some y0 := by simpa [Value.cells, o0, k0] using hg 0 f0 rfl
        obtain ⟨a0, ea0, _, wz0⟩ := DataW.trod_int u0 t0
        obtain ⟨o1, k1⟩ := hone_of hone 1 f1 rfl
        have t1 : DataW.trod enc P w base sp held k' f1.type [v1] = some y1 := by simpa [Value.cells, o1, k1] using hg 1 f1 rfl
        obtain ⟨a1, ea1, _, wz1⟩ := DataW.trod_int u1 t1
        simp at ea0 ea1
        subst ea0 ea1
        exact ⟨(a0, a1), by simpa using e0, by simpa using e1, wf_i64 wz0, wf_i64 wz1⟩
    obtain ⟨q, hq⟩ := choose_lt each
    have hn : ∀ k, k < len → nthN ((List.range len).map q) k = q k := fun k hk => by simp [nthN, hk]
    refine ⟨some a, cap, (List.range len).map q, by simp, ?_, ?_, ?_⟩
    · intro j hj
      have hjn : j < len := by simpa using hj
      obtain ⟨h0, h1, _⟩ := hq j hjn
      obtain ⟨b, off, spot⟩ := a
      have hspot : spot = none := by
        have := (hq 0 (by omega)).1
        simpa [Addr.add] using World.cell?_spot this
      subst hspot
      rw [add_plain] at h0 h1
      rw [hn j hjn]
      exact ⟨b, off, rfl, cell_ltN h0, h0, h1⟩
    · intro j hj
      have hjn : j < len := by simpa using hj
      rw [hn j hjn]
      exact (hq j hjn).2.2
    · simp only [List.length_map, List.length_range]
      unfold maxLen at hm; omega
theorem array11 {α : Type} {cs : Array α} (h : cs.size = 11) : ∃ c0 c1 c2 c3 c4 c5 c6 c7 c8 c9 c10, cs = #[c0, c1, c2, c3, c4, c5, c6, c7, c8, c9, c10] := by
  obtain ⟨l⟩ := cs
  match l, h with
  | [c0, c1, c2, c3, c4, c5, c6, c7, c8, c9, c10], _ => exact ⟨c0, c1, c2, c3, c4, c5, c6, c7, c8, c9, c10, rfl⟩
theorem open_rule {H : Type} {enc : TypeId × Value → H} {P : Program} {w : World} {base b0 : Nat} {r : Reach} {sp : Nat → Bool} {held : Bool} {t e i : TypeId} {f0 f1 g0 g1 g2 g3 g4 g5 g6 g7 g8 g9 g10 : Field} {v : Value} {d : DataW H} {ps : List MemPlace}
    (hs : P.underlying t = some (.struct #[g0, g1, g2, g3, g4, g5, g6, g7, g8, g9, g10])) (hone : oneCellFields P #[g0, g1, g2, g3, g4, g5, g6, g7, g8, g9, g10] = true) (hC : P.cellsOf t = 11)
    (n0 : P.underlying g0.type = some (.int .i64))
    (n1 : P.underlying g1.type = some (.int .i64))
    (n2 : P.underlying g2.type = some (.int .i64))
    (n3 : P.underlying g3.type = some (.int .i64))
    (n4 : P.underlying g4.type = some (.int .i64))
    (n5 : P.underlying g5.type = some (.slice i))
    (n6 : P.underlying g6.type = some (.slice i))
    (n8 : P.underlying g8.type = some (.slice i))
    (n9 : P.underlying g9.type = some (.slice i))
    (n10 : P.underlying g10.type = some (.slice i))
    (n7 : P.underlying g7.type = some (.slice e)) (hi : P.underlying i = some (.int .i64)) (ci : P.cellsOf i = 1)
    (he : P.underlying e = some (.struct #[f0, f1])) (hone2 : oneCellFields P #[f0, f1] = true) (ce : P.cellsOf e = 2) (u0 : P.underlying f0.type = some (.int .i64)) (u1 : P.underlying f1.type = some (.int .i64))
    (hval : Value.okWide P w r b0 t v) (h : DataW.Trod enc P w base sp held t v d ps) : ∃ R : Rl, v = rlV R ∧ RlAt w R ∧ RlIn R := by
  obtain ⟨cs, rfl, hsz⟩ := okWide_struct hs hval
  obtain ⟨c0, c1, c2, c3, c4, c5, c6, c7, c8, c9, c10, rfl⟩ := array11 (hsz.trans hC)
  obtain ⟨fuel, hf⟩ := h
  obtain ⟨xs, n, _, _, _, hlen, hg⟩ := DataW.trod_struct hs hf
  match xs, hlen with
  | [y0, y1, y2, y3, y4, y5, y6, y7, y8, y9, y10], _ =>
    obtain ⟨o0, k0⟩ := hone_of hone 0 g0 rfl
    have t0 : DataW.trod enc P w base sp held n g0.type [c0] = some y0 := by simpa [Value.cells, o0, k0] using hg 0 g0 rfl
    obtain ⟨a0, ea0, _, wz0⟩ := DataW.trod_int n0 t0
    obtain ⟨o1, k1⟩ := hone_of hone 1 g1 rfl
    have t1 : DataW.trod enc P w base sp held n g1.type [c1] = some y1 := by simpa [Value.cells, o1, k1] using hg 1 g1 rfl
    obtain ⟨a1, ea1, _, wz1⟩ := DataW.trod_int n1 t1
    obtain ⟨o2, k2⟩ := hone_of hone 2 g2 rfl
    have t2 : DataW.trod enc P w base sp held n g2.type [c2] = some y2 := by simpa [Value.cells, o2, k2] using hg 2 g2 rfl
    obtain ⟨a2, ea2, _, wz2⟩ := DataW.trod_int n2 t2
    obtain ⟨o3, k3⟩ := hone_of hone 3 g3 rfl
    have t3 : DataW.trod enc P w base sp held n g3.type [c3] = some y3 := by simpa [Value.cells, o3, k3] using hg 3 g3 rfl
    obtain ⟨a3, ea3, _, wz3⟩ := DataW.trod_int n3 t3
    obtain ⟨o4, k4⟩ := hone_of hone 4 g4 rfl
    have t4 : DataW.trod enc P w base sp held n g4.type [c4] = some y4 := by simpa [Value.cells, o4, k4] using hg 4 g4 rfl
    obtain ⟨a4, ea4, _, wz4⟩ := DataW.trod_int n4 t4
    obtain ⟨o5, k5⟩ := hone_of hone 5 g5 rfl
    have t5 : DataW.trod enc P w base sp held n g5.type [c5] = some y5 := by simpa [Value.cells, o5, k5] using hg 5 g5 rfl
    obtain ⟨A5, d5, z5, rfl, h5, hz5, hl5⟩ := open_intsv n5 hi ci t5
    obtain ⟨o6, k6⟩ := hone_of hone 6 g6 rfl
    have t6 : DataW.trod enc P w base sp held n g6.type [c6] = some y6 := by simpa [Value.cells, o6, k6] using hg 6 g6 rfl
    obtain ⟨A6, d6, z6, rfl, h6, hz6, hl6⟩ := open_intsv n6 hi ci t6
    obtain ⟨o7, k7⟩ := hone_of hone 7 g7 rfl
    have t7 : DataW.trod enc P w base sp held n g7.type [c7] = some y7 := by simpa [Value.cells, o7, k7] using hg 7 g7 rfl
    obtain ⟨AW, cw, lw, rfl, hw, hwz, hwl⟩ := open_nths n7 he hone2 ce u0 u1 t7
    obtain ⟨o8, k8⟩ := hone_of hone 8 g8 rfl
    have t8 : DataW.trod enc P w base sp held n g8.type [c8] = some y8 := by simpa [Value.cells, o8, k8] using hg 8 g8 rfl
    obtain ⟨A8, d8, z8, rfl, h8, hz8, hl8⟩ := open_intsv n8 hi ci t8
    obtain ⟨o9, k9⟩ := hone_of hone 9 g9 rfl
    have t9 : DataW.trod enc P w base sp held n g9.type [c9] = some y9 := by simpa [Value.cells, o9, k9] using hg 9 g9 rfl
    obtain ⟨A9, d9, z9, rfl, h9, hz9, hl9⟩ := open_intsv n9 hi ci t9
    obtain ⟨o10, k10⟩ := hone_of hone 10 g10 rfl
    have t10 : DataW.trod enc P w base sp held n g10.type [c10] = some y10 := by simpa [Value.cells, o10, k10] using hg 10 g10 rfl
    obtain ⟨A10, d10, z10, rfl, h10, hz10, hl10⟩ := open_intsv n10 hi ci t10
    simp at ea0 ea1 ea2 ea3 ea4
    subst ea0 ea1 ea2 ea3 ea4
    refine ⟨⟨a0, a1, a2, a3, a4, (fun | 0 => A5 | 1 => A6 | 2 => A8 | 3 => A9 | 4 => A10 | _ => none), (fun | 0 => d5 | 1 => d6 | 2 => d8 | 3 => d9 | 4 => d10 | _ => 0), (fun | 0 => z5 | 1 => z6 | 2 => z8 | 3 => z9 | 4 => z10 | _ => []), AW, cw, lw⟩, rfl, ⟨fun j hj => ?_, hw⟩, wf_i64 wz0, wf_i64 wz1, wf_i64 wz2, wf_i64 wz3, wf_i64 wz4, fun j hj => ?_, hwz, hwl⟩
    · match j, hj with
      | 0, _ => exact h5
      | 1, _ => exact h6
      | 2, _ => exact h8
      | 3, _ => exact h9
      | 4, _ => exact h10
    · match j, hj with
      | 0, _ => exact ⟨hz5, hl5⟩
      | 1, _ => exact ⟨hz6, hl6⟩
      | 2, _ => exact ⟨hz8, hl8⟩
      | 3, _ => exact ⟨hz9, hl9⟩
      | 4, _ => exact ⟨hz10, hl10⟩
end Go.Proofs.YtigbbepgfofcoaaDoor
