/- How a law's argument that is a clause is read. -/
import Derived.Test.YtjdoknbmnokkdaaDoorCmE
import Derived.Test.YtjdoknbmnokkdaaDoorOpen
import Derived.OpenShut
import Derived.Deep.Fields
namespace Go.Proofs.YtjdoknbmnokkdaaDoor
open Go.ChangeShapes Go.WideShapes Go.ChangeAt Go.RowKit Go.Deep
set_option linter.unusedVariables false

section
variable {H : Type} {enc : TypeId × Value → H} {P : Program} {w : World} {base n : Nat} {sp : Nat → Bool} {held : Bool} {cs : List Value} {off : Nat} {ft : TypeId} {y : DataW H × List MemPlace}
theorem leaf_at {v : Value} (hc : P.cellsOf ft = 1) (h : (cs.drop off).take (P.cellsOf ft) = [v]) : cs[off]? = some v := by
  rw [hc] at h
  have h4 := congrArg (fun l => l[0]?) h
  simpa [List.getElem?_take] using h4
theorem leaf_int {k : IntKind} (he : P.underlying ft = some (.int k)) (hc : P.cellsOf ft = 1) (h : DataW.trod enc P w base sp held n ft ((cs.drop off).take (P.cellsOf ft)) = some y) : ∃ z : Int, cs[off]? = some (.int k z) ∧ (Lit.int k z).wf = true := by
  obtain ⟨z, hz, _, wz⟩ := DataW.trod_int he h
  exact ⟨z, leaf_at hc hz, wz⟩
theorem leaf_u64 (he : P.underlying ft = some (.int .u64)) (hc : P.cellsOf ft = 1) (h : DataW.trod enc P w base sp held n ft ((cs.drop off).take (P.cellsOf ft)) = some y) : ∃ m : Nat, cs[off]? = some (.int .u64 (m : Nat)) ∧ m < 18446744073709551616 := by
  obtain ⟨z, hz, wz⟩ := leaf_int he hc h
  obtain ⟨m, rfl, hm⟩ := wf_u64 wz
  exact ⟨m, hz, by omega⟩
theorem leaf_bool (he : P.underlying ft = some .bool) (hc : P.cellsOf ft = 1) (h : DataW.trod enc P w base sp held n ft ((cs.drop off).take (P.cellsOf ft)) = some y) : ∃ b : Bool, cs[off]? = some (.bool b) := by
  obtain ⟨b, hb, _⟩ := DataW.trod_bool he h
  exact ⟨b, leaf_at hc hb⟩
theorem leaf_words {N e : Nat} (ht : P.underlying ft = some (.array N e)) (he : P.underlying e = some (.int .u64)) (ce : P.cellsOf e = 1) (hC : P.cellsOf ft = N) (h : DataW.trod enc P w base sp held n ft ((cs.drop off).take (P.cellsOf ft)) = some y) :
    ∃ f : Nat → Nat, (∀ i, i < N → cs[off + i]? = some (.int .u64 (f i : Nat))) ∧ ∀ i, f i < 18446744073709551616 := by
  obtain ⟨xs, k', _, _, hlen, hxl, hg⟩ := DataW.trod_array ht h
  rw [ce] at hg
  rw [hC] at hg hlen
  obtain ⟨zs, hz, hw⟩ := ints_of (k := .u64) ((cs.drop off).take N) fun i hi => by
    have g1 := hg i (by omega)
    rw [List.getElem?_eq_getElem (by omega)] at g1
    obtain ⟨z, hz, _, wz⟩ := DataW.trod_int he g1
    refine ⟨z, ?_, wz⟩
    have h3 : (((cs.drop off).take N).drop i)[0]? = some (.int .u64 z) := by
      have h4 := congrArg (fun l => l[0]?) hz
      simpa [Value.cells, List.getElem?_take] using h4
    simpa using h3
  have hzl : zs.length = N := by
    have := congrArg List.length hz
    rw [hlen] at this
    simp at this; omega
  refine ⟨fun i => (zs[i]?.getD 0).toNat, fun i hi => ?_, fun i => ?_⟩
  · have h5 : ((cs.drop off).take N)[i]? = cs[off + i]? := by rw [List.getElem?_take, if_pos hi, List.getElem?_drop]
    obtain ⟨m, hm, hlt⟩ := wf_u64 (getD_mem hw (show i < zs.length by omega))
    rw [← h5, hz, List.getElem?_map]
    show Option.map (Value.int .u64) zs[i]? = some (.int .u64 (((zs[i]?.getD 0).toNat : Nat) : Int))
    rw [List.getElem?_eq_getElem (show i < zs.length by omega)] at hm ⊢
    simp only [Option.getD_some, Option.map_some] at hm ⊢
    rw [hm]
    simp
  · by_cases hi : i < zs.length
    · obtain ⟨m, hm, hlt⟩ := wf_u64 (getD_mem hw hi)
      show (zs[i]?.getD 0).toNat < 18446744073709551616
      rw [hm]; simp; omega
    · show (zs[i]?.getD 0).toNat < 18446744073709551616
      rw [List.getElem?_eq_none (by omega)]; simp
end
theorem take_at8 {cs : List Value} {a b k : Nat} (h : k < b) : ((cs.drop a).take b)[k]? = cs[a + k]? := by rw [List.getElem?_take, if_pos h, List.getElem?_drop]
set_option maxHeartbeats 800000 in
set_option maxRecDepth 20000 in
theorem open_clause {H : Type} {enc : TypeId × Value → H} {w : World} {base b0 : Nat} {r : Reach} {sp : Nat → Bool} {held : Bool} {v : Value} {d : DataW H} {ps : List MemPlace}
    (hval : Value.okWide Tryd.prog w r b0 70 v) (h : DataW.Trod enc Tryd.prog w base sp held 70 v d ps) : ∃ c : Cl, v = clV c ∧ ClIn c := by
  have u3 := Tryd.underlying3
  have u4 := Tryd.underlying4
  have u2 := Tryd.underlying2
  have u22 := Tryd.underlying24
  have c3 : Tryd.prog.cellsOf 3 = 1 := by kernel_rfl
  have c4 : Tryd.prog.cellsOf 4 = 1 := by kernel_rfl
  have c2 : Tryd.prog.cellsOf 2 = 1 := by kernel_rfl
  have c22 : Tryd.prog.cellsOf 24 = 1 := by kernel_rfl
  have c23 : Tryd.prog.cellsOf 49 = 8 := by kernel_rfl
  have c25 : Tryd.prog.cellsOf 51 = 10 := by kernel_rfl
  have c26 : Tryd.prog.cellsOf 68 = 7 := by kernel_rfl
  have c28 : Tryd.prog.cellsOf 70 = 30 := by kernel_rfl
  obtain ⟨ca, rfl, hsz⟩ := okWide_struct Tryd.underlying70 hval
  rw [c28] at hsz
  obtain ⟨fuel, hf⟩ := h
  obtain ⟨xs, n, _, _, _, hlen, hg⟩ := DataW.trod_struct Tryd.underlying70 hf
  have hx : ∀ i, i < 15 → ∃ y, xs[i]? = some y := fun i hi => ⟨_, List.getElem?_eq_getElem (by rw [hlen]; exact hi)⟩
  generalize hcs : (Value.agg ca).cells.toList = cs at hg
  have hcs' : ca.toList = cs := hcs
  obtain ⟨y0, hy0⟩ := hx 0 (by decide)
  have t0 : DataW.trod enc Tryd.prog w base sp held n 24 ((cs.drop 0).take (Tryd.prog.cellsOf 24)) = some y0 := (hg 0 _ rfl).trans hy0
  obtain ⟨v0, e0, l0⟩ := leaf_u64 u22 c22 t0
  obtain ⟨y1, hy1⟩ := hx 1 (by decide)
  have t1 : DataW.trod enc Tryd.prog w base sp held n 24 ((cs.drop 1).take (Tryd.prog.cellsOf 24)) = some y1 := (hg 1 _ rfl).trans hy1
  obtain ⟨v1, e1, l1⟩ := leaf_u64 u22 c22 t1
  obtain ⟨y2, hy2⟩ := hx 2 (by decide)
  have t2 : DataW.trod enc Tryd.prog w base sp held n 24 ((cs.drop 2).take (Tryd.prog.cellsOf 24)) = some y2 := (hg 2 _ rfl).trans hy2
  obtain ⟨v2, e2, l2⟩ := leaf_u64 u22 c22 t2
  obtain ⟨y3, hy3⟩ := hx 3 (by decide)
  have t3 : DataW.trod enc Tryd.prog w base sp held n 24 ((cs.drop 3).take (Tryd.prog.cellsOf 24)) = some y3 := (hg 3 _ rfl).trans hy3
  obtain ⟨v3, e3, l3⟩ := leaf_u64 u22 c22 t3
  obtain ⟨y4, hy4⟩ := hx 4 (by decide)
  have t4 : DataW.trod enc Tryd.prog w base sp held n 24 ((cs.drop 4).take (Tryd.prog.cellsOf 24)) = some y4 := (hg 4 _ rfl).trans hy4
  obtain ⟨v4, e4, l4⟩ := leaf_u64 u22 c22 t4
  obtain ⟨y5, hy5⟩ := hx 5 (by decide)
  have t5 : DataW.trod enc Tryd.prog w base sp held n 24 ((cs.drop 5).take (Tryd.prog.cellsOf 24)) = some y5 := (hg 5 _ rfl).trans hy5
  obtain ⟨v5, e5, l5⟩ := leaf_u64 u22 c22 t5
  obtain ⟨y6, hy6⟩ := hx 6 (by decide)
  have t6 : DataW.trod enc Tryd.prog w base sp held n 24 ((cs.drop 6).take (Tryd.prog.cellsOf 24)) = some y6 := (hg 6 _ rfl).trans hy6
  obtain ⟨v6, e6, l6⟩ := leaf_u64 u22 c22 t6
  obtain ⟨y7, hy7⟩ := hx 7 (by decide)
  have t7 : DataW.trod enc Tryd.prog w base sp held n 4 ((cs.drop 7).take (Tryd.prog.cellsOf 4)) = some y7 := (hg 7 _ rfl).trans hy7
  obtain ⟨v7, e7⟩ := leaf_bool u4 c4 t7
  obtain ⟨y8, hy8⟩ := hx 8 (by decide)
  have t8 : DataW.trod enc Tryd.prog w base sp held n 51 ((cs.drop 8).take (Tryd.prog.cellsOf 51)) = some y8 := (hg 8 _ rfl).trans hy8
  obtain ⟨xs8, n8, _, _, _, hlen8, hg8⟩ := DataW.trod_struct Tryd.underlying51 t8
  rw [c25] at hg8
  have hx8 : ∀ i, i < 3 → ∃ y, xs8[i]? = some y := fun i hi => ⟨_, List.getElem?_eq_getElem (by rw [hlen8]; exact hi)⟩
  obtain ⟨z0, hz0⟩ := hx8 0 (by decide)
  have o0 : DataW.trod enc Tryd.prog w base sp held n8 3 ((((cs.drop 8).take 10).drop 0).take (Tryd.prog.cellsOf 3)) = some z0 := (hg8 0 _ rfl).trans hz0
  obtain ⟨on, eon, _⟩ := leaf_int u3 c3 o0
  obtain ⟨z1, hz1⟩ := hx8 1 (by decide)
  have o1 : DataW.trod enc Tryd.prog w base sp held n8 4 ((((cs.drop 8).take 10).drop 1).take (Tryd.prog.cellsOf 4)) = some z1 := (hg8 1 _ rfl).trans hz1
  obtain ⟨ob, eob⟩ := leaf_bool u4 c4 o1
  obtain ⟨z2, hz2⟩ := hx8 2 (by decide)
  have o2 : DataW.trod enc Tryd.prog w base sp held n8 49 ((((cs.drop 8).take 10).drop 2).take (Tryd.prog.cellsOf 49)) = some z2 := (hg8 2 _ rfl).trans hz2
  obtain ⟨fo, eo, lo⟩ := leaf_words Tryd.underlying49 u22 c22 c23 o2
  rw [take_at8 (by decide)] at eon eob
  have eo2 : ∀ i, i < 8 → cs[10 + i]? = some (.int .u64 (fo i : Nat)) := fun i hi => by
    have q := eo i hi
    rw [take_at8 (by omega), show 8 + (2 + i) = 10 + i by omega] at q
    exact q
  obtain ⟨y9, hy9⟩ := hx 9 (by decide)
  have t9 : DataW.trod enc Tryd.prog w base sp held n 68 ((cs.drop 18).take (Tryd.prog.cellsOf 68)) = some y9 := (hg 9 _ rfl).trans hy9
  obtain ⟨fy, ey, ly⟩ := leaf_words Tryd.underlying68 u22 c22 c26 t9
  obtain ⟨y10, hy10⟩ := hx 10 (by decide)
  have t10 : DataW.trod enc Tryd.prog w base sp held n 3 ((cs.drop 25).take (Tryd.prog.cellsOf 3)) = some y10 := (hg 10 _ rfl).trans hy10
  obtain ⟨v10, e10, _⟩ := leaf_int u3 c3 t10
  obtain ⟨y11, hy11⟩ := hx 11 (by decide)
  have t11 : DataW.trod enc Tryd.prog w base sp held n 2 ((cs.drop 26).take (Tryd.prog.cellsOf 2)) = some y11 := (hg 11 _ rfl).trans hy11
  obtain ⟨v11, e11, _⟩ := leaf_int u2 c2 t11
  obtain ⟨y12, hy12⟩ := hx 12 (by decide)
  have t12 : DataW.trod enc Tryd.prog w base sp held n 2 ((cs.drop 27).take (Tryd.prog.cellsOf 2)) = some y12 := (hg 12 _ rfl).trans hy12
  obtain ⟨v12, e12, _⟩ := leaf_int u2 c2 t12
  obtain ⟨y13, hy13⟩ := hx 13 (by decide)
  have t13 : DataW.trod enc Tryd.prog w base sp held n 2 ((cs.drop 28).take (Tryd.prog.cellsOf 2)) = some y13 := (hg 13 _ rfl).trans hy13
  obtain ⟨v13, e13, _⟩ := leaf_int u2 c2 t13
  obtain ⟨y14, hy14⟩ := hx 14 (by decide)
  have t14 : DataW.trod enc Tryd.prog w base sp held n 2 ((cs.drop 29).take (Tryd.prog.cellsOf 2)) = some y14 := (hg 14 _ rfl).trans hy14
  obtain ⟨v14, e14, _⟩ := leaf_int u2 c2 t14
  have hw : ∀ j, j < 7 → wv (ofZ ((List.range 7).map fun i => (fy i : Int))) j = fy j := fun j hj => ofZ_wv _ j (fy j) (by simp [hj]) (ly j)
  generalize ofZ ((List.range 7).map fun i => (fy i : Int)) = PP at hw
  refine ⟨⟨v0, v1, v2, v3, v4, v5, v6, v7, on, ob, fo, PP, v10, v11, v12, v13, v14⟩, ?_, l0, l1, l2, l3, l4, l5, l6, lo⟩
  refine congrArg Value.agg (Array.ext' (List.ext_getElem? fun i => ?_))
  rw [hcs']
  by_cases hi : i < 30
  · match i, hi with
    | 0, _ => exact e0
    | 1, _ => exact e1
    | 2, _ => exact e2
    | 3, _ => exact e3
    | 4, _ => exact e4
    | 5, _ => exact e5
    | 6, _ => exact e6
    | 7, _ => exact e7
    | 8, _ => exact eon
    | 9, _ => exact eob
    | 10, _ => exact eo2 0 (by decide)
    | 11, _ => exact eo2 1 (by decide)
    | 12, _ => exact eo2 2 (by decide)
    | 13, _ => exact eo2 3 (by decide)
    | 14, _ => exact eo2 4 (by decide)
    | 15, _ => exact eo2 5 (by decide)
    | 16, _ => exact eo2 6 (by decide)
    | 17, _ => exact eo2 7 (by decide)
    | 18, _ => exact (ey 0 (by decide)).trans (by rw [← hw 0 (by decide)]; rfl)
    | 19, _ => exact (ey 1 (by decide)).trans (by rw [← hw 1 (by decide)]; rfl)
    | 20, _ => exact (ey 2 (by decide)).trans (by rw [← hw 2 (by decide)]; rfl)
    | 21, _ => exact (ey 3 (by decide)).trans (by rw [← hw 3 (by decide)]; rfl)
    | 22, _ => exact (ey 4 (by decide)).trans (by rw [← hw 4 (by decide)]; rfl)
    | 23, _ => exact (ey 5 (by decide)).trans (by rw [← hw 5 (by decide)]; rfl)
    | 24, _ => exact (ey 6 (by decide)).trans (by rw [← hw 6 (by decide)]; rfl)
    | 25, _ => exact e10
    | 26, _ => exact e11
    | 27, _ => exact e12
    | 28, _ => exact e13
    | 29, _ => exact e14
    | k + 30, hk => exact absurd hk (by omega)
  · rw [List.getElem?_eq_none (by rw [← hcs', Array.length_toList]; omega), List.getElem?_eq_none (by show 30 ≤ i; omega)]
end Go.Proofs.YtjdoknbmnokkdaaDoor
