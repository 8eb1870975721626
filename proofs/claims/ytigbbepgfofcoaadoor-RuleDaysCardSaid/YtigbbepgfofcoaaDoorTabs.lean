/- What a listed table of pairs of integers, and of strings, holds, cell by cell; nothing of the program is spoken of. -/
import Derived.Test.YtigbbepgfofcoaaDoorRows
import Derived.Lib.LaidTab
import Derived.OpenShut
import Derived.ChangeArms
namespace Go.Proofs.YtigbbepgfofcoaaDoor
open Go.ChangeShapes Go.WideShapes Go.RowKit
set_option linter.unusedVariables false

theorem tab2_cells {H : Type} {enc : TypeId × Value → H} {P : Program} {w : World} {base : Nat} {sp : Nat → Bool} {held : Bool} {fuel : Nat} {t e k : TypeId} {n : Nat} {cs : List Value} {zs : List (Int × Int)} {p : List MemPlace}
    (ht : P.underlying t = some (.array n e)) (he : P.underlying e = some (.array 2 k)) (hk : P.underlying k = some (.int .i64)) (hck : P.cellsOf k = 1) (hce : P.cellsOf e = 2)
    (h : DataW.trod enc P w base sp held fuel t cs = some (.agg (zs.map fun z => .agg [.lit (.int .i64 z.1), .lit (.int .i64 z.2)]), p)) :
    ∀ i, i < zs.length → cs[2 * i]? = some (.int .i64 (zs[i]?.getD (0, 0)).1) ∧ cs[2 * i + 1]? = some (.int .i64 (zs[i]?.getD (0, 0)).2) := by
  obtain ⟨xs, m, _, hx, hl, hxl, hd⟩ := DataW.trod_array ht h
  have hmap : xs.map (·.1) = zs.map fun z => (DataW.agg [.lit (.int .i64 z.1), .lit (.int .i64 z.2)] : DataW H) := by
    have := congrArg Prod.fst hx
    simp only [DataW.agg.injEq] at this
    exact this.symm
  have hlen : xs.length = zs.length := by
    have := congrArg List.length hmap
    simpa using this
  intro i hi
  have h1 := hd i (by omega)
  rw [hce, List.getElem?_eq_getElem (by omega)] at h1
  have h2 : (xs[i]'(by omega)).1 = .agg [.lit (.int .i64 zs[i].1), .lit (.int .i64 zs[i].2)] := by
    have := congrArg (fun l => l[i]?) hmap
    simp only [List.getElem?_map] at this
    rw [List.getElem?_eq_getElem (by omega), List.getElem?_eq_getElem hi] at this
    simpa using this
  have h3 : DataW.trod enc P w base sp held m e ((cs.drop (i * 2)).take 2) = some (Lib.tabData .i64 [zs[i].1, zs[i].2], (xs[i]'(by omega)).2) := by
    rw [h1]
    congr 1
    exact Prod.ext h2 rfl
  have h4 := Lib.cells_of_tab he hk hck hce h3
  have h5 := congrArg (fun l => l[0]?) h4
  have h6 := congrArg (fun l => l[1]?) h4
  simp only [List.map_cons, List.getElem?_cons_zero, List.getElem?_cons_succ] at h5 h6
  rw [List.getElem?_take_of_lt (by omega), List.getElem?_drop] at h5 h6
  rw [List.getElem?_eq_getElem hi]
  rw [show i * 2 + 0 = 2 * i by omega] at h5
  rw [show i * 2 + 1 = 2 * i + 1 by omega] at h6
  exact ⟨h5, h6⟩
theorem tab2_head {P : Program} {W : World} {name : String} {zs : List (Int × Int)} {rest : List (String × DataW Unit)} {g : Nat} {t e k : TypeId} {n : Nat}
    (hg : P.globalNamed name = some g) (hty : (P.globals[g]?).map (·.type) = some t) (ht : P.underlying t = some (.array n e)) (he : P.underlying e = some (.array 2 k)) (hk : P.underlying k = some (.int .i64)) (hck : P.cellsOf k = 1) (hce : P.cellsOf e = 2)
    (h : laidMet P ((name, .agg (zs.map fun z => .agg [.lit (.int .i64 z.1), .lit (.int .i64 z.2)])) :: rest) W) :
    ∀ i, i < zs.length → W.cell? ⟨g, 2 * i, none⟩ = some (.int .i64 (zs[i]?.getD (0, 0)).1) ∧ W.cell? ⟨g, 2 * i + 1, none⟩ = some (.int .i64 (zs[i]?.getD (0, 0)).2) := by
  obtain ⟨ps, ⟨g', t', cs, fuel, p, q, hg', ht', hvar, hd, _, _⟩, _⟩ := h
  obtain rfl := Option.some.inj (hg.symm.trans hg')
  obtain rfl := Option.some.inj (hty.symm.trans ht')
  intro i hi
  obtain ⟨h1, h2⟩ := tab2_cells ht he hk hck hce hd i hi
  have v := fun j => World.var?_cell hg hvar j
  exact ⟨(v _).trans (by rw [← h1]; simp), (v _).trans (by rw [← h2]; simp)⟩
theorem tabS_cells {H : Type} {enc : TypeId × Value → H} {P : Program} {w : World} {base : Nat} {sp : Nat → Bool} {held : Bool} {fuel : Nat} {t e : TypeId} {n : Nat} {cs : List Value} {ss : List (List UInt8)} {p : List MemPlace}
    (ht : P.underlying t = some (.array n e)) (he : P.underlying e = some .string) (hce : P.cellsOf e = 1)
    (h : DataW.trod enc P w base sp held fuel t cs = some (.agg (ss.map fun s => .lit (.string s)), p)) :
    ∀ i, i < ss.length → cs[i]? = some (.string ⟨(ss[i]?.getD []).toArray⟩) := by
  obtain ⟨xs, m, _, hx, hl, hxl, hd⟩ := DataW.trod_array ht h
  have hmap : xs.map (·.1) = ss.map fun s => (DataW.lit (.string s) : DataW H) := by
    have := congrArg Prod.fst hx
    simp only [DataW.agg.injEq] at this
    exact this.symm
  have hlen : xs.length = ss.length := by
    have := congrArg List.length hmap
    simpa using this
  intro i hi
  have h1 := hd i (by omega)
  rw [hce, List.getElem?_eq_getElem (by omega)] at h1
  have h2 : (xs[i]'(by omega)).1 = .lit (.string ss[i]) := by
    have := congrArg (fun l => l[i]?) hmap
    simp only [List.getElem?_map] at this
    rw [List.getElem?_eq_getElem (by omega), List.getElem?_eq_getElem hi] at this
    simpa using this
  obtain ⟨s, e1, e2, _⟩ := DataW.trod_string he h1
  rw [e2] at h2
  have h3 : s.data.toList = ss[i] := by simpa using h2
  have h5 := congrArg (fun l => l[0]?) e1
  simp only [List.getElem?_cons_zero] at h5
  rw [List.getElem?_take_of_lt (by omega), List.getElem?_drop] at h5
  rw [List.getElem?_eq_getElem hi, Option.getD_some, ← h3]
  rw [show i * 1 + 0 = i by omega] at h5
  exact h5
theorem tabS_head {P : Program} {W : World} {name : String} {ss : List (List UInt8)} {rest : List (String × DataW Unit)} {g : Nat} {t e : TypeId} {n : Nat}
    (hg : P.globalNamed name = some g) (hty : (P.globals[g]?).map (·.type) = some t) (ht : P.underlying t = some (.array n e)) (he : P.underlying e = some .string) (hce : P.cellsOf e = 1)
    (h : laidMet P ((name, .agg (ss.map fun s => .lit (.string s))) :: rest) W) :
    ∀ i, i < ss.length → W.cell? ⟨g, i, none⟩ = some (.string ⟨(ss[i]?.getD []).toArray⟩) := by
  obtain ⟨ps, ⟨g', t', cs, fuel, p, q, hg', ht', hvar, hd, _, _⟩, _⟩ := h
  obtain rfl := Option.some.inj (hg.symm.trans hg')
  obtain rfl := Option.some.inj (hty.symm.trans ht')
  intro i hi
  have h1 := tabS_cells ht he hce hd i hi
  exact (World.var?_cell hg hvar i).trans (by rw [← h1]; simp)
end Go.Proofs.YtigbbepgfofcoaaDoor
