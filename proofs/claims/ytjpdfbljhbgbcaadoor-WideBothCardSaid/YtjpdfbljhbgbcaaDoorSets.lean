/- How a law's argument that is a slice of arrays of seven words is read. -/
import Derived.Test.YtjpdfbljhbgbcaaDoorWalk04B
import Derived.Deep.SlicePairs
import Derived.OpenShut
namespace Go.Proofs.YtjpdfbljhbgbcaaDoor
open Go.ChangeShapes Go.WideShapes Go.ChangeAt Go.RowKit Go.Deep

theorem words_of {cs : List Value} {zs : List Int} (h : cs = zs.map (Value.int .u64)) (hl : zs.length = 7) (hw : ∀ z ∈ zs, (Lit.int .u64 z).wf = true) (j : Nat) (hj : j < 7) : cs[j]? = some (.int .u64 (wv (ofZ zs) j : Nat)) := by
  obtain ⟨n, hn, hlt⟩ := wf_u64 (getD_mem hw (show j < zs.length by omega))
  rw [h, List.getElem?_map, ofZ_wv zs j n hn (by omega), ← hn, List.getElem?_eq_getElem (by omega)]
  rfl
theorem open_sets {H : Type} {enc : TypeId × Value → H} {P : Program} {w : World} {base : Nat} {sp : Nat → Bool} {held : Bool} {t e e1 : TypeId} {A : Option Addr} {n c : Nat} {d : DataW H} {ps : List MemPlace}
    (ht : P.underlying t = some (.slice e)) (he : P.underlying e = some (.array 7 e1)) (he1 : P.underlying e1 = some (.int .u64)) (ce : P.cellsOf e = 7) (ce1 : P.cellsOf e1 = 1) (h : DataW.Trod enc P w base sp held t (.slice A n c) d ps) :
    ∃ Ps : List (Nat → Bool), n = Ps.length ∧ Sets w A Ps := by
  obtain ⟨fuel, hf⟩ := h
  rcases open_slice ht hf with ⟨hcs, _⟩ | ⟨a, len, cap, m, k, D, Pl, hcs, hb, hl, hm, hmm, _, hx⟩
  · simp [Value.cells] at hcs
    obtain ⟨rfl, rfl, rfl⟩ := hcs
    exact ⟨[], rfl, fun j hj => by simp at hj⟩
  · simp [Value.cells] at hcs
    obtain ⟨rfl, rfl, rfl⟩ := hcs
    have hnm : n ≤ m := by rw [hmm]; split <;> omega
    have each : ∀ i, i < n → ∃ Q : Nat → Bool, ∀ j, j < 7 → w.cell? (a.add (i * 7 + j)) = some (.int .u64 (wv Q j : Nat)) := by
      intro i hi
      obtain ⟨cs', h1, h2⟩ := hx i (by omega)
      rw [ce] at h1
      obtain ⟨_, hlen, hcell⟩ := World.cells?_some h1
      obtain ⟨xs, k', _, _, _, hxl, hg⟩ := DataW.trod_array he h2
      rw [ce1] at hg
      obtain ⟨zs, hz, hw⟩ := ints_of (k := .u64) cs' fun i hi => by
        have g1 := hg i (by omega)
        rw [List.getElem?_eq_getElem (by omega)] at g1
        obtain ⟨z, hz, _, wz⟩ := DataW.trod_int he1 g1
        refine ⟨z, ?_, wz⟩
        have h3 : (cs'.drop i)[0]? = some (.int .u64 z) := by
          have h4 := congrArg (fun l => l[0]?) hz
          simpa [Value.cells, List.getElem?_take] using h4
        simpa using h3
      have hzl : zs.length = 7 := by
        have := congrArg List.length hz
        simp at this; omega
      refine ⟨ofZ zs, fun j hj => ?_⟩
      have e0 := hcell j (by omega)
      rw [add_add] at e0
      rw [e0, words_of hz hzl hw j hj]
    obtain ⟨q, hq⟩ := choose_lt each
    have hn : ∀ k, k < n → (((List.range n).map q)[k]?.getD fun _ => false) = q k := fun k hk => by simp [hk]
    refine ⟨(List.range n).map q, by simp, ?_⟩
    intro j hj
    have hjn : j < n := by simpa using hj
    obtain ⟨b, off, spot⟩ := a
    have hspot : spot = none := by
      have := hq 0 (by omega) 0 (by omega)
      simpa [Addr.add] using World.cell?_spot this
    subst hspot
    have hlt : b < w.heap.size := by
      have h0 := hq j hjn 0 (by omega)
      rw [add_plain] at h0
      rcases Nat.lt_or_ge b w.heap.size with g | g
      · exact g
      · exfalso; simp [World.cell?, Array.getElem?_eq_none g] at h0
    rw [hn j hjn]
    refine ⟨b, off, rfl, hlt, fun i hi => ?_⟩
    have h0 := hq j hjn i hi
    rw [add_plain, ← Nat.add_assoc] at h0
    exact h0
theorem wideBoth_walk (A : Option Addr) (n c : Nat) (Ps : List (Nat → Bool)) (w : World) (hn : n = Ps.length) (hi : Sets w A Ps) (hT : Tab w) :
    Calls Tryd.prog 5 #[.slice A n c] w fun e w' => e = .returned (.bool true) ∧ Below w.heap.size w w' := by
  subst hn
  by_cases h : 20 < Ps.length
  · exact wideBoth_long A _ c w h hT
  · exact wideBoth_in A c Ps w (by omega) hi hT
end Go.Proofs.YtjpdfbljhbgbcaaDoor
