/- How a law's argument that is a slice of clauses is read, with the steps' size. -/
import Derived.Test.YtjdoknbmnokkdaaDoorCmL
import Derived.Lib.SmallJoins
import Derived.Deep.SlicePairs
namespace Go.Proofs.YtjdoknbmnokkdaaDoor
open Go.ChangeShapes Go.WideShapes Go.ChangeAt Go.RowKit Go.Joins Go.Deep
set_option linter.unusedVariables false

theorem clause_of_cellsI {H : Type} {enc : TypeId × Value → H} {w : World} {base fuel : Nat} {sp : Nat → Bool} {held : Bool} {cs : List Value} {x : DataW H × List MemPlace}
    (hsz : cs.length = 30) (hf : DataW.trod enc Tryd.prog w base sp held fuel 70 cs = some x) : ∃ c : Cl, cs = (clC c).toList ∧ (ClIn c ∧ I64 c.st) := by
  obtain ⟨c, hc, hin⟩ := clause_of_cells hsz hf
  have u2 := Tryd.underlying2
  have c2 : Tryd.prog.cellsOf 2 = 1 := by kernel_rfl
  obtain ⟨xs, n, _, _, _, hlen, hg⟩ := DataW.trod_struct Tryd.underlying70 hf
  obtain ⟨y11, hy11⟩ : ∃ y, xs[11]? = some y := ⟨_, List.getElem?_eq_getElem (by rw [hlen]; decide)⟩
  have t11 : DataW.trod enc Tryd.prog w base sp held n 2 ((cs.drop 26).take (Tryd.prog.cellsOf 2)) = some y11 := (hg 11 _ rfl).trans hy11
  obtain ⟨v, e, wz⟩ := leaf_int u2 c2 t11
  rw [hc] at e
  have e2 : (some (Value.int .i64 c.st)) = some (.int .i64 v) := e
  injection e2 with e3
  injection e3 with _ e4
  subst e4
  exact ⟨c, hc, hin, wf_i64 wz⟩
set_option maxHeartbeats 800000 in
theorem open_clausesI {H : Type} {enc : TypeId × Value → H} {w : World} {base : Nat} {sp : Nat → Bool} {held : Bool} {v : Value} {fuel : Nat} {x : DataW H × List MemPlace}
    (hf : DataW.trod enc Tryd.prog w base sp held fuel 64 [v] = some x) :
    ∃ (A : Option Addr) (c : Nat) (l : List Cl), v = .slice A l.length c ∧ ClsAt w A l ∧ (∀ k, k < l.length → ClIn (nthC l k) ∧ I64 (nthC l k).st) ∧ (A = none → c = 0) ∧ l.length ≤ c := by
  have ht := Tryd.underlying64
  have ce : Tryd.prog.cellsOf 70 = 30 := by kernel_rfl
  rcases open_slice ht hf with ⟨hcs, _⟩ | ⟨a, len, cap, m, k, D, Pl, hcs, hb, hl, hm, hmm, _, hx⟩
  · obtain rfl : v = .slice none 0 0 := by simpa using hcs
    exact ⟨none, 0, [], rfl, ClsAt.nil _ _, fun k hk => absurd hk (Nat.not_lt_zero k), fun _ => rfl, Nat.le_refl _⟩
  · obtain rfl : v = .slice (some a) len cap := by simpa using hcs
    have hnm : len ≤ m := by rw [hmm]; split <;> omega
    have each : ∀ i, i < len → ∃ c : Cl, (ClIn c ∧ I64 c.st) ∧ ∀ j, j < 30 → w.cell? (a.add (i * 30 + j)) = (clC c)[j]? := by
      intro i hi
      obtain ⟨cs', h1, h2⟩ := hx i (by omega)
      rw [ce] at h1
      obtain ⟨_, hlen, hcell⟩ := World.cells?_some h1
      obtain ⟨c, hc, hin⟩ := clause_of_cellsI hlen h2
      refine ⟨c, hin, fun j hj => ?_⟩
      have q := hcell j hj
      rw [add_add, hc, Array.getElem?_toList] at q
      exact q
    obtain ⟨q, hq⟩ := choose_lt each
    have hn : ∀ k, k < len → nthC ((List.range len).map q) k = q k := fun k hk => by simp [nthC, hk]
    refine ⟨some a, cap, (List.range len).map q, by simp, ?_, ?_, (fun h => by cases h), by simpa using hl⟩
    · intro j hj
      have hjn : j < len := by simpa using hj
      obtain ⟨_, h0⟩ := hq j hjn
      obtain ⟨b, off, spot⟩ := a
      have hspot : spot = none := by
        have e := (hq 0 (by omega)).2 0 (by decide)
        have e2 : w.cell? ((Addr.mk b off spot).add (0 * 30 + 0)) = some (.int .u64 ((q 0).s : Nat)) := e
        simpa [Addr.add] using World.cell?_spot e2
      subst hspot
      rw [hn j hjn]
      have e0 := h0 0 (by decide)
      rw [add_plain] at e0
      have e1 : w.cell? ⟨b, off + (j * 30 + 0), none⟩ = some (.int .u64 ((q j).s : Nat)) := e0
      refine ⟨b, off, rfl, cell_ltC e1, fun i hi => ?_⟩
      have e := h0 i hi
      rw [add_plain] at e
      rw [Nat.add_assoc]
      exact e
    · intro j hj
      have hjn : j < len := by simpa using hj
      rw [hn j hjn]
      exact (hq j hjn).1
theorem open_clausesvI {H : Type} {enc : TypeId × Value → H} {w : World} {base : Nat} {sp : Nat → Bool} {held : Bool} {A : Option Addr} {n c : Nat} {d : DataW H} {ps : List MemPlace}
    (h : DataW.Trod enc Tryd.prog w base sp held 64 (.slice A n c) d ps) : ∃ l : List Cl, n = l.length ∧ ClsAt w A l ∧ (∀ k, k < l.length → ClIn (nthC l k)) ∧ ∀ k, k < l.length → I64 (nthC l k).st := by
  obtain ⟨fuel, hf⟩ := h
  have hf' : DataW.trod enc Tryd.prog w base sp held fuel 64 [.slice A n c] = some (d, ps) := by simpa [Value.cells] using hf
  obtain ⟨A', c', l, hv, hi, hin, _, _⟩ := open_clausesI hf'
  injection hv with h1 h2 h3
  subst h1
  exact ⟨l, h2, hi, fun k hk => (hin k hk).1, fun k hk => (hin k hk).2⟩
end Go.Proofs.YtjdoknbmnokkdaaDoor
