/- Contract of slices.Clone of items (layers 24, 28). -/
import Derived.Test.YtbfndcogieiejaaItmC
namespace Go.Proofs.Ytbfndcogieiejaa
open Go.RowKit
set_option linter.unusedVariables false

theorem info_item : (Try.prog.info? 27).map (fun i => (i.zero, i.size, i.bytes)) = some (some (.agg #[.int .i64 0, .int .i64 0, .int .i64 0, .int .i64 0]), 4, 32) := by kernel_rfl
/-- a row of items of the call's own -/
def OwnQ (w : World) (base : Nat) (v : Value) (qs : List Q4) : Prop := w.ownsRow base 27 4 v qs.length (cells4 qs)
theorem OwnQ.at {w : World} {base : Nat} {v : Value} {qs : List Q4} (h : OwnQ w base v qs) : ∃ A c, v = .slice A qs.length c ∧ ItemsAt w A qs ∧ qs.length ≤ c := by
  rcases h.2 with ⟨hv, hn⟩ | ⟨g, cap, cur, hv, hg, hh, hc, hm, hs, ht⟩
  · refine ⟨none, 0, ?_, ?_, ?_⟩
    · rw [hn]; exact hv
    · intro j hj
      omega
    · omega
  · have hx : ∀ k i, k < qs.length → i < 4 → w.cell? ⟨g, 0 + k * 4 + i, none⟩ = (cells4 qs)[k * 4 + i]? := by
      intro k i hk hi
      rw [Nat.zero_add, blk_cell hh, ← ht, List.getElem?_take_of_lt (by omega), Array.getElem?_toList]
    refine ⟨some ⟨g, 0, none⟩, cap, hv, fun j hj => ⟨g, 0, rfl, lt_of_block hh, ?_⟩, hc⟩
    obtain ⟨h1, h2, h3, h4⟩ := cells4_get qs j hj
    exact ⟨(hx j 0 hj (by omega)).trans h1, (hx j 1 hj (by omega)).trans h2, (hx j 2 hj (by omega)).trans h3, (hx j 3 hj (by omega)).trans h4⟩
theorem ownq_block {w : World} {base : Nat} {v : Value} {qs : List Q4} (h : OwnQ w base v qs) : ∀ k, v.ownBlock = some k → base ≤ k := fun k hk => (World.ownsRow.lt h k hk).1
theorem cells4_one : ∀ qs : List Q4, ∀ u ∈ cells4 qs, u.oneCell' = true
  | [], u, h => by cases h
  | q :: qs, u, h => by
    unfold cells4 at h
    simp only [List.mem_cons] at h
    rcases h with rfl | rfl | rfl | rfl | h
    · rfl
    · rfl
    · rfl
    · rfl
    · exact cells4_one qs u h
theorem items_cells {w : World} {ad : Addr} {qs : List Q4} (h : ItemsAt w (some ad) qs) (j : Nat) (u : Value) (hj : (cells4 qs)[j]? = some u) : w.cell? (ad.add j) = some u := by
  have hlt : j < (cells4 qs).length := by
    rcases Nat.lt_or_ge j (cells4 qs).length with g | g
    · exact g
    · rw [List.getElem?_eq_none g] at hj; cases hj
  rw [cells4_len] at hlt
  obtain ⟨b, off, hA, _, h0, h1, h2, h3⟩ := h (j / 4) (by omega)
  cases hA
  obtain ⟨e0, e1, e2, e3⟩ := cells4_get qs (j / 4) (by omega)
  rw [show (Addr.mk b off none).add j = ⟨b, off + j, none⟩ by simp [Addr.add]]
  have hd : j = j / 4 * 4 + j % 4 := by omega
  have hr : j % 4 < 4 := Nat.mod_lt _ (by omega)
  rw [← hj]
  generalize hk : j / 4 = k at *
  generalize hi : j % 4 = i at *
  subst hd
  match i, hr with
  | 0, _ => exact h0.trans e0.symm
  | 1, _ => exact h1.trans e1.symm
  | 2, _ => exact h2.trans e2.symm
  | 3, _ => exact h3.trans e3.symm
theorem cell_lt {w : World} {p : Addr} {u : Value} (h : w.cell? p = some u) : p.block < w.heap.size := by
  rcases Nat.lt_or_ge p.block w.heap.size with g | g
  · exact g
  · exfalso; simp [World.cell?, Array.getElem?_eq_none g] at h
theorem snil_eq (A : Option Addr) (n c : Nat) (w : World) : Sem.run Try.prog (Op.equal 22 (.slice A n c) (.slice none 0 0)) w = .ok A.isNone w := by
  unfold Op.equal Op.maxDepth
  unfold Op.equalIn
  rw [Sem.run_bind, run_underlying Try.underlying22]
  cases A <;> rfl
theorem snil_run (A : Option Addr) (n c : Nat) (w : World) : Sem.run Try.prog (binOp BinOp.eql 22 (.slice A n c) (.slice none 0 0)) w = .ok (.bool A.isNone) w := by
  have h : binOp BinOp.eql 22 (.slice A n c) (.slice none 0 0) = (do pure (.bool (← Op.equal 22 (.slice A n c) (.slice none 0 0)))) := by simp only [binOp]
  rw [h, Sem.run_bind, snil_eq, Result.andThen_ok, Sem.run_pure]
def GivesQ (qs : List Q4) (w : World) (e : Ending) (w' : World) : Prop := ∃ A c, e = .returned (.slice A qs.length c) ∧ ItemsAt w' A qs ∧ Below w.heap.size w w' ∧ qs.length ≤ c ∧ (A = none → c = 0)
end Go.Proofs.Ytbfndcogieiejaa
