/- Rows of the document's pieces (layer 3), in the door seat. -/
import Derived.Test.YtjlieamjlelipaaDoorCvF
namespace Go.Proofs.YtjlieamjlelipaaDoor
open Go.RowKit
set_option linter.unusedVariables false

theorem info_rp : (Tryd.prog.info? 88).map (fun i => (i.zero, i.size, i.bytes)) = some (some (.agg #[.int .i64 0, .int .i64 0, .int .i64 0]), 3, 24) := by kernel_rfl
/-- a row of the document's pieces of the call's own -/
def OwnR (w : World) (base : Nat) (v : Value) (ps : List P3) : Prop := w.ownsRow base 88 3 v ps.length (cells3 ps)
theorem OwnR.nil (w : World) (base : Nat) : OwnR w base (.slice none 0 0) [] := World.ownsRow_nil w base 88 3
theorem OwnR.at {w : World} {base : Nat} {v : Value} {ps : List P3} (h : OwnR w base v ps) : ∃ A c, v = .slice A ps.length c ∧ PiecesAt w A ps ∧ ps.length ≤ c := by
  rcases h.2 with ⟨hv, hn⟩ | ⟨g, cap, cur, hv, hg, hh, hc, hm, hs, ht⟩
  · refine ⟨none, 0, ?_, ?_, ?_⟩
    · rw [hn]; exact hv
    · intro j hj
      omega
    · omega
  · have hx : ∀ k i, k < ps.length → i < 3 → w.cell? ⟨g, 0 + k * 3 + i, none⟩ = (cells3 ps)[k * 3 + i]? := by
      intro k i hk hi
      rw [Nat.zero_add, blk_cell hh, ← ht, List.getElem?_take_of_lt (by omega), Array.getElem?_toList]
    refine ⟨some ⟨g, 0, none⟩, cap, hv, fun j hj => ⟨g, 0, rfl, lt_of_block hh, ?_⟩, hc⟩
    obtain ⟨h1, h2, h3⟩ := cells3_get ps j hj
    exact ⟨(hx j 0 hj (by omega)).trans h1, (hx j 1 hj (by omega)).trans h2, (hx j 2 hj (by omega)).trans h3⟩
theorem OwnR.below {w w' : World} {base : Nat} {v : Value} {ps : List P3} (h : OwnR w base v ps) (hb : Below w.heap.size w w') : OwnR w' base v ps := by
  obtain ⟨h1, h2⟩ := h
  refine ⟨h1, ?_⟩
  rcases h2 with h2 | ⟨g, cap, cur, hv, hg, hh, r⟩
  · exact .inl h2
  · exact .inr ⟨g, cap, cur, hv, hg, by rw [hb.block g (lt_of_block hh)]; exact hh, r⟩
theorem OwnR.snoc {w' : World} {base : Nat} {v' : Value} {ps : List P3} {p : P3} (h : w'.ownsRow base 88 3 v' (ps.length + 1) (cells3 ps ++ [.int .i64 p.1, .int .i64 p.2.1, .int .i64 p.2.2])) : OwnR w' base v' (ps ++ [p]) := by
  unfold OwnR
  rw [List.length_append, cells3_snoc]
  exact h
theorem ownr_block {w : World} {base : Nat} {v : Value} {ps : List P3} (h : OwnR w base v ps) : ∀ k, v.ownBlock = some k → base ≤ k := fun k hk => (World.ownsRow.lt h k hk).1
/-- the numbers of a mask rise -/
theorem nums_sorted (p : Nat → Bool) : ∀ k, (∀ j, j < (numsP p k).length → 0 ≤ (numsP p k)[j]?.getD 0 ∧ (numsP p k)[j]?.getD 0 < (k : Int)) ∧ (∀ j, 0 < j → j < (numsP p k).length → (numsP p k)[j - 1]?.getD 0 < (numsP p k)[j]?.getD 0)
  | 0 => ⟨fun j hj => absurd hj (Nat.not_lt_zero j), fun j _ hj => absurd hj (Nat.not_lt_zero j)⟩
  | k + 1 => by
    obtain ⟨h1, h2⟩ := nums_sorted p k
    cases hp : p k
    · rw [numsP_no p k hp]
      exact ⟨fun j hj => ⟨(h1 j hj).1, by have := (h1 j hj).2; omega⟩, h2⟩
    · rw [numsP_yes p k hp]
      have hin : ∀ j, j < (numsP p k).length → (numsP p k ++ [(k : Int)])[j]?.getD 0 = (numsP p k)[j]?.getD 0 := fun j hj => by rw [List.getElem?_append_left hj]
      have hlast : (numsP p k ++ [(k : Int)])[(numsP p k).length]?.getD 0 = (k : Int) := by rw [List.getElem?_append_right (Nat.le_refl _)]; simp
      refine ⟨fun j hj => ?_, fun j h0 hj => ?_⟩
      · rw [List.length_append] at hj
        by_cases e : j < (numsP p k).length
        · rw [hin j e]
          exact ⟨(h1 j e).1, by have := (h1 j e).2; omega⟩
        · obtain rfl : j = (numsP p k).length := by simp at hj; omega
          rw [hlast]; omega
      · rw [List.length_append] at hj
        by_cases e : j < (numsP p k).length
        · rw [hin j e, hin (j - 1) (by omega)]
          exact h2 j h0 e
        · obtain rfl : j = (numsP p k).length := by simp at hj; omega
          rw [hlast, hin _ (by omega)]
          exact (h1 _ (by omega)).2
theorem nums_rise (p : Nat → Bool) (k : Nat) (hk : k ≤ 10000) : Rise (numsP p k) := by
  obtain ⟨h1, h2⟩ := nums_sorted p k
  intro j hj
  exact ⟨(h1 j hj).1, by have := (h1 j hj).2; omega, fun h0 => h2 j h0 hj⟩
end Go.Proofs.YtjlieamjlelipaaDoor
