/- Contract of slices.Clone of items (layers 24, 28). -/
import Derived.Test.YtahlegempjlbbaaDoorItmC
namespace Go.Proofs.YtahlegempjlbbaaDoor
open Go.RowKit
set_option linter.unusedVariables false

theorem info_item : (Tryd.prog.info? 36).map (fun i => (i.zero, i.size, i.bytes)) = some (some (.agg #[.int .i64 0, .int .i64 0, .int .i64 0, .int .i64 0]), 4, 32) := by kernel_rfl
/-- a row of items of the call's own -/
def OwnQ (w : World) (base : Nat) (v : Value) (qs : List Q4) : Prop := w.ownsRow base 36 4 v qs.length (cells4 qs)
theorem OwnQ.at {w : World} {base : Nat} {v : Value} {qs : List Q4} (h : OwnQ w base v qs) : ∃ A c, v = .slice A qs.length c ∧ ItemsAt w A qs ∧ qs.length ≤ c := by
  rcases h.2 with ⟨hv, hn⟩ | ⟨g, cap, cur, hv, hg, hh, hc, hm, hs, ht⟩
  · refine ⟨none, 0, ?_, ?_, ?_⟩
    · rw [hn]; exact hv
    · intro j hj
      omega
    · omega
  · have hx : ∀ k i, k < qs.length → i < 4 → w.cell? ⟨g, 0 + k * 4 + i, none⟩ = (cells4 qs)[k * 4 + i]? := by
      intro k i hk hi
      rw [Nat.zero_add, blk_cell hh, ← ht, List.getElem?_take_of_lt (by omega), Array.getElem?_toList]
    refine ⟨some ⟨g, 0, none⟩, cap, hv, fun j hj => ⟨g, 0, rfl, lt_of_block hh, ?_⟩, hc⟩
    obtain ⟨h1, h2, h3, h4⟩ := cells4_get qs j hj
    exact ⟨(hx j 0 hj (by omega)).trans h1, (hx j 1 hj (by omega)).trans h2, (hx j 2 hj (by omega)).trans h3, (hx j 3 hj (by omega)).trans h4⟩
theorem ownq_block {w : World} {base : Nat} {v : Value} {qs : List Q4} (h : OwnQ w base v qs) : ∀ k, v.ownBlock = some k → base ≤ k := fun k hk => (World.ownsRow.lt h k hk).1
theorem cells4_one : ∀ qs : List Q4, ∀ u ∈ cells4 qs, u.oneCell' = true
  | [], u, h => by cases h
  | q :: qs, u, h => by
    unfold cells4 at h
    simp only [List.mem_cons] at h
    rcases h with rfl | rfl | rfl | rfl | h
    · rfl
    · rfl
    · rfl
    · rfl
    · exact cells4_one qs u h
theorem items_cells {w : World} {ad : Addr} {qs : List Q4} (h : ItemsAt w (some ad) qs) (j : Nat) (u : Value) (hj : (cells4 qs)[j]? = some u) : w.cell? (ad.add j) = some u := by
  have hlt : j < (cells4 qs).length := by
    rcases Nat.lt_or_ge j (cells4 qs).length with g | g
    · exact g
    · rw [List.getElem?_eq_none g] at hj; cases hj
  rw [cells4_len] at hlt
  obtain ⟨b, off, hA, _, h0, h1, h2, h3⟩ := h (j / 4) (by omega)
  cases hA
  obtain ⟨e0, e1, e2, e3⟩ := cells4_get qs (j / 4) (by omega)
  rw [show (Addr.mk b off none).add j = ⟨b, off + j, none⟩ by simp [Addr.add]]
  have hd : j = j / 4 * 4 + j % 4 := by omega
  have hr : j % 4 < 4 := Nat.mod_lt _ (by omega)
  rw [← hj]
  generalize hk : j / 4 = k at *
  generalize hi : j % 4 = i at *
  subst hd
  match i, hr with
  | 0, _ => exact h0.trans e0.symm
  | 1, _ => exact h1.trans e1.symm
  | 2, _ => exact h2.trans e2.symm
  | 3, _ => exact h3.trans e3.symm
theorem cell_lt {w : World} {p : Addr} {u : Value} (h : w.cell? p = some u) : p.block < w.heap.size := by
  rcases Nat.lt_or_ge p.block w.heap.size with g | g
  · exact g
  · exfalso; simp [World.cell?, Array.getElem?_eq_none g] at h
theorem snil_eq (A : Option Addr) (n c : Nat) (w : World) : Sem.run Tryd.prog (Op.equal 22 (.slice A n c) (.slice none 0 0)) w = .ok A.isNone w := by
  unfold Op.equal Op.maxDepth
  unfold Op.equalIn
  rw [Sem.run_bind, run_underlying Tryd.underlying22]
  cases A <;> rfl
theorem snil_run (A : Option Addr) (n c : Nat) (w : World) : Sem.run Tryd.prog (binOp BinOp.eql 22 (.slice A n c) (.slice none 0 0)) w = .ok (.bool A.isNone) w := by
  have h : binOp BinOp.eql 22 (.slice A n c) (.slice none 0 0) = (do pure (.bool (← Op.equal 22 (.slice A n c) (.slice none 0 0)))) := by simp only [binOp]
  rw [h, Sem.run_bind, snil_eq, Result.andThen_ok, Sem.run_pure]
def GivesQ (qs : List Q4) (w : World) (e : Ending) (w' : World) : Prop := ∃ A c, e = .returned (.slice A qs.length c) ∧ ItemsAt w' A qs ∧ Below w.heap.size w w' ∧ qs.length ≤ c ∧ (A = none → c = 0)
set_option maxHeartbeats 1600000 in
set_option maxRecDepth 20000 in
theorem clone_any (A : Option Addr) (c : Nat) (qs : List Q4) (w : World) (hl : qs.length ≤ 1000000) (hq : ItemsAt w A qs) (hA : A = none → c = 0) :
    Calls Tryd.prog 20 #[.slice A qs.length c] w (GivesQ qs w) := by
  obtain ⟨i0, hi, hz0, hz1, hz2⟩ := info_parts info_item
  cases A with
  | none =>
    obtain rfl := hA rfl
    have h0 : qs.length = 0 := by
      rcases Nat.eq_zero_or_pos qs.length with h | h
      · exact h
      · obtain ⟨b, off, h1, _⟩ := hq 0 h
        cases h1
    have e0 : qs = [] := List.length_eq_zero_iff.1 h0
    subst e0
    go_enter Tryd.func20, Tryd.ntmps20
    have hnil := snil_run none 0 0 w
    rw [show (none : Option Addr).isNone = true from rfl] at hnil
    go_wp2
    go_ret
    exact ⟨none, 0, rfl, ItemsAt.nil _ _, Below.refl _ _, Nat.le_refl _, fun _ => rfl⟩
  | some ad =>
    have HC := Lib.hid (fun j u hj => items_cells hq j u hj)
    have HL := Lib.hid (cells4_len qs)
    have HO := Lib.hid (cells4_one qs)
    clear hq hA
    have hown : (w.alloc (.cells #[] 36)).ownsRow w.heap.size 36 4 (.slice (some ⟨w.heap.size, 0, none⟩) 0 0) 0 [] :=
      ⟨rfl, .inr ⟨w.heap.size, 0, #[], rfl, Nat.le_refl _, blk_new w _, Nat.le_refl _, by simp, rfl, rfl⟩⟩
    have HW := Lib.hid hown
    have HB := Lib.hid (show Below w.heap.size w (w.alloc (.cells #[] 36)) from (Below.refl _ _).alloc (Nat.le_refl _) _)
    clear hown
    have hnil := snil_run (some ad) qs.length c w
    rw [show (some ad : Option Addr).isNone = false from rfl] at hnil
    go_enter Tryd.func20, Tryd.ntmps20
    go_wp2_with ((at_builtin; refine wpList_append_own _ rfl _ _ 22 rfl w.heap.size 36 i0 (.agg #[.int .i64 0, .int .i64 0, .int .i64 0, .int .i64 0]) 4 32 Tryd.underlying22 hi hz0 hz1 hz2 rfl (by decide) _ _ _ rfl HW.out ad qs.length c (cells4 qs) rfl ?c1 ?c2 ?c3 ?c4 ?c5 ?c6 ?_))
    case c1 => exact HL.out
    case c2 =>
      intro j u hj
      have h := HC.out j u hj
      obtain ⟨b, off, spot⟩ := ad
      exact (HB.out.cell (p := (Addr.mk b off spot).add j) (cell_lt h)).trans h
    case c3 => exact HO.out
    case c4 => unfold maxLen; omega
    case c5 => omega
    case c6 => simp
    intro v' w1 hown1 hgrow _
    have hown2 : OwnQ w1 w.heap.size v' qs := by
      unfold OwnQ
      simpa using hown1
    obtain ⟨A', c', rfl, hat, hcc⟩ := hown2.at
    have HA' := Lib.hid (show A' = none → c' = 0 from fun h => by
      rcases hown2.2 with ⟨hv, _⟩ | ⟨g, cap, cur, hv, _⟩
      · injection hv
      · rw [h] at hv; injection hv with h1; cases h1)
    have HAT := Lib.hid hat
    have HB1 := Lib.hid (Below.grown HB.out hgrow (by simp) (fun k hk => by simp [Value.ownBlock] at hk; omega))
    clear hown1 hgrow hown2 hat
    go_wp2
    go_ret
    exact ⟨A', c', rfl, HAT.out, HB1.out, hcc, HA'.out⟩
end Go.Proofs.YtahlegempjlbbaaDoor
