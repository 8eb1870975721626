/- The contract of Meet of package span (layer 9): what any spans, at most a thousand, have together. -/
import Derived.Test.YtpdlonlnkmjijaaSpanB
import Derived.BigRegion
namespace Go.Proofs.Ytpdlonlnkmjijaa
open Go.RowKit

theorem blk_lt {w : World} {g : Nat} {o : Obj} (h : w.heap[g]? = some o) : g < w.heap.size := by
  rcases Nat.lt_or_ge g w.heap.size with h1 | h1
  · exact h1
  · rw [Array.getElem?_eq_none h1] at h; cases h
theorem blk_frozen {w : World} {g : Nat} {cs : Array Value} {t : TypeId} (h : w.heap[g]? = some (.cells cs t (0, 0))) (i : Nat) : w.frozen? ⟨g, i, none⟩ = false := by
  simp [World.frozen?, h]
theorem blk_set {w : World} {g : Nat} {cs : Array Value} {t : TypeId} (h : w.heap[g]? = some (.cells cs t (0, 0))) (i : Nat) (u : Value) : (w.setCell ⟨g, i, none⟩ u).heap[g]? = some (.cells (cs.setIfInBounds i u) t (0, 0)) := by
  simp [World.setCell, Array.getElem?_modify, h]
theorem blk_far {w : World} {g : Nat} {o : Obj} (h : w.heap[g]? = some o) (p : Addr) (hp : g ≠ p.block) (u : Value) : (w.setCell p u).heap[g]? = some o := (Below.heap_setCell w p u g hp).trans h
theorem blk_alloc {w : World} {g : Nat} {o : Obj} (h : w.heap[g]? = some o) (o' : Obj) : (w.alloc o').heap[g]? = some o := (Below.heap_alloc w o' g (blk_lt h)).trans h

def Spans (w : World) (A : Option Addr) (l : List (Int × Int)) : Prop := ∀ j, j < l.length → ∃ b off, A = some ⟨b, off, none⟩ ∧ b < w.heap.size ∧ w.cell? ⟨b, off + j * 2, none⟩ = some (.int .i64 (l[j]?.getD (0, 0)).1) ∧ w.cell? ⟨b, off + j * 2 + 1, none⟩ = some (.int .i64 (l[j]?.getD (0, 0)).2)
def mF (l : List (Int × Int)) : Int := l.foldl (fun F p => if F < p.1 then p.1 else F) 0
def mU (l : List (Int × Int)) : Int := l.foldl (fun U p => if p.2 < U then p.2 else U) 12622780799
theorem mF_step (l : List (Int × Int)) (k : Nat) (hk : k < l.length) : mF (l.take (k + 1)) = if mF (l.take k) < (l[k]?.getD (0, 0)).1 then (l[k]?.getD (0, 0)).1 else mF (l.take k) := by
  unfold mF
  rw [List.take_add_one, List.foldl_append]
  simp [List.getElem?_eq_getElem hk]
theorem mU_step (l : List (Int × Int)) (k : Nat) (hk : k < l.length) : mU (l.take (k + 1)) = if (l[k]?.getD (0, 0)).2 < mU (l.take k) then (l[k]?.getD (0, 0)).2 else mU (l.take k) := by
  unfold mU
  rw [List.take_add_one, List.foldl_append]
  simp [List.getElem?_eq_getElem hk]
/-- what a round of Meet keeps: the span so far, and the block of the result -/
def MeetAt (w wr : World) (F U : Int) : Prop := Below w.heap.size w wr ∧ wr.heap[w.heap.size + 1 + 1]? = some (.cells #[.int .i64 F, .int .i64 U] 56 (0, 0)) ∧ wr.heap[w.heap.size]? = some (.cells #[.int .i64 0, .int .i64 0] 56 (0, 0))
theorem MeetAt.keep {w wr : World} {F U : Int} (h : MeetAt w wr F U) (x y : Int) (o : Obj) : MeetAt w (((wr.setCell ⟨w.heap.size + 1 + 1, 0, none⟩ (.int .i64 x)).setCell ⟨w.heap.size + 1 + 1, 1, none⟩ (.int .i64 y)).alloc o).drew x y := by
  obtain ⟨h1, h2, h3⟩ := h
  have hz := blk_lt h2
  refine ⟨(((h1.setCell (p := ⟨w.heap.size + 1 + 1, 0, none⟩) (by simp; omega) _).setCell (p := ⟨w.heap.size + 1 + 1, 1, none⟩) (by simp; omega) _).alloc (by simp; omega) o).drew, ?_, ?_⟩
  · exact blk_alloc (blk_set (blk_set h2 0 _) 1 _) o
  · exact blk_alloc (blk_far (blk_far h3 _ (by simp; omega) _) _ (by simp; omega) _) o
theorem MeetAt.start (w : World) : MeetAt w (((w.alloc (.cells #[.int .i64 0, .int .i64 0] 56)).alloc (.cells #[.int .i64 0, .int .i64 12622780799] 56)).alloc (.cells #[.int .i64 0, .int .i64 12622780799] 56)) 0 12622780799 := by
  refine ⟨below_a3 _ _ _ _, ?_, ?_⟩
  · have h := heap_alloc_new ((w.alloc (.cells #[.int .i64 0, .int .i64 0] 56)).alloc (.cells #[.int .i64 0, .int .i64 12622780799] 56)) (.cells #[.int .i64 0, .int .i64 12622780799] 56)
    rw [show ((w.alloc (.cells #[.int .i64 0, .int .i64 0] 56)).alloc (.cells #[.int .i64 0, .int .i64 12622780799] 56)).heap.size = w.heap.size + 1 + 1 by simp] at h
    exact h
  · exact blk_alloc (blk_alloc (heap_alloc_new w _) _) _
theorem held_eq {F U f u : Int} {v : Value} (h1 : F = f) (h2 : U = u) (h : heldV F U = v) : heldV f u = v := by rw [← h1, ← h2]; exact h
theorem meet_any (A : Option Addr) (n c : Nat) (l : List (Int × Int)) (w : World) (hn : n = l.length) (hl : l.length ≤ 1000) (hc : Spans w A l) :
    Calls Try.prog 52 #[.slice A n c] w fun e w' => e = .returned (heldV (mF l) (mU l)) ∧ Below w.heap.size w w' := by
  subst hn
  go_enter Try.func52, Try.ntmps52
  go_wp2_with (go_at_call 50; refine (whole_any _).mono ?_; rintro e w' ⟨rfl, rfl⟩)
  go_loopw [9] (fun i wr => ∃ (k : Nat) (F U : Int), k ≤ l.length ∧ i = .int .i64 k ∧ Hid (F = mF (l.take k) ∧ U = mU (l.take k)) ∧ MeetAt w wr F U) (fun i _ => l.length - (intOf i).toNat)
  case atStart => exact ⟨0, 0, 12622780799, Nat.zero_le _, rfl, Lib.hid ⟨rfl, rfl⟩, MeetAt.start w⟩
  case round =>
    obtain ⟨k, F, U, hk, rfl, HFU, HM⟩ := hrel
    obtain ⟨hM0, hM1, hM2⟩ := id HM
    have hF := cell_of_row _ _ 0 _ _ _ hM1
    have hU := cell_of_row _ _ 1 _ _ _ hM1
    have hf0 := blk_frozen hM1 0
    have hf1 := blk_frozen hM1 1
    have hz := blk_lt hM1
    have hp0 := cell_of_row _ _ 0 _ _ _ hM2
    have hp1 := cell_of_row _ _ 1 _ _ _ hM2
    have hq0 := blk_frozen hM2 0
    have hq1 := blk_frozen hM2 1
    by_cases hlt : k < l.length
    · obtain ⟨b, off, rfl, hbb, hc0, hc1⟩ := hc k hlt
      have s1 := mF_step l k hlt
      have s2 := mU_step l k hlt
      rw [← HFU.out.1] at s1
      rw [← HFU.out.2] at s2
      obtain ⟨x, hx⟩ : ∃ x, x = (l[k]?.getD (0, 0)).1 := ⟨_, rfl⟩
      obtain ⟨y, hy⟩ : ∃ y, y = (l[k]?.getD (0, 0)).2 := ⟨_, rfl⟩
      rw [← hx] at hc0 s1
      rw [← hy] at hc1 s2
      have g0 := (hM0.cell (p := ⟨b, off + k * 2, none⟩) (by simp; omega)).trans hc0
      have g1 := (hM0.cell (p := ⟨b, off + k * 2 + 1, none⟩) (by simp; omega)).trans hc1
      clear hx hy hc0 hc1 hc hM1 hM2 hM0
      by_cases h1 : F < x
      · by_cases h2 : y < U
        · rw [if_pos h1] at s1
          rw [if_pos h2] at s2
          have HS := Lib.hid (And.intro s1.symm s2.symm)
          clear s1 s2
          go_wp2
          go_region
          go_wp2
          go_roundw
          case rel => exact ⟨k + 1, x, y, by omega, by go_num, HS, HM.keep _ _ _⟩
          case measure => simp [intOf]; omega
        · rw [if_pos h1] at s1
          rw [if_neg h2] at s2
          have HS := Lib.hid (And.intro s1.symm s2.symm)
          clear s1 s2
          go_wp2
          go_region
          go_wp2
          go_roundw
          case rel => exact ⟨k + 1, x, U, by omega, by go_num, HS, HM.keep _ _ _⟩
          case measure => simp [intOf]; omega
      · by_cases h2 : y < U
        · rw [if_neg h1] at s1
          rw [if_pos h2] at s2
          have HS := Lib.hid (And.intro s1.symm s2.symm)
          clear s1 s2
          go_wp2
          go_region
          go_wp2
          go_roundw
          case rel => exact ⟨k + 1, F, y, by omega, by go_num, HS, HM.keep _ _ _⟩
          case measure => simp [intOf]; omega
        · rw [if_neg h1] at s1
          rw [if_neg h2] at s2
          have HS := Lib.hid (And.intro s1.symm s2.symm)
          clear s1 s2
          go_wp2
          go_region
          go_wp2
          go_roundw
          case rel => exact ⟨k + 1, F, U, by omega, by go_num, HS, HM.keep _ _ _⟩
          case measure => simp [intOf]; omega
    · have hkl : l.take k = l := List.take_of_length_le (by omega)
      have hs := fun w => sheld_any F U w
      have hzz : w.heap.size < wr.heap.size := by omega
      rw [hkl] at HFU
      have H1 := HFU.out.1
      have H2 := HFU.out.2
      clear hkl hc hM1 hM2
      rcases held_cases F U with h | ⟨a, b, h, h0, hab, hb2⟩
      · have HV := Lib.hid (held_eq H1 H2 h)
        rw [h] at hs
        clear h H1 H2
        go_wp2_with fail
        refine (hs _).mono ?_
        rintro e w1 ⟨rfl, hb⟩
        have hr0 : w1.cell? ⟨w.heap.size, 0, none⟩ = some (.int .i64 0) := (hb.cell (p := ⟨w.heap.size, 0, none⟩) (by simp; omega)).trans hp0
        have hr1 : w1.cell? ⟨w.heap.size, 1, none⟩ = some (.int .i64 0) := (hb.cell (p := ⟨w.heap.size, 1, none⟩) (by simp; omega)).trans hp1
        have hf2 : w1.frozen? ⟨w.heap.size, 0, none⟩ = false := (hb.frozen (p := ⟨w.heap.size, 0, none⟩) (by simp; omega)).trans hq0
        have hf3 : w1.frozen? ⟨w.heap.size, 1, none⟩ = false := (hb.frozen (p := ⟨w.heap.size, 1, none⟩) (by simp; omega)).trans hq1
        have hz1 : w.heap.size < w1.heap.size := by have := hb.size; omega
        go_wp2
        refine bodyPost_ret (v := .agg #[.int .i64 0, .int .i64 (-1)]) (by simp [results, Try.results52, go_sem, hr0, hr1]) rfl ⟨ret_val HV.out.symm, ?_⟩
        exact (((hM0).trans (hb.mono (by omega))).setCell (p := ⟨w.heap.size, 0, none⟩) (Nat.le_refl _) _).setCell (p := ⟨w.heap.size, 1, none⟩) (Nat.le_refl _) _
      · have HV := Lib.hid (held_eq H1 H2 h)
        rw [h] at hs
        clear h H1 H2
        go_wp2_with fail
        refine (hs _).mono ?_
        rintro e w1 ⟨rfl, hb⟩
        have hr0 : w1.cell? ⟨w.heap.size, 0, none⟩ = some (.int .i64 0) := (hb.cell (p := ⟨w.heap.size, 0, none⟩) (by simp; omega)).trans hp0
        have hr1 : w1.cell? ⟨w.heap.size, 1, none⟩ = some (.int .i64 0) := (hb.cell (p := ⟨w.heap.size, 1, none⟩) (by simp; omega)).trans hp1
        have hf2 : w1.frozen? ⟨w.heap.size, 0, none⟩ = false := (hb.frozen (p := ⟨w.heap.size, 0, none⟩) (by simp; omega)).trans hq0
        have hf3 : w1.frozen? ⟨w.heap.size, 1, none⟩ = false := (hb.frozen (p := ⟨w.heap.size, 1, none⟩) (by simp; omega)).trans hq1
        have hz1 : w.heap.size < w1.heap.size := by have := hb.size; omega
        go_wp2
        refine bodyPost_ret (v := .agg #[.int .i64 a, .int .i64 b]) (by simp [results, Try.results52, go_sem, hr0, hr1]) rfl ⟨ret_val HV.out.symm, ?_⟩
        exact (((hM0).trans (hb.mono (by omega))).setCell (p := ⟨w.heap.size, 0, none⟩) (Nat.le_refl _) _).setCell (p := ⟨w.heap.size, 1, none⟩) (Nat.le_refl _) _
end Go.Proofs.Ytpdlonlnkmjijaa
