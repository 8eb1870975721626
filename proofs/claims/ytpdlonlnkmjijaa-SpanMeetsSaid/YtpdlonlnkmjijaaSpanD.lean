/- The contract of the document's Meet of layer 9, over any spans, at most a thousand. -/
import Derived.Test.YtpdlonlnkmjijaaSpanC
namespace Go.Proofs.Ytpdlonlnkmjijaa
open Go.RowKit

/-- what a round of the document's Meet keeps -/
def RMeetAt (w wr : World) (F U : Int) : Prop := Below w.heap.size w wr ∧ wr.heap[w.heap.size + 1]? = some (.cells #[.int .i64 F, .int .i64 U] 57 (0, 0)) ∧ wr.heap[w.heap.size]? = some (.cells #[.int .i64 0, .int .i64 0] 57 (0, 0))
theorem RMeetAt.drewN {w wr : World} {F U : Int} (h : RMeetAt w wr F U) (n : Nat) : RMeetAt w (wr.drewN n) F U := ⟨h.1.trans (below_draws _ _ _), h.2.1, h.2.2⟩
theorem RMeetAt.drew {w wr : World} {F U : Int} (h : RMeetAt w wr F U) : RMeetAt w wr.drew F U := ⟨h.1.drew, h.2.1, h.2.2⟩
theorem RMeetAt.keepF {w wr : World} {F U : Int} (h : RMeetAt w wr F U) (x : Int) : RMeetAt w (wr.setCell ⟨w.heap.size + 1, 0, none⟩ (.int .i64 x)) x U := by
  obtain ⟨h1, h2, h3⟩ := h
  exact ⟨h1.setCell (p := ⟨w.heap.size + 1, 0, none⟩) (by simp) _, blk_set h2 0 _, blk_far h3 _ (by simp) _⟩
theorem RMeetAt.keepU {w wr : World} {F U : Int} (h : RMeetAt w wr F U) (x : Int) : RMeetAt w (wr.setCell ⟨w.heap.size + 1, 1, none⟩ (.int .i64 x)) F x := by
  obtain ⟨h1, h2, h3⟩ := h
  exact ⟨h1.setCell (p := ⟨w.heap.size + 1, 1, none⟩) (by simp) _, blk_set h2 1 _, blk_far h3 _ (by simp) _⟩
theorem RMeetAt.start (w : World) : RMeetAt w ((w.alloc (.cells #[.int .i64 0, .int .i64 0] 57)).alloc (.cells #[.int .i64 0, .int .i64 12622780799] 57)) 0 12622780799 := by
  refine ⟨below_a2 _ _ _, ?_, ?_⟩
  · have h := heap_alloc_new (w.alloc (.cells #[.int .i64 0, .int .i64 0] 57)) (.cells #[.int .i64 0, .int .i64 12622780799] 57)
    rw [show (w.alloc (.cells #[.int .i64 0, .int .i64 0] 57)).heap.size = w.heap.size + 1 by simp] at h
    exact h
  · exact blk_alloc (heap_alloc_new w _) _
theorem rmeet_any (A : Option Addr) (n c : Nat) (l : List (Int × Int)) (w : World) (hn : n = l.length) (hl : l.length ≤ 1000) (hc : Spans w A l) :
    Calls Try.prog 53 #[.slice A n c] w fun e w' => e = .returned (heldV (mF l) (mU l)) ∧ Below w.heap.size w w' := by
  subst hn
  go_enter Try.func53, Try.ntmps53
  go_wp2
  go_loopw [4] (fun i wr => ∃ (k : Nat) (F U : Int), k ≤ l.length ∧ i = .int .i64 k ∧ Hid (F = mF (l.take k) ∧ U = mU (l.take k)) ∧ RMeetAt w wr F U) (fun i _ => l.length - (intOf i).toNat)
  case atStart => exact ⟨0, 0, 12622780799, Nat.zero_le _, rfl, Lib.hid ⟨rfl, rfl⟩, RMeetAt.start w⟩
  case round =>
    obtain ⟨k, F, U, hk, rfl, HFU, HM⟩ := hrel
    obtain ⟨hM0, hM1, hM2⟩ := id HM
    have hF := cell_of_row _ _ 0 _ _ _ hM1
    have hU := cell_of_row _ _ 1 _ _ _ hM1
    have hf0 := blk_frozen hM1 0
    have hf1 := blk_frozen hM1 1
    have hz := blk_lt hM1
    have hp0 := cell_of_row _ _ 0 _ _ _ hM2
    have hp1 := cell_of_row _ _ 1 _ _ _ hM2
    have hq0 := blk_frozen hM2 0
    have hq1 := blk_frozen hM2 1
    by_cases hlt : k < l.length
    · obtain ⟨b, off, rfl, hbb, hc0, hc1⟩ := hc k hlt
      have s1 := mF_step l k hlt
      have s2 := mU_step l k hlt
      rw [← HFU.out.1] at s1
      rw [← HFU.out.2] at s2
      obtain ⟨x, hx⟩ : ∃ x, x = (l[k]?.getD (0, 0)).1 := ⟨_, rfl⟩
      obtain ⟨y, hy⟩ : ∃ y, y = (l[k]?.getD (0, 0)).2 := ⟨_, rfl⟩
      rw [← hx] at hc0 s1
      rw [← hy] at hc1 s2
      have g0 := (hM0.cell (p := ⟨b, off + k * 2, none⟩) (by simp; omega)).trans hc0
      have g1 := (hM0.cell (p := ⟨b, off + k * 2 + 1, none⟩) (by simp; omega)).trans hc1
      have hne : b ≠ w.heap.size + 1 := by omega
      clear hx hy hc0 hc1 hc hM1 hM2 hM0
      by_cases h1 : F < x
      · by_cases h2 : y < U
        · rw [if_pos h1] at s1
          rw [if_pos h2] at s2
          have HS := Lib.hid (And.intro s1.symm s2.symm)
          clear s1 s2
          go_wp2
          go_region
          go_wp2
          go_region
          go_wp2
          go_roundw
          case rel => exact ⟨k + 1, x, y, by omega, by go_num, HS, ((HM.keepF x).keepU y).drew.drew⟩
          case measure => simp [intOf]; omega
        · rw [if_pos h1] at s1
          rw [if_neg h2] at s2
          have HS := Lib.hid (And.intro s1.symm s2.symm)
          clear s1 s2
          go_wp2
          go_region
          go_wp2
          go_region
          go_wp2
          go_roundw
          case rel => exact ⟨k + 1, x, U, by omega, by go_num, HS, (HM.keepF x).drew.drew⟩
          case measure => simp [intOf]; omega
      · by_cases h2 : y < U
        · rw [if_neg h1] at s1
          rw [if_pos h2] at s2
          have HS := Lib.hid (And.intro s1.symm s2.symm)
          clear s1 s2
          go_wp2
          go_region
          go_wp2
          go_region
          go_wp2
          go_roundw
          case rel => exact ⟨k + 1, F, y, by omega, by go_num, HS, (HM.keepU y).drew.drew⟩
          case measure => simp [intOf]; omega
        · rw [if_neg h1] at s1
          rw [if_neg h2] at s2
          have HS := Lib.hid (And.intro s1.symm s2.symm)
          clear s1 s2
          go_wp2
          go_region
          go_wp2
          go_region
          go_wp2
          go_roundw
          case rel => exact ⟨k + 1, F, U, by omega, by go_num, HS, HM.drew.drew⟩
          case measure => simp [intOf]; omega
    · have hkl : l.take k = l := List.take_of_length_le (by omega)
      have hs := fun w => rheld_any F U w
      have hzz : w.heap.size < wr.heap.size := by omega
      rw [hkl] at HFU
      have H1 := HFU.out.1
      have H2 := HFU.out.2
      clear hkl hc hM1 hM2
      rcases held_cases F U with h | ⟨a, b, h, h0, hab, hb2⟩
      · have HV := Lib.hid (held_eq H1 H2 h)
        rw [h] at hs
        clear h H1 H2
        go_wp2_with fail
        refine (hs _).mono ?_
        rintro e w1 ⟨rfl, hb⟩
        have hr0 : w1.cell? ⟨w.heap.size, 0, none⟩ = some (.int .i64 0) := (hb.cell (p := ⟨w.heap.size, 0, none⟩) (by simp; omega)).trans hp0
        have hr1 : w1.cell? ⟨w.heap.size, 1, none⟩ = some (.int .i64 0) := (hb.cell (p := ⟨w.heap.size, 1, none⟩) (by simp; omega)).trans hp1
        have hf2 : w1.frozen? ⟨w.heap.size, 0, none⟩ = false := (hb.frozen (p := ⟨w.heap.size, 0, none⟩) (by simp; omega)).trans hq0
        have hf3 : w1.frozen? ⟨w.heap.size, 1, none⟩ = false := (hb.frozen (p := ⟨w.heap.size, 1, none⟩) (by simp; omega)).trans hq1
        have hz1 : w.heap.size < w1.heap.size := by have := hb.size; omega
        go_wp2
        refine bodyPost_ret (v := .agg #[.int .i64 0, .int .i64 (-1)]) (by simp [results, Try.results53, go_sem, hr0, hr1]) rfl ⟨ret_val HV.out.symm, ?_⟩
        exact (((hM0).trans (hb.mono (by omega))).setCell (p := ⟨w.heap.size, 0, none⟩) (Nat.le_refl _) _).setCell (p := ⟨w.heap.size, 1, none⟩) (Nat.le_refl _) _
      · have HV := Lib.hid (held_eq H1 H2 h)
        rw [h] at hs
        clear h H1 H2
        go_wp2_with fail
        refine (hs _).mono ?_
        rintro e w1 ⟨rfl, hb⟩
        have hr0 : w1.cell? ⟨w.heap.size, 0, none⟩ = some (.int .i64 0) := (hb.cell (p := ⟨w.heap.size, 0, none⟩) (by simp; omega)).trans hp0
        have hr1 : w1.cell? ⟨w.heap.size, 1, none⟩ = some (.int .i64 0) := (hb.cell (p := ⟨w.heap.size, 1, none⟩) (by simp; omega)).trans hp1
        have hf2 : w1.frozen? ⟨w.heap.size, 0, none⟩ = false := (hb.frozen (p := ⟨w.heap.size, 0, none⟩) (by simp; omega)).trans hq0
        have hf3 : w1.frozen? ⟨w.heap.size, 1, none⟩ = false := (hb.frozen (p := ⟨w.heap.size, 1, none⟩) (by simp; omega)).trans hq1
        have hz1 : w.heap.size < w1.heap.size := by have := hb.size; omega
        go_wp2
        refine bodyPost_ret (v := .agg #[.int .i64 a, .int .i64 b]) (by simp [results, Try.results53, go_sem, hr0, hr1]) rfl ⟨ret_val HV.out.symm, ?_⟩
        exact (((hM0).trans (hb.mono (by omega))).setCell (p := ⟨w.heap.size, 0, none⟩) (Nat.le_refl _) _).setCell (p := ⟨w.heap.size, 1, none⟩) (Nat.le_refl _) _
end Go.Proofs.Ytpdlonlnkmjijaa
