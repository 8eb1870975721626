/- mask.All's iterator as a range over a function wants it, and slices.Collect over it (layers 2, 3). -/
import Derived.Test.YtjpdfbljhbgbcaaDoorMaskI
import Derived.RangeFuncNested
import Derived.RangeFuncBound
import Derived.RangeFuncCalls
import Derived.RangeFuncLeaves
import Derived.RangeFuncBox
import Derived.Shelf.Abstract
import Derived.Shelf.RegionOpen
import Derived.OwnWalkIn
import Derived.TacticsInMore
import Derived.LoopNIn
import Derived.LoopIn
import Derived.Maps.AppendAt
namespace Go.Proofs.YtjpdfbljhbgbcaaDoor
open Go.RowKit Go.Shelf
set_option linter.unusedVariables false
attribute [local go_sem] Oper.semAt_some

theorem Tab.keeps {n : Nat} {w w' : World} (h : Tab w) (hb : Below n w w') (hn : 1 < n) : Tab w' := fun j hj => (hb.cell (p := ⟨1, j, none⟩) hn).trans (h j hj)
set_option maxHeartbeats 2000000 in
set_option maxRecDepth 100000 in
theorem mseq1_in (n : Nat) (hn : 1 ≤ n) (M : Nat → Bool) (l bx n₀ : Nat) (J Jx : List Int → World → Prop)
    (hY : ∀ pre x W, J pre W → pre.length < 64 → YieldAt Fence.wide (n - 1) Tryd.prog l #[.int .i64 x] W fun e W' =>
      (e = .returned (.bool true) ∧ J (pre ++ [x]) W' ∧ Below n₀ W W') ∨ (e = .returned (.bool false) ∧ Jx (pre ++ [x]) W'))
    (W : World) (hbx : W.cell? ⟨bx, 0, none⟩ = some (.int .u64 (mk M))) (hT : Tab W) (hTn : 1 < n₀) (h0 : J [] W) :
    CallsIn Fence.wide n Tryd.prog 57 #[.func (.yield l) #[] #[], .pointer (some ⟨bx, 0, none⟩)] W fun e W' => (∃ v, e = .returned v) ∧
      ((∃ ys, ys = numsP M 64 ∧ J ys W') ∨ (∃ pre, pre <+: numsP M 64 ∧ Jx pre W')) := by
  have HT := Lib.hid hT
  rw [← rest_all M] at hbx
  clear hT
  generalize hz : rest M 0 = x0 at hbx
  have HZ := Lib.hid hz
  clear hz
  refine callsIn_of_wp Tryd.func57 rfl trivial ?_ rfl
  simp only [Tryd.ntmps57, List.size_toArray, List.length_cons, List.length_nil, Nat.reduceAdd, Nat.reduceSub, Array.replicate_succ, Array.replicate_zero, List.push_toArray, List.append_toArray, List.nil_append, List.cons_append]
  gi_wp2
  clear hbx
  gi_loopw [3] (fun x wr => ∃ j : Nat, j ≤ 64 ∧ x = .int .u64 (rest M j) ∧ J (numsP M j) wr ∧ Below n₀ W wr) (fun x _ => (intOf x).toNat)
  case atStart => exact ⟨0, by omega, by rw [HZ.out], h0, Below.refl _ _⟩
  case round =>
    obtain ⟨j, hj, rfl, hJs, hb⟩ := hrel
    have HB1 := Lib.hid hb
    have HT1 := Lib.hid (HT.out.keeps hb hTn)
    have hnl := numsP_le M j
    by_cases hx : rest M j = 0
    · have HE := Lib.hid (rest_end M j hj hx)
      have d : (((rest M j : Nat) : Int) == 0) = true := by rw [beq_iff_eq]; omega
      have d' : (((rest M j : Nat) : Int) != 0) = false := by rw [bne_eq_false_iff_eq]; omega
      clear hb hx
      generalize rest M j = r at d d' ⊢
      gi_wp2
      go_end0
      exact ⟨⟨_, rfl⟩, .inl ⟨_, HE.out.symm, hJs⟩⟩
    · obtain ⟨h1, h2, h3, h4⟩ := rest_step M j hx
      have hr := rest_lt M j
      have K1 := tz_any (rest M j) wr hr hx HT1.out
      have hck := clr_key (rest M j) hr hx
      rw [h4] at hck
      have HS := Lib.hid h3
      have hdec : rest M (lo (rest M j) + 1) < rest M j := by
        rw [← h4]
        exact Nat.lt_of_le_of_lt Nat.and_le_right (by omega)
      have HJ := Lib.hid hj
      obtain ⟨fn, tmps, assign, body, hy, hR⟩ := hY _ ((lo (rest M j) : Nat) : Int) wr hJs (by omega)
      clear hb h3 h4 hr
      generalize lo (rest M j) = a at K1 hy hR hck HS hdec h1 h2
      generalize hrr : rest M j = r at K1 hck hdec hx
      have d : ((r : Int) == 0) = false := by rw [beq_eq_false_iff_ne]; omega
      have d' : ((r : Int) != 0) = true := by rw [bne_iff_ne]; omega
      clear hrr hx
      gi_wp2_with (refine ⟨trivial, ?_⟩; gi_at_call 58; refine (callsIn_wide.2 K1).mono ?_; rintro e w1 ⟨rfl, rfl⟩)
      refine hR.mono ?_
      rintro e W3 (⟨rfl, hJ3, hk3⟩ | ⟨rfl, hJx3⟩)
      · gi_wp2
        go_roundw
        case rel => exact ⟨a + 1, by omega, rfl, by rw [HS.out]; exact hJ3, HB1.out.trans hk3⟩
        case measure => simp [intOf]; omega
      · gi_wp2
        refine bodyPost_ret (results_none rfl _ _ _) rfl ?_
        obtain ⟨t, ht⟩ := numsP_grow M (a + 1) 64 (by omega)
        exact ⟨⟨_, rfl⟩, .inr ⟨numsP M (a + 1), ⟨t, ht.symm⟩, by rw [HS.out]; exact hJx3⟩⟩
theorem mseq_stops (n : Nat) (hn : 1 ≤ n) (M : Nat → Bool) (bx n₀ : Nat) (w : World) (hbx : bx < w.heap.size) (hn₀ : n₀ ≤ w.heap.size) (hc : w.cell? ⟨bx, 0, none⟩ = some (.int .u64 (mk M))) (hT : Tab w) (hTn : 1 < n₀) :
    SeqStopsK Fence.wide n Tryd.prog 57 #[.pointer (some ⟨bx, 0, none⟩)] (fun x : Int => #[Value.int .i64 x]) (Below n₀) (fun ys => ys = numsP M 64) (fun pre => pre <+: numsP M 64) 64 w :=
  fun l J Jx W hW _ _ hY h0 => mseq1_in n hn M l bx n₀ J Jx hY W ((hW.cell (p := ⟨bx, 0, none⟩) hbx).trans hc) (hT.keeps hW (by omega)) hTn h0
end Go.Proofs.YtjpdfbljhbgbcaaDoor
