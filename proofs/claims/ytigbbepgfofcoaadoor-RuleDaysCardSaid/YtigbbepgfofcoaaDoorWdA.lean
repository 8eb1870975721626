/- wide.Full and wide.Of (layer 4). -/
import Derived.Test.YtigbbepgfofcoaaDoorWdP
import Derived.LoopTactic
import Derived.StillTailTactics
import Derived.LoopN
import Derived.WalkMore
import Derived.Laws.StructEq
namespace Go.Proofs.YtigbbepgfofcoaaDoor
open Go.RowKit
set_option linter.unusedVariables false

def ones7 (k j : Nat) : Nat := if j < k then 18446744073709551615 else 0
def fullS (j : Nat) : Nat := if j < 6 then 18446744073709551615 else 65535
theorem full_wv : ∀ j, j < 7 → fullS j = wv fullW j := by
  intro j hj
  refine mk_eq (m := fullS j) _ (by unfold fullS; split <;> omega) fun i hi => ?_
  unfold fullS fullW
  split
  · rw [decide_eq_true (by omega), show (18446744073709551615 : Nat) = 2 ^ 64 - 1 by decide, Nat.testBit_two_pow_sub_one]
    simp [hi]
  · rw [show (65535 : Nat) = 2 ^ 16 - 1 by decide, Nat.testBit_two_pow_sub_one]
    rw [Bool.eq_iff_iff, decide_eq_true_eq, decide_eq_true_eq]
    omega
set_option maxHeartbeats 800000 in
set_option maxRecDepth 20000 in
theorem wfull_any (w : World) : Calls Tryd.prog 93 #[] w fun e w' => e = .returned (S7 fullW) ∧ Below w.heap.size w w' := by
  have HR0 := Lib.hid ((Sev.new w (fun _ => 0)).alloc (.cells (c7 fun _ => 0) 73))
  have HS0 := Lib.hid (show Sev ((w.alloc (.cells (c7 fun _ => 0) 73)).alloc (.cells (c7 fun _ => 0) 73)) (w.heap.size + 1) (fun _ => 0) by
    have q := Sev.new (w.alloc (.cells (c7 fun _ => 0) 73)) (fun _ => 0)
    rwa [World.size_alloc] at q)
  have HB0 := Lib.hid (show Below w.heap.size w ((w.alloc (.cells (c7 fun _ => 0) 73)).alloc (.cells (c7 fun _ => 0) 73)) from ((Below.refl _ _).alloc (Nat.le_refl _) _).alloc (by simp) _)
  go_enter Tryd.func93, Tryd.ntmps93
  go_wp2
  go_loopw [2, 3] (fun _ i wr => ∃ k : Nat, k ≤ 7 ∧ i = .int .i64 k ∧ Sev wr (w.heap.size + 1) (ones7 k) ∧ Sev wr w.heap.size (fun _ => 0) ∧ Below w.heap.size w wr) (fun _ i _ => 7 - (intOf i).toNat)
  case atStart => exact ⟨0, by omega, rfl, HS0.out.congr fun j _ => rfl, HR0.out, HB0.out⟩
  case round =>
    obtain ⟨k, hk, rfl, hs, hr, hb⟩ := hrel
    have HS := Lib.hid hs
    have HR := Lib.hid hr
    have HB := Lib.hid hb
    by_cases hlt : k < 7
    · have ck := hs.cell k hlt
      have fk := hs.free k
      have d : decide ((k : Int) < 7) = true := decide_eq_true (by omega)
      have hk0 : (0 : Int) ≤ k := by omega
      clear hs hr hb
      go_wp2
      go_roundw
      case rel => exact ⟨k + 1, by omega, by go_num, HS.out.put k 18446744073709551615 hlt (by unfold ones7; rw [if_pos (by omega)]) (fun j hj hne => by unfold ones7; split <;> split <;> omega), HR.out.but (But.setCell (But.refl (fun i => i = w.heap.size + 1) wr) (.inr rfl) _) (by omega), HB.out.setCell (by show w.heap.size ≤ w.heap.size + 1; omega) _⟩
      case measure => simp [intOf]; omega
    · obtain rfl : k = 7 := by omega
      have c6 := hs.cell 6 (by omega)
      have f6 := hs.free 6
      have HS1 : Hid (Sev (wr.setCell ⟨w.heap.size + 1, 6, none⟩ (.int .u64 65535)) (w.heap.size + 1) (wv fullW)) := Lib.hid ((HS.out.put (g := fullS) 6 65535 (by omega) rfl (fun j hj hne => by unfold ones7 fullS; rw [if_pos (by omega), if_pos (by omega)])).congr full_wv)
      have HR1 := Lib.hid (HR.out.but (But.setCell (But.refl (fun i => i = w.heap.size + 1) wr) (.inr rfl) (.int .u64 65535) (p := ⟨w.heap.size + 1, 6, none⟩)) (by omega))
      have HB1 := Lib.hid (HB.out.setCell (p := ⟨w.heap.size + 1, 6, none⟩) (by show w.heap.size ≤ w.heap.size + 1; omega) (.int .u64 65535))
      clear hs hr hb
      obtain ⟨W1, hW1⟩ : ∃ W1, wr.setCell ⟨w.heap.size + 1, 6, none⟩ (.int .u64 65535) = W1 := ⟨_, rfl⟩
      rw [hW1] at HS1 HR1 HB1
      obtain ⟨x0, x1, x2, x3, x4, x5, x6⟩ := HS1.out.cells
      obtain ⟨y0, y1, y2, y3, y4, y5, y6⟩ := HR1.out.cells
      obtain ⟨z0, z1, z2, z3, z4, z5, z6⟩ := HR1.out.frees
      go_wp2
      obtain ⟨q1, q2⟩ := HR1.out.put7 (wv fullW)
      refine bodyPost_ret (results7 rfl rfl q1) rfl ⟨rfl, Below.but HB1.out q2 (fun i hi hx => by omega)⟩
end Go.Proofs.YtigbbepgfofcoaaDoor
