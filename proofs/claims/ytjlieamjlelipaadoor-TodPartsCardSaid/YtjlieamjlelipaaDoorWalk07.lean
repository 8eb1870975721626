/- The walk of TodParts (layer 7). -/
import Derived.Test.YtjlieamjlelipaaDoorTod
import Derived.Test.YtjlieamjlelipaaDoorOpen
import Derived.Deep.QuietTactic
import Derived.BigQuiet
namespace Go.Proofs.YtjlieamjlelipaaDoor
open Go.RowKit
set_option linter.unusedVariables false

theorem flip {P : Program} {f : FuncId} {args : Array Value} {w : World} {v : Value} (h : Calls P f args w fun e w' => e = .returned v ∧ w = w') : Calls P f args w fun e w' => e = .returned v ∧ w' = w := h.mono fun _ _ ⟨a, b⟩ => ⟨a, b.symm⟩
set_option maxHeartbeats 1600000 in
set_option maxRecDepth 100000 in
theorem tp_0_in (a b c s : Int) (H M S : Nat) (bb : Bool) (w : World)  (pn : ¬ 0 ≤ a) (q0 : 0 ≤ s) (q1 : s < 86400)
    (k1 : ∀ w, Calls Tryd.prog 34 #[.int .i64 a, .int .i64 b, .int .i64 c] w fun e w' => e = .returned (.tuple #[.int .i64 0, .bool false]) ∧ w = w')
    (k2 : ∀ w, Calls Tryd.prog 35 #[.int .i64 s] w fun e w' => e = .returned (.tuple #[.int .i64 (s / 3600), .int .i64 (s / 60 % 60), .int .i64 (s % 60), .bool true]) ∧ w = w')
    (k3 : ∀ w, Calls Tryd.prog 36 #[.int .i64 s, .int .u64 H, .int .u64 M, .int .u64 S] w fun e w' => e = .returned (.bool bb) ∧ w = w')
    (k4 : ∀ w, Calls Tryd.prog 37 #[.int .i64 s, .int .u64 H, .int .u64 M, .int .u64 S] w fun e w' => e = .returned (.bool bb) ∧ w = w')
    (hT : Tab w) :
    Calls Tryd.prog 8 #[.agg #[.int .i64 a, .int .i64 b, .int .i64 c], .int .i64 s, .agg #[.int .u64 H, .int .u64 M, .int .u64 S]] w fun e w' => e = .returned (.bool true) ∧ Below w.heap.size w w' := by
  have dn := dec_n pn
  have e0 := dec_t q0
  have e1 := dec_t q1
  have e5 : s / 60 % 60 = s % 3600 / 60 := by omega
  rw [e5] at k2
  clear e5
  have hb2 : Below w.heap.size w ((w.alloc (.cells #[.int .i64 a, .int .i64 b, .int .i64 c] 23)).alloc (.cells #[.int .u64 H, .int .u64 M, .int .u64 S] 54)) := ((Below.refl _ _).alloc (Nat.le_refl _) _).alloc (by simp) _
  have k5 := fun n => flip (lives07_any _ ((hT.below hb2).quiet (Quiet.of _ n)))
  have HB := Lib.hid hb2
  have K5 := Lib.hid k5
  have K3 := Lib.hid (fun w => flip (k3 w))
  have K4 := Lib.hid (fun w => flip (k4 w))
  clear hT hb2 k5 k3 k4 pn
  go_enter Tryd.func8, Tryd.ntmps8
  go_wp2_with fail
  refine (k1 _).mono ?_
  rintro e w1 ⟨rfl, rfl⟩
  go_wp2_with fail
  refine (k2 _).mono ?_
  rintro e w1 ⟨rfl, rfl⟩
  go_wp2_with fail
  go_quiet ((first | (go_at_call 36; exact Calls.quiet_of_same (K3.out _)) | (go_at_call 37; exact Calls.quiet_of_same (K4.out _)) | (go_at_call 38; exact Calls.quiet_of_same (K5.out _))))
  go_wp2
  go_ret
  exact ⟨rfl, HB.out.trans (below_draws _ _ _)⟩
set_option maxHeartbeats 1600000 in
set_option maxRecDepth 100000 in
theorem tp_0_lo (a b c s : Int) (H M S : Nat) (bb : Bool) (w : World)  (pn : ¬ 0 ≤ a)  (qn : ¬ 0 ≤ s)
    (k1 : ∀ w, Calls Tryd.prog 34 #[.int .i64 a, .int .i64 b, .int .i64 c] w fun e w' => e = .returned (.tuple #[.int .i64 0, .bool false]) ∧ w = w')
    (k2 : ∀ w, Calls Tryd.prog 35 #[.int .i64 s] w fun e w' => e = .returned (.tuple #[.int .i64 0, .int .i64 0, .int .i64 0, .bool false]) ∧ w = w')
    (k3 : ∀ w, Calls Tryd.prog 36 #[.int .i64 s, .int .u64 H, .int .u64 M, .int .u64 S] w fun e w' => e = .returned (.bool bb) ∧ w = w')
    (k4 : ∀ w, Calls Tryd.prog 37 #[.int .i64 s, .int .u64 H, .int .u64 M, .int .u64 S] w fun e w' => e = .returned (.bool bb) ∧ w = w')
    (hT : Tab w) :
    Calls Tryd.prog 8 #[.agg #[.int .i64 a, .int .i64 b, .int .i64 c], .int .i64 s, .agg #[.int .u64 H, .int .u64 M, .int .u64 S]] w fun e w' => e = .returned (.bool true) ∧ Below w.heap.size w w' := by
  have dn := dec_n pn
  have en := dec_n qn
  have hb2 : Below w.heap.size w ((w.alloc (.cells #[.int .i64 a, .int .i64 b, .int .i64 c] 23)).alloc (.cells #[.int .u64 H, .int .u64 M, .int .u64 S] 54)) := ((Below.refl _ _).alloc (Nat.le_refl _) _).alloc (by simp) _
  have k5 := fun n => flip (lives07_any _ ((hT.below hb2).quiet (Quiet.of _ n)))
  have HB := Lib.hid hb2
  have K5 := Lib.hid k5
  have K3 := Lib.hid (fun w => flip (k3 w))
  have K4 := Lib.hid (fun w => flip (k4 w))
  clear hT hb2 k5 k3 k4 pn qn
  go_enter Tryd.func8, Tryd.ntmps8
  go_wp2_with fail
  refine (k1 _).mono ?_
  rintro e w1 ⟨rfl, rfl⟩
  go_wp2_with fail
  refine (k2 _).mono ?_
  rintro e w1 ⟨rfl, rfl⟩
  go_wp2_with fail
  go_quiet ((first | (go_at_call 36; exact Calls.quiet_of_same (K3.out _)) | (go_at_call 37; exact Calls.quiet_of_same (K4.out _)) | (go_at_call 38; exact Calls.quiet_of_same (K5.out _))))
  go_wp2
  go_ret
  exact ⟨rfl, HB.out.trans (below_draws _ _ _)⟩
set_option maxHeartbeats 1600000 in
set_option maxRecDepth 100000 in
theorem tp_0_hi (a b c s : Int) (H M S : Nat) (bb : Bool) (w : World)  (pn : ¬ 0 ≤ a) (q0 : 0 ≤ s) (qn : ¬ s < 86400)
    (k1 : ∀ w, Calls Tryd.prog 34 #[.int .i64 a, .int .i64 b, .int .i64 c] w fun e w' => e = .returned (.tuple #[.int .i64 0, .bool false]) ∧ w = w')
    (k2 : ∀ w, Calls Tryd.prog 35 #[.int .i64 s] w fun e w' => e = .returned (.tuple #[.int .i64 0, .int .i64 0, .int .i64 0, .bool false]) ∧ w = w')
    (k3 : ∀ w, Calls Tryd.prog 36 #[.int .i64 s, .int .u64 H, .int .u64 M, .int .u64 S] w fun e w' => e = .returned (.bool bb) ∧ w = w')
    (k4 : ∀ w, Calls Tryd.prog 37 #[.int .i64 s, .int .u64 H, .int .u64 M, .int .u64 S] w fun e w' => e = .returned (.bool bb) ∧ w = w')
    (hT : Tab w) :
    Calls Tryd.prog 8 #[.agg #[.int .i64 a, .int .i64 b, .int .i64 c], .int .i64 s, .agg #[.int .u64 H, .int .u64 M, .int .u64 S]] w fun e w' => e = .returned (.bool true) ∧ Below w.heap.size w w' := by
  have dn := dec_n pn
  have en := dec_n qn
  have e0 := dec_t q0
  have hb2 : Below w.heap.size w ((w.alloc (.cells #[.int .i64 a, .int .i64 b, .int .i64 c] 23)).alloc (.cells #[.int .u64 H, .int .u64 M, .int .u64 S] 54)) := ((Below.refl _ _).alloc (Nat.le_refl _) _).alloc (by simp) _
  have k5 := fun n => flip (lives07_any _ ((hT.below hb2).quiet (Quiet.of _ n)))
  have HB := Lib.hid hb2
  have K5 := Lib.hid k5
  have K3 := Lib.hid (fun w => flip (k3 w))
  have K4 := Lib.hid (fun w => flip (k4 w))
  clear hT hb2 k5 k3 k4 pn qn
  go_enter Tryd.func8, Tryd.ntmps8
  go_wp2_with fail
  refine (k1 _).mono ?_
  rintro e w1 ⟨rfl, rfl⟩
  go_wp2_with fail
  refine (k2 _).mono ?_
  rintro e w1 ⟨rfl, rfl⟩
  go_wp2_with fail
  go_quiet ((first | (go_at_call 36; exact Calls.quiet_of_same (K3.out _)) | (go_at_call 37; exact Calls.quiet_of_same (K4.out _)) | (go_at_call 38; exact Calls.quiet_of_same (K5.out _))))
  go_wp2
  go_ret
  exact ⟨rfl, HB.out.trans (below_draws _ _ _)⟩
set_option maxHeartbeats 1600000 in
set_option maxRecDepth 100000 in
theorem tp_1_in (a b c s : Int) (H M S : Nat) (bb : Bool) (w : World) (p0 : 0 ≤ a) (pn : ¬ a < 24) (q0 : 0 ≤ s) (q1 : s < 86400)
    (k1 : ∀ w, Calls Tryd.prog 34 #[.int .i64 a, .int .i64 b, .int .i64 c] w fun e w' => e = .returned (.tuple #[.int .i64 0, .bool false]) ∧ w = w')
    (k2 : ∀ w, Calls Tryd.prog 35 #[.int .i64 s] w fun e w' => e = .returned (.tuple #[.int .i64 (s / 3600), .int .i64 (s / 60 % 60), .int .i64 (s % 60), .bool true]) ∧ w = w')
    (k3 : ∀ w, Calls Tryd.prog 36 #[.int .i64 s, .int .u64 H, .int .u64 M, .int .u64 S] w fun e w' => e = .returned (.bool bb) ∧ w = w')
    (k4 : ∀ w, Calls Tryd.prog 37 #[.int .i64 s, .int .u64 H, .int .u64 M, .int .u64 S] w fun e w' => e = .returned (.bool bb) ∧ w = w')
    (hT : Tab w) :
    Calls Tryd.prog 8 #[.agg #[.int .i64 a, .int .i64 b, .int .i64 c], .int .i64 s, .agg #[.int .u64 H, .int .u64 M, .int .u64 S]] w fun e w' => e = .returned (.bool true) ∧ Below w.heap.size w w' := by
  have dn := dec_n pn
  have d0 := dec_t p0
  have e0 := dec_t q0
  have e1 := dec_t q1
  have e5 : s / 60 % 60 = s % 3600 / 60 := by omega
  rw [e5] at k2
  clear e5
  have hb2 : Below w.heap.size w ((w.alloc (.cells #[.int .i64 a, .int .i64 b, .int .i64 c] 23)).alloc (.cells #[.int .u64 H, .int .u64 M, .int .u64 S] 54)) := ((Below.refl _ _).alloc (Nat.le_refl _) _).alloc (by simp) _
  have k5 := fun n => flip (lives07_any _ ((hT.below hb2).quiet (Quiet.of _ n)))
  have HB := Lib.hid hb2
  have K5 := Lib.hid k5
  have K3 := Lib.hid (fun w => flip (k3 w))
  have K4 := Lib.hid (fun w => flip (k4 w))
  clear hT hb2 k5 k3 k4 pn
  go_enter Tryd.func8, Tryd.ntmps8
  go_wp2_with fail
  refine (k1 _).mono ?_
  rintro e w1 ⟨rfl, rfl⟩
  go_wp2_with fail
  refine (k2 _).mono ?_
  rintro e w1 ⟨rfl, rfl⟩
  go_wp2_with fail
  go_quiet ((first | (go_at_call 36; exact Calls.quiet_of_same (K3.out _)) | (go_at_call 37; exact Calls.quiet_of_same (K4.out _)) | (go_at_call 38; exact Calls.quiet_of_same (K5.out _))))
  go_wp2
  go_ret
  exact ⟨rfl, HB.out.trans (below_draws _ _ _)⟩
set_option maxHeartbeats 1600000 in
set_option maxRecDepth 100000 in
theorem tp_1_lo (a b c s : Int) (H M S : Nat) (bb : Bool) (w : World) (p0 : 0 ≤ a) (pn : ¬ a < 24)  (qn : ¬ 0 ≤ s)
    (k1 : ∀ w, Calls Tryd.prog 34 #[.int .i64 a, .int .i64 b, .int .i64 c] w fun e w' => e = .returned (.tuple #[.int .i64 0, .bool false]) ∧ w = w')
    (k2 : ∀ w, Calls Tryd.prog 35 #[.int .i64 s] w fun e w' => e = .returned (.tuple #[.int .i64 0, .int .i64 0, .int .i64 0, .bool false]) ∧ w = w')
    (k3 : ∀ w, Calls Tryd.prog 36 #[.int .i64 s, .int .u64 H, .int .u64 M, .int .u64 S] w fun e w' => e = .returned (.bool bb) ∧ w = w')
    (k4 : ∀ w, Calls Tryd.prog 37 #[.int .i64 s, .int .u64 H, .int .u64 M, .int .u64 S] w fun e w' => e = .returned (.bool bb) ∧ w = w')
    (hT : Tab w) :
    Calls Tryd.prog 8 #[.agg #[.int .i64 a, .int .i64 b, .int .i64 c], .int .i64 s, .agg #[.int .u64 H, .int .u64 M, .int .u64 S]] w fun e w' => e = .returned (.bool true) ∧ Below w.heap.size w w' := by
  have dn := dec_n pn
  have en := dec_n qn
  have d0 := dec_t p0
  have hb2 : Below w.heap.size w ((w.alloc (.cells #[.int .i64 a, .int .i64 b, .int .i64 c] 23)).alloc (.cells #[.int .u64 H, .int .u64 M, .int .u64 S] 54)) := ((Below.refl _ _).alloc (Nat.le_refl _) _).alloc (by simp) _
  have k5 := fun n => flip (lives07_any _ ((hT.below hb2).quiet (Quiet.of _ n)))
  have HB := Lib.hid hb2
  have K5 := Lib.hid k5
  have K3 := Lib.hid (fun w => flip (k3 w))
  have K4 := Lib.hid (fun w => flip (k4 w))
  clear hT hb2 k5 k3 k4 pn qn
  go_enter Tryd.func8, Tryd.ntmps8
  go_wp2_with fail
  refine (k1 _).mono ?_
  rintro e w1 ⟨rfl, rfl⟩
  go_wp2_with fail
  refine (k2 _).mono ?_
  rintro e w1 ⟨rfl, rfl⟩
  go_wp2_with fail
  go_quiet ((first | (go_at_call 36; exact Calls.quiet_of_same (K3.out _)) | (go_at_call 37; exact Calls.quiet_of_same (K4.out _)) | (go_at_call 38; exact Calls.quiet_of_same (K5.out _))))
  go_wp2
  go_ret
  exact ⟨rfl, HB.out.trans (below_draws _ _ _)⟩
set_option maxHeartbeats 1600000 in
set_option maxRecDepth 100000 in
theorem tp_1_hi (a b c s : Int) (H M S : Nat) (bb : Bool) (w : World) (p0 : 0 ≤ a) (pn : ¬ a < 24) (q0 : 0 ≤ s) (qn : ¬ s < 86400)
    (k1 : ∀ w, Calls Tryd.prog 34 #[.int .i64 a, .int .i64 b, .int .i64 c] w fun e w' => e = .returned (.tuple #[.int .i64 0, .bool false]) ∧ w = w')
    (k2 : ∀ w, Calls Tryd.prog 35 #[.int .i64 s] w fun e w' => e = .returned (.tuple #[.int .i64 0, .int .i64 0, .int .i64 0, .bool false]) ∧ w = w')
    (k3 : ∀ w, Calls Tryd.prog 36 #[.int .i64 s, .int .u64 H, .int .u64 M, .int .u64 S] w fun e w' => e = .returned (.bool bb) ∧ w = w')
    (k4 : ∀ w, Calls Tryd.prog 37 #[.int .i64 s, .int .u64 H, .int .u64 M, .int .u64 S] w fun e w' => e = .returned (.bool bb) ∧ w = w')
    (hT : Tab w) :
    Calls Tryd.prog 8 #[.agg #[.int .i64 a, .int .i64 b, .int .i64 c], .int .i64 s, .agg #[.int .u64 H, .int .u64 M, .int .u64 S]] w fun e w' => e = .returned (.bool true) ∧ Below w.heap.size w w' := by
  have dn := dec_n pn
  have en := dec_n qn
  have d0 := dec_t p0
  have e0 := dec_t q0
  have hb2 : Below w.heap.size w ((w.alloc (.cells #[.int .i64 a, .int .i64 b, .int .i64 c] 23)).alloc (.cells #[.int .u64 H, .int .u64 M, .int .u64 S] 54)) := ((Below.refl _ _).alloc (Nat.le_refl _) _).alloc (by simp) _
  have k5 := fun n => flip (lives07_any _ ((hT.below hb2).quiet (Quiet.of _ n)))
  have HB := Lib.hid hb2
  have K5 := Lib.hid k5
  have K3 := Lib.hid (fun w => flip (k3 w))
  have K4 := Lib.hid (fun w => flip (k4 w))
  clear hT hb2 k5 k3 k4 pn qn
  go_enter Tryd.func8, Tryd.ntmps8
  go_wp2_with fail
  refine (k1 _).mono ?_
  rintro e w1 ⟨rfl, rfl⟩
  go_wp2_with fail
  refine (k2 _).mono ?_
  rintro e w1 ⟨rfl, rfl⟩
  go_wp2_with fail
  go_quiet ((first | (go_at_call 36; exact Calls.quiet_of_same (K3.out _)) | (go_at_call 37; exact Calls.quiet_of_same (K4.out _)) | (go_at_call 38; exact Calls.quiet_of_same (K5.out _))))
  go_wp2
  go_ret
  exact ⟨rfl, HB.out.trans (below_draws _ _ _)⟩
set_option maxHeartbeats 1600000 in
set_option maxRecDepth 100000 in
theorem tp_2_in (a b c s : Int) (H M S : Nat) (bb : Bool) (w : World) (p0 : 0 ≤ a) (p1 : a < 24) (pn : ¬ 0 ≤ b) (q0 : 0 ≤ s) (q1 : s < 86400)
    (k1 : ∀ w, Calls Tryd.prog 34 #[.int .i64 a, .int .i64 b, .int .i64 c] w fun e w' => e = .returned (.tuple #[.int .i64 0, .bool false]) ∧ w = w')
    (k2 : ∀ w, Calls Tryd.prog 35 #[.int .i64 s] w fun e w' => e = .returned (.tuple #[.int .i64 (s / 3600), .int .i64 (s / 60 % 60), .int .i64 (s % 60), .bool true]) ∧ w = w')
    (k3 : ∀ w, Calls Tryd.prog 36 #[.int .i64 s, .int .u64 H, .int .u64 M, .int .u64 S] w fun e w' => e = .returned (.bool bb) ∧ w = w')
    (k4 : ∀ w, Calls Tryd.prog 37 #[.int .i64 s, .int .u64 H, .int .u64 M, .int .u64 S] w fun e w' => e = .returned (.bool bb) ∧ w = w')
    (hT : Tab w) :
    Calls Tryd.prog 8 #[.agg #[.int .i64 a, .int .i64 b, .int .i64 c], .int .i64 s, .agg #[.int .u64 H, .int .u64 M, .int .u64 S]] w fun e w' => e = .returned (.bool true) ∧ Below w.heap.size w w' := by
  have dn := dec_n pn
  have d0 := dec_t p0
  have d1 := dec_t p1
  have e0 := dec_t q0
  have e1 := dec_t q1
  have e5 : s / 60 % 60 = s % 3600 / 60 := by omega
  rw [e5] at k2
  clear e5
  have hb2 : Below w.heap.size w ((w.alloc (.cells #[.int .i64 a, .int .i64 b, .int .i64 c] 23)).alloc (.cells #[.int .u64 H, .int .u64 M, .int .u64 S] 54)) := ((Below.refl _ _).alloc (Nat.le_refl _) _).alloc (by simp) _
  have k5 := fun n => flip (lives07_any _ ((hT.below hb2).quiet (Quiet.of _ n)))
  have HB := Lib.hid hb2
  have K5 := Lib.hid k5
  have K3 := Lib.hid (fun w => flip (k3 w))
  have K4 := Lib.hid (fun w => flip (k4 w))
  clear hT hb2 k5 k3 k4 pn
  go_enter Tryd.func8, Tryd.ntmps8
  go_wp2_with fail
  refine (k1 _).mono ?_
  rintro e w1 ⟨rfl, rfl⟩
  go_wp2_with fail
  refine (k2 _).mono ?_
  rintro e w1 ⟨rfl, rfl⟩
  go_wp2_with fail
  go_quiet ((first | (go_at_call 36; exact Calls.quiet_of_same (K3.out _)) | (go_at_call 37; exact Calls.quiet_of_same (K4.out _)) | (go_at_call 38; exact Calls.quiet_of_same (K5.out _))))
  go_wp2
  go_ret
  exact ⟨rfl, HB.out.trans (below_draws _ _ _)⟩
set_option maxHeartbeats 1600000 in
set_option maxRecDepth 100000 in
theorem tp_2_lo (a b c s : Int) (H M S : Nat) (bb : Bool) (w : World) (p0 : 0 ≤ a) (p1 : a < 24) (pn : ¬ 0 ≤ b)  (qn : ¬ 0 ≤ s)
    (k1 : ∀ w, Calls Tryd.prog 34 #[.int .i64 a, .int .i64 b, .int .i64 c] w fun e w' => e = .returned (.tuple #[.int .i64 0, .bool false]) ∧ w = w')
    (k2 : ∀ w, Calls Tryd.prog 35 #[.int .i64 s] w fun e w' => e = .returned (.tuple #[.int .i64 0, .int .i64 0, .int .i64 0, .bool false]) ∧ w = w')
    (k3 : ∀ w, Calls Tryd.prog 36 #[.int .i64 s, .int .u64 H, .int .u64 M, .int .u64 S] w fun e w' => e = .returned (.bool bb) ∧ w = w')
    (k4 : ∀ w, Calls Tryd.prog 37 #[.int .i64 s, .int .u64 H, .int .u64 M, .int .u64 S] w fun e w' => e = .returned (.bool bb) ∧ w = w')
    (hT : Tab w) :
    Calls Tryd.prog 8 #[.agg #[.int .i64 a, .int .i64 b, .int .i64 c], .int .i64 s, .agg #[.int .u64 H, .int .u64 M, .int .u64 S]] w fun e w' => e = .returned (.bool true) ∧ Below w.heap.size w w' := by
  have dn := dec_n pn
  have en := dec_n qn
  have d0 := dec_t p0
  have d1 := dec_t p1
  have hb2 : Below w.heap.size w ((w.alloc (.cells #[.int .i64 a, .int .i64 b, .int .i64 c] 23)).alloc (.cells #[.int .u64 H, .int .u64 M, .int .u64 S] 54)) := ((Below.refl _ _).alloc (Nat.le_refl _) _).alloc (by simp) _
  have k5 := fun n => flip (lives07_any _ ((hT.below hb2).quiet (Quiet.of _ n)))
  have HB := Lib.hid hb2
  have K5 := Lib.hid k5
  have K3 := Lib.hid (fun w => flip (k3 w))
  have K4 := Lib.hid (fun w => flip (k4 w))
  clear hT hb2 k5 k3 k4 pn qn
  go_enter Tryd.func8, Tryd.ntmps8
  go_wp2_with fail
  refine (k1 _).mono ?_
  rintro e w1 ⟨rfl, rfl⟩
  go_wp2_with fail
  refine (k2 _).mono ?_
  rintro e w1 ⟨rfl, rfl⟩
  go_wp2_with fail
  go_quiet ((first | (go_at_call 36; exact Calls.quiet_of_same (K3.out _)) | (go_at_call 37; exact Calls.quiet_of_same (K4.out _)) | (go_at_call 38; exact Calls.quiet_of_same (K5.out _))))
  go_wp2
  go_ret
  exact ⟨rfl, HB.out.trans (below_draws _ _ _)⟩
set_option maxHeartbeats 1600000 in
set_option maxRecDepth 100000 in
theorem tp_2_hi (a b c s : Int) (H M S : Nat) (bb : Bool) (w : World) (p0 : 0 ≤ a) (p1 : a < 24) (pn : ¬ 0 ≤ b) (q0 : 0 ≤ s) (qn : ¬ s < 86400)
    (k1 : ∀ w, Calls Tryd.prog 34 #[.int .i64 a, .int .i64 b, .int .i64 c] w fun e w' => e = .returned (.tuple #[.int .i64 0, .bool false]) ∧ w = w')
    (k2 : ∀ w, Calls Tryd.prog 35 #[.int .i64 s] w fun e w' => e = .returned (.tuple #[.int .i64 0, .int .i64 0, .int .i64 0, .bool false]) ∧ w = w')
    (k3 : ∀ w, Calls Tryd.prog 36 #[.int .i64 s, .int .u64 H, .int .u64 M, .int .u64 S] w fun e w' => e = .returned (.bool bb) ∧ w = w')
    (k4 : ∀ w, Calls Tryd.prog 37 #[.int .i64 s, .int .u64 H, .int .u64 M, .int .u64 S] w fun e w' => e = .returned (.bool bb) ∧ w = w')
    (hT : Tab w) :
    Calls Tryd.prog 8 #[.agg #[.int .i64 a, .int .i64 b, .int .i64 c], .int .i64 s, .agg #[.int .u64 H, .int .u64 M, .int .u64 S]] w fun e w' => e = .returned (.bool true) ∧ Below w.heap.size w w' := by
  have dn := dec_n pn
  have en := dec_n qn
  have d0 := dec_t p0
  have d1 := dec_t p1
  have e0 := dec_t q0
  have hb2 : Below w.heap.size w ((w.alloc (.cells #[.int .i64 a, .int .i64 b, .int .i64 c] 23)).alloc (.cells #[.int .u64 H, .int .u64 M, .int .u64 S] 54)) := ((Below.refl _ _).alloc (Nat.le_refl _) _).alloc (by simp) _
  have k5 := fun n => flip (lives07_any _ ((hT.below hb2).quiet (Quiet.of _ n)))
  have HB := Lib.hid hb2
  have K5 := Lib.hid k5
  have K3 := Lib.hid (fun w => flip (k3 w))
  have K4 := Lib.hid (fun w => flip (k4 w))
  clear hT hb2 k5 k3 k4 pn qn
  go_enter Tryd.func8, Tryd.ntmps8
  go_wp2_with fail
  refine (k1 _).mono ?_
  rintro e w1 ⟨rfl, rfl⟩
  go_wp2_with fail
  refine (k2 _).mono ?_
  rintro e w1 ⟨rfl, rfl⟩
  go_wp2_with fail
  go_quiet ((first | (go_at_call 36; exact Calls.quiet_of_same (K3.out _)) | (go_at_call 37; exact Calls.quiet_of_same (K4.out _)) | (go_at_call 38; exact Calls.quiet_of_same (K5.out _))))
  go_wp2
  go_ret
  exact ⟨rfl, HB.out.trans (below_draws _ _ _)⟩
set_option maxHeartbeats 1600000 in
set_option maxRecDepth 100000 in
theorem tp_3_in (a b c s : Int) (H M S : Nat) (bb : Bool) (w : World) (p0 : 0 ≤ a) (p1 : a < 24) (p2 : 0 ≤ b) (pn : ¬ b < 60) (q0 : 0 ≤ s) (q1 : s < 86400)
    (k1 : ∀ w, Calls Tryd.prog 34 #[.int .i64 a, .int .i64 b, .int .i64 c] w fun e w' => e = .returned (.tuple #[.int .i64 0, .bool false]) ∧ w = w')
    (k2 : ∀ w, Calls Tryd.prog 35 #[.int .i64 s] w fun e w' => e = .returned (.tuple #[.int .i64 (s / 3600), .int .i64 (s / 60 % 60), .int .i64 (s % 60), .bool true]) ∧ w = w')
    (k3 : ∀ w, Calls Tryd.prog 36 #[.int .i64 s, .int .u64 H, .int .u64 M, .int .u64 S] w fun e w' => e = .returned (.bool bb) ∧ w = w')
    (k4 : ∀ w, Calls Tryd.prog 37 #[.int .i64 s, .int .u64 H, .int .u64 M, .int .u64 S] w fun e w' => e = .returned (.bool bb) ∧ w = w')
    (hT : Tab w) :
    Calls Tryd.prog 8 #[.agg #[.int .i64 a, .int .i64 b, .int .i64 c], .int .i64 s, .agg #[.int .u64 H, .int .u64 M, .int .u64 S]] w fun e w' => e = .returned (.bool true) ∧ Below w.heap.size w w' := by
  have dn := dec_n pn
  have d0 := dec_t p0
  have d1 := dec_t p1
  have d2 := dec_t p2
  have e0 := dec_t q0
  have e1 := dec_t q1
  have e5 : s / 60 % 60 = s % 3600 / 60 := by omega
  rw [e5] at k2
  clear e5
  have hb2 : Below w.heap.size w ((w.alloc (.cells #[.int .i64 a, .int .i64 b, .int .i64 c] 23)).alloc (.cells #[.int .u64 H, .int .u64 M, .int .u64 S] 54)) := ((Below.refl _ _).alloc (Nat.le_refl _) _).alloc (by simp) _
  have k5 := fun n => flip (lives07_any _ ((hT.below hb2).quiet (Quiet.of _ n)))
  have HB := Lib.hid hb2
  have K5 := Lib.hid k5
  have K3 := Lib.hid (fun w => flip (k3 w))
  have K4 := Lib.hid (fun w => flip (k4 w))
  clear hT hb2 k5 k3 k4 pn
  go_enter Tryd.func8, Tryd.ntmps8
  go_wp2_with fail
  refine (k1 _).mono ?_
  rintro e w1 ⟨rfl, rfl⟩
  go_wp2_with fail
  refine (k2 _).mono ?_
  rintro e w1 ⟨rfl, rfl⟩
  go_wp2_with fail
  go_quiet ((first | (go_at_call 36; exact Calls.quiet_of_same (K3.out _)) | (go_at_call 37; exact Calls.quiet_of_same (K4.out _)) | (go_at_call 38; exact Calls.quiet_of_same (K5.out _))))
  go_wp2
  go_ret
  exact ⟨rfl, HB.out.trans (below_draws _ _ _)⟩
set_option maxHeartbeats 1600000 in
set_option maxRecDepth 100000 in
theorem tp_3_lo (a b c s : Int) (H M S : Nat) (bb : Bool) (w : World) (p0 : 0 ≤ a) (p1 : a < 24) (p2 : 0 ≤ b) (pn : ¬ b < 60)  (qn : ¬ 0 ≤ s)
    (k1 : ∀ w, Calls Tryd.prog 34 #[.int .i64 a, .int .i64 b, .int .i64 c] w fun e w' => e = .returned (.tuple #[.int .i64 0, .bool false]) ∧ w = w')
    (k2 : ∀ w, Calls Tryd.prog 35 #[.int .i64 s] w fun e w' => e = .returned (.tuple #[.int .i64 0, .int .i64 0, .int .i64 0, .bool false]) ∧ w = w')
    (k3 : ∀ w, Calls Tryd.prog 36 #[.int .i64 s, .int .u64 H, .int .u64 M, .int .u64 S] w fun e w' => e = .returned (.bool bb) ∧ w = w')
    (k4 : ∀ w, Calls Tryd.prog 37 #[.int .i64 s, .int .u64 H, .int .u64 M, .int .u64 S] w fun e w' => e = .returned (.bool bb) ∧ w = w')
    (hT : Tab w) :
    Calls Tryd.prog 8 #[.agg #[.int .i64 a, .int .i64 b, .int .i64 c], .int .i64 s, .agg #[.int .u64 H, .int .u64 M, .int .u64 S]] w fun e w' => e = .returned (.bool true) ∧ Below w.heap.size w w' := by
  have dn := dec_n pn
  have en := dec_n qn
  have d0 := dec_t p0
  have d1 := dec_t p1
  have d2 := dec_t p2
  have hb2 : Below w.heap.size w ((w.alloc (.cells #[.int .i64 a, .int .i64 b, .int .i64 c] 23)).alloc (.cells #[.int .u64 H, .int .u64 M, .int .u64 S] 54)) := ((Below.refl _ _).alloc (Nat.le_refl _) _).alloc (by simp) _
  have k5 := fun n => flip (lives07_any _ ((hT.below hb2).quiet (Quiet.of _ n)))
  have HB := Lib.hid hb2
  have K5 := Lib.hid k5
  have K3 := Lib.hid (fun w => flip (k3 w))
  have K4 := Lib.hid (fun w => flip (k4 w))
  clear hT hb2 k5 k3 k4 pn qn
  go_enter Tryd.func8, Tryd.ntmps8
  go_wp2_with fail
  refine (k1 _).mono ?_
  rintro e w1 ⟨rfl, rfl⟩
  go_wp2_with fail
  refine (k2 _).mono ?_
  rintro e w1 ⟨rfl, rfl⟩
  go_wp2_with fail
  go_quiet ((first | (go_at_call 36; exact Calls.quiet_of_same (K3.out _)) | (go_at_call 37; exact Calls.quiet_of_same (K4.out _)) | (go_at_call 38; exact Calls.quiet_of_same (K5.out _))))
  go_wp2
  go_ret
  exact ⟨rfl, HB.out.trans (below_draws _ _ _)⟩
set_option maxHeartbeats 1600000 in
set_option maxRecDepth 100000 in
theorem tp_3_hi (a b c s : Int) (H M S : Nat) (bb : Bool) (w : World) (p0 : 0 ≤ a) (p1 : a < 24) (p2 : 0 ≤ b) (pn : ¬ b < 60) (q0 : 0 ≤ s) (qn : ¬ s < 86400)
    (k1 : ∀ w, Calls Tryd.prog 34 #[.int .i64 a, .int .i64 b, .int .i64 c] w fun e w' => e = .returned (.tuple #[.int .i64 0, .bool false]) ∧ w = w')
    (k2 : ∀ w, Calls Tryd.prog 35 #[.int .i64 s] w fun e w' => e = .returned (.tuple #[.int .i64 0, .int .i64 0, .int .i64 0, .bool false]) ∧ w = w')
    (k3 : ∀ w, Calls Tryd.prog 36 #[.int .i64 s, .int .u64 H, .int .u64 M, .int .u64 S] w fun e w' => e = .returned (.bool bb) ∧ w = w')
    (k4 : ∀ w, Calls Tryd.prog 37 #[.int .i64 s, .int .u64 H, .int .u64 M, .int .u64 S] w fun e w' => e = .returned (.bool bb) ∧ w = w')
    (hT : Tab w) :
    Calls Tryd.prog 8 #[.agg #[.int .i64 a, .int .i64 b, .int .i64 c], .int .i64 s, .agg #[.int .u64 H, .int .u64 M, .int .u64 S]] w fun e w' => e = .returned (.bool true) ∧ Below w.heap.size w w' := by
  have dn := dec_n pn
  have en := dec_n qn
  have d0 := dec_t p0
  have d1 := dec_t p1
  have d2 := dec_t p2
  have e0 := dec_t q0
  have hb2 : Below w.heap.size w ((w.alloc (.cells #[.int .i64 a, .int .i64 b, .int .i64 c] 23)).alloc (.cells #[.int .u64 H, .int .u64 M, .int .u64 S] 54)) := ((Below.refl _ _).alloc (Nat.le_refl _) _).alloc (by simp) _
  have k5 := fun n => flip (lives07_any _ ((hT.below hb2).quiet (Quiet.of _ n)))
  have HB := Lib.hid hb2
  have K5 := Lib.hid k5
  have K3 := Lib.hid (fun w => flip (k3 w))
  have K4 := Lib.hid (fun w => flip (k4 w))
  clear hT hb2 k5 k3 k4 pn qn
  go_enter Tryd.func8, Tryd.ntmps8
  go_wp2_with fail
  refine (k1 _).mono ?_
  rintro e w1 ⟨rfl, rfl⟩
  go_wp2_with fail
  refine (k2 _).mono ?_
  rintro e w1 ⟨rfl, rfl⟩
  go_wp2_with fail
  go_quiet ((first | (go_at_call 36; exact Calls.quiet_of_same (K3.out _)) | (go_at_call 37; exact Calls.quiet_of_same (K4.out _)) | (go_at_call 38; exact Calls.quiet_of_same (K5.out _))))
  go_wp2
  go_ret
  exact ⟨rfl, HB.out.trans (below_draws _ _ _)⟩
set_option maxHeartbeats 1600000 in
set_option maxRecDepth 100000 in
theorem tp_4_in (a b c s : Int) (H M S : Nat) (bb : Bool) (w : World) (p0 : 0 ≤ a) (p1 : a < 24) (p2 : 0 ≤ b) (p3 : b < 60) (pn : ¬ 0 ≤ c) (q0 : 0 ≤ s) (q1 : s < 86400)
    (k1 : ∀ w, Calls Tryd.prog 34 #[.int .i64 a, .int .i64 b, .int .i64 c] w fun e w' => e = .returned (.tuple #[.int .i64 0, .bool false]) ∧ w = w')
    (k2 : ∀ w, Calls Tryd.prog 35 #[.int .i64 s] w fun e w' => e = .returned (.tuple #[.int .i64 (s / 3600), .int .i64 (s / 60 % 60), .int .i64 (s % 60), .bool true]) ∧ w = w')
    (k3 : ∀ w, Calls Tryd.prog 36 #[.int .i64 s, .int .u64 H, .int .u64 M, .int .u64 S] w fun e w' => e = .returned (.bool bb) ∧ w = w')
    (k4 : ∀ w, Calls Tryd.prog 37 #[.int .i64 s, .int .u64 H, .int .u64 M, .int .u64 S] w fun e w' => e = .returned (.bool bb) ∧ w = w')
    (hT : Tab w) :
    Calls Tryd.prog 8 #[.agg #[.int .i64 a, .int .i64 b, .int .i64 c], .int .i64 s, .agg #[.int .u64 H, .int .u64 M, .int .u64 S]] w fun e w' => e = .returned (.bool true) ∧ Below w.heap.size w w' := by
  have dn := dec_n pn
  have d0 := dec_t p0
  have d1 := dec_t p1
  have d2 := dec_t p2
  have d3 := dec_t p3
  have e0 := dec_t q0
  have e1 := dec_t q1
  have e5 : s / 60 % 60 = s % 3600 / 60 := by omega
  rw [e5] at k2
  clear e5
  have hb2 : Below w.heap.size w ((w.alloc (.cells #[.int .i64 a, .int .i64 b, .int .i64 c] 23)).alloc (.cells #[.int .u64 H, .int .u64 M, .int .u64 S] 54)) := ((Below.refl _ _).alloc (Nat.le_refl _) _).alloc (by simp) _
  have k5 := fun n => flip (lives07_any _ ((hT.below hb2).quiet (Quiet.of _ n)))
  have HB := Lib.hid hb2
  have K5 := Lib.hid k5
  have K3 := Lib.hid (fun w => flip (k3 w))
  have K4 := Lib.hid (fun w => flip (k4 w))
  clear hT hb2 k5 k3 k4 pn
  go_enter Tryd.func8, Tryd.ntmps8
  go_wp2_with fail
  refine (k1 _).mono ?_
  rintro e w1 ⟨rfl, rfl⟩
  go_wp2_with fail
  refine (k2 _).mono ?_
  rintro e w1 ⟨rfl, rfl⟩
  go_wp2_with fail
  go_quiet ((first | (go_at_call 36; exact Calls.quiet_of_same (K3.out _)) | (go_at_call 37; exact Calls.quiet_of_same (K4.out _)) | (go_at_call 38; exact Calls.quiet_of_same (K5.out _))))
  go_wp2
  go_ret
  exact ⟨rfl, HB.out.trans (below_draws _ _ _)⟩
set_option maxHeartbeats 1600000 in
set_option maxRecDepth 100000 in
theorem tp_4_lo (a b c s : Int) (H M S : Nat) (bb : Bool) (w : World) (p0 : 0 ≤ a) (p1 : a < 24) (p2 : 0 ≤ b) (p3 : b < 60) (pn : ¬ 0 ≤ c)  (qn : ¬ 0 ≤ s)
    (k1 : ∀ w, Calls Tryd.prog 34 #[.int .i64 a, .int .i64 b, .int .i64 c] w fun e w' => e = .returned (.tuple #[.int .i64 0, .bool false]) ∧ w = w')
    (k2 : ∀ w, Calls Tryd.prog 35 #[.int .i64 s] w fun e w' => e = .returned (.tuple #[.int .i64 0, .int .i64 0, .int .i64 0, .bool false]) ∧ w = w')
    (k3 : ∀ w, Calls Tryd.prog 36 #[.int .i64 s, .int .u64 H, .int .u64 M, .int .u64 S] w fun e w' => e = .returned (.bool bb) ∧ w = w')
    (k4 : ∀ w, Calls Tryd.prog 37 #[.int .i64 s, .int .u64 H, .int .u64 M, .int .u64 S] w fun e w' => e = .returned (.bool bb) ∧ w = w')
    (hT : Tab w) :
    Calls Tryd.prog 8 #[.agg #[.int .i64 a, .int .i64 b, .int .i64 c], .int .i64 s, .agg #[.int .u64 H, .int .u64 M, .int .u64 S]] w fun e w' => e = .returned (.bool true) ∧ Below w.heap.size w w' := by
  have dn := dec_n pn
  have en := dec_n qn
  have d0 := dec_t p0
  have d1 := dec_t p1
  have d2 := dec_t p2
  have d3 := dec_t p3
  have hb2 : Below w.heap.size w ((w.alloc (.cells #[.int .i64 a, .int .i64 b, .int .i64 c] 23)).alloc (.cells #[.int .u64 H, .int .u64 M, .int .u64 S] 54)) := ((Below.refl _ _).alloc (Nat.le_refl _) _).alloc (by simp) _
  have k5 := fun n => flip (lives07_any _ ((hT.below hb2).quiet (Quiet.of _ n)))
  have HB := Lib.hid hb2
  have K5 := Lib.hid k5
  have K3 := Lib.hid (fun w => flip (k3 w))
  have K4 := Lib.hid (fun w => flip (k4 w))
  clear hT hb2 k5 k3 k4 pn qn
  go_enter Tryd.func8, Tryd.ntmps8
  go_wp2_with fail
  refine (k1 _).mono ?_
  rintro e w1 ⟨rfl, rfl⟩
  go_wp2_with fail
  refine (k2 _).mono ?_
  rintro e w1 ⟨rfl, rfl⟩
  go_wp2_with fail
  go_quiet ((first | (go_at_call 36; exact Calls.quiet_of_same (K3.out _)) | (go_at_call 37; exact Calls.quiet_of_same (K4.out _)) | (go_at_call 38; exact Calls.quiet_of_same (K5.out _))))
  go_wp2
  go_ret
  exact ⟨rfl, HB.out.trans (below_draws _ _ _)⟩
set_option maxHeartbeats 1600000 in
set_option maxRecDepth 100000 in
theorem tp_4_hi (a b c s : Int) (H M S : Nat) (bb : Bool) (w : World) (p0 : 0 ≤ a) (p1 : a < 24) (p2 : 0 ≤ b) (p3 : b < 60) (pn : ¬ 0 ≤ c) (q0 : 0 ≤ s) (qn : ¬ s < 86400)
    (k1 : ∀ w, Calls Tryd.prog 34 #[.int .i64 a, .int .i64 b, .int .i64 c] w fun e w' => e = .returned (.tuple #[.int .i64 0, .bool false]) ∧ w = w')
    (k2 : ∀ w, Calls Tryd.prog 35 #[.int .i64 s] w fun e w' => e = .returned (.tuple #[.int .i64 0, .int .i64 0, .int .i64 0, .bool false]) ∧ w = w')
    (k3 : ∀ w, Calls Tryd.prog 36 #[.int .i64 s, .int .u64 H, .int .u64 M, .int .u64 S] w fun e w' => e = .returned (.bool bb) ∧ w = w')
    (k4 : ∀ w, Calls Tryd.prog 37 #[.int .i64 s, .int .u64 H, .int .u64 M, .int .u64 S] w fun e w' => e = .returned (.bool bb) ∧ w = w')
    (hT : Tab w) :
    Calls Tryd.prog 8 #[.agg #[.int .i64 a, .int .i64 b, .int .i64 c], .int .i64 s, .agg #[.int .u64 H, .int .u64 M, .int .u64 S]] w fun e w' => e = .returned (.bool true) ∧ Below w.heap.size w w' := by
  have dn := dec_n pn
  have en := dec_n qn
  have d0 := dec_t p0
  have d1 := dec_t p1
  have d2 := dec_t p2
  have d3 := dec_t p3
  have e0 := dec_t q0
  have hb2 : Below w.heap.size w ((w.alloc (.cells #[.int .i64 a, .int .i64 b, .int .i64 c] 23)).alloc (.cells #[.int .u64 H, .int .u64 M, .int .u64 S] 54)) := ((Below.refl _ _).alloc (Nat.le_refl _) _).alloc (by simp) _
  have k5 := fun n => flip (lives07_any _ ((hT.below hb2).quiet (Quiet.of _ n)))
  have HB := Lib.hid hb2
  have K5 := Lib.hid k5
  have K3 := Lib.hid (fun w => flip (k3 w))
  have K4 := Lib.hid (fun w => flip (k4 w))
  clear hT hb2 k5 k3 k4 pn qn
  go_enter Tryd.func8, Tryd.ntmps8
  go_wp2_with fail
  refine (k1 _).mono ?_
  rintro e w1 ⟨rfl, rfl⟩
  go_wp2_with fail
  refine (k2 _).mono ?_
  rintro e w1 ⟨rfl, rfl⟩
  go_wp2_with fail
  go_quiet ((first | (go_at_call 36; exact Calls.quiet_of_same (K3.out _)) | (go_at_call 37; exact Calls.quiet_of_same (K4.out _)) | (go_at_call 38; exact Calls.quiet_of_same (K5.out _))))
  go_wp2
  go_ret
  exact ⟨rfl, HB.out.trans (below_draws _ _ _)⟩
set_option maxHeartbeats 1600000 in
set_option maxRecDepth 100000 in
theorem tp_5_in (a b c s : Int) (H M S : Nat) (bb : Bool) (w : World) (p0 : 0 ≤ a) (p1 : a < 24) (p2 : 0 ≤ b) (p3 : b < 60) (p4 : 0 ≤ c) (pn : ¬ c < 60) (q0 : 0 ≤ s) (q1 : s < 86400)
    (k1 : ∀ w, Calls Tryd.prog 34 #[.int .i64 a, .int .i64 b, .int .i64 c] w fun e w' => e = .returned (.tuple #[.int .i64 0, .bool false]) ∧ w = w')
    (k2 : ∀ w, Calls Tryd.prog 35 #[.int .i64 s] w fun e w' => e = .returned (.tuple #[.int .i64 (s / 3600), .int .i64 (s / 60 % 60), .int .i64 (s % 60), .bool true]) ∧ w = w')
    (k3 : ∀ w, Calls Tryd.prog 36 #[.int .i64 s, .int .u64 H, .int .u64 M, .int .u64 S] w fun e w' => e = .returned (.bool bb) ∧ w = w')
    (k4 : ∀ w, Calls Tryd.prog 37 #[.int .i64 s, .int .u64 H, .int .u64 M, .int .u64 S] w fun e w' => e = .returned (.bool bb) ∧ w = w')
    (hT : Tab w) :
    Calls Tryd.prog 8 #[.agg #[.int .i64 a, .int .i64 b, .int .i64 c], .int .i64 s, .agg #[.int .u64 H, .int .u64 M, .int .u64 S]] w fun e w' => e = .returned (.bool true) ∧ Below w.heap.size w w' := by
  have dn := dec_n pn
  have d0 := dec_t p0
  have d1 := dec_t p1
  have d2 := dec_t p2
  have d3 := dec_t p3
  have d4 := dec_t p4
  have e0 := dec_t q0
  have e1 := dec_t q1
  have e5 : s / 60 % 60 = s % 3600 / 60 := by omega
  rw [e5] at k2
  clear e5
  have hb2 : Below w.heap.size w ((w.alloc (.cells #[.int .i64 a, .int .i64 b, .int .i64 c] 23)).alloc (.cells #[.int .u64 H, .int .u64 M, .int .u64 S] 54)) := ((Below.refl _ _).alloc (Nat.le_refl _) _).alloc (by simp) _
  have k5 := fun n => flip (lives07_any _ ((hT.below hb2).quiet (Quiet.of _ n)))
  have HB := Lib.hid hb2
  have K5 := Lib.hid k5
  have K3 := Lib.hid (fun w => flip (k3 w))
  have K4 := Lib.hid (fun w => flip (k4 w))
  clear hT hb2 k5 k3 k4 pn
  go_enter Tryd.func8, Tryd.ntmps8
  go_wp2_with fail
  refine (k1 _).mono ?_
  rintro e w1 ⟨rfl, rfl⟩
  go_wp2_with fail
  refine (k2 _).mono ?_
  rintro e w1 ⟨rfl, rfl⟩
  go_wp2_with fail
  go_quiet ((first | (go_at_call 36; exact Calls.quiet_of_same (K3.out _)) | (go_at_call 37; exact Calls.quiet_of_same (K4.out _)) | (go_at_call 38; exact Calls.quiet_of_same (K5.out _))))
  go_wp2
  go_ret
  exact ⟨rfl, HB.out.trans (below_draws _ _ _)⟩
set_option maxHeartbeats 1600000 in
set_option maxRecDepth 100000 in
theorem tp_5_lo (a b c s : Int) (H M S : Nat) (bb : Bool) (w : World) (p0 : 0 ≤ a) (p1 : a < 24) (p2 : 0 ≤ b) (p3 : b < 60) (p4 : 0 ≤ c) (pn : ¬ c < 60)  (qn : ¬ 0 ≤ s)
    (k1 : ∀ w, Calls Tryd.prog 34 #[.int .i64 a, .int .i64 b, .int .i64 c] w fun e w' => e = .returned (.tuple #[.int .i64 0, .bool false]) ∧ w = w')
    (k2 : ∀ w, Calls Tryd.prog 35 #[.int .i64 s] w fun e w' => e = .returned (.tuple #[.int .i64 0, .int .i64 0, .int .i64 0, .bool false]) ∧ w = w')
    (k3 : ∀ w, Calls Tryd.prog 36 #[.int .i64 s, .int .u64 H, .int .u64 M, .int .u64 S] w fun e w' => e = .returned (.bool bb) ∧ w = w')
    (k4 : ∀ w, Calls Tryd.prog 37 #[.int .i64 s, .int .u64 H, .int .u64 M, .int .u64 S] w fun e w' => e = .returned (.bool bb) ∧ w = w')
    (hT : Tab w) :
    Calls Tryd.prog 8 #[.agg #[.int .i64 a, .int .i64 b, .int .i64 c], .int .i64 s, .agg #[.int .u64 H, .int .u64 M, .int .u64 S]] w fun e w' => e = .returned (.bool true) ∧ Below w.heap.size w w' := by
  have dn := dec_n pn
  have en := dec_n qn
  have d0 := dec_t p0
  have d1 := dec_t p1
  have d2 := dec_t p2
  have d3 := dec_t p3
  have d4 := dec_t p4
  have hb2 : Below w.heap.size w ((w.alloc (.cells #[.int .i64 a, .int .i64 b, .int .i64 c] 23)).alloc (.cells #[.int .u64 H, .int .u64 M, .int .u64 S] 54)) := ((Below.refl _ _).alloc (Nat.le_refl _) _).alloc (by simp) _
  have k5 := fun n => flip (lives07_any _ ((hT.below hb2).quiet (Quiet.of _ n)))
  have HB := Lib.hid hb2
  have K5 := Lib.hid k5
  have K3 := Lib.hid (fun w => flip (k3 w))
  have K4 := Lib.hid (fun w => flip (k4 w))
  clear hT hb2 k5 k3 k4 pn qn
  go_enter Tryd.func8, Tryd.ntmps8
  go_wp2_with fail
  refine (k1 _).mono ?_
  rintro e w1 ⟨rfl, rfl⟩
  go_wp2_with fail
  refine (k2 _).mono ?_
  rintro e w1 ⟨rfl, rfl⟩
  go_wp2_with fail
  go_quiet ((first | (go_at_call 36; exact Calls.quiet_of_same (K3.out _)) | (go_at_call 37; exact Calls.quiet_of_same (K4.out _)) | (go_at_call 38; exact Calls.quiet_of_same (K5.out _))))
  go_wp2
  go_ret
  exact ⟨rfl, HB.out.trans (below_draws _ _ _)⟩
set_option maxHeartbeats 1600000 in
set_option maxRecDepth 100000 in
theorem tp_5_hi (a b c s : Int) (H M S : Nat) (bb : Bool) (w : World) (p0 : 0 ≤ a) (p1 : a < 24) (p2 : 0 ≤ b) (p3 : b < 60) (p4 : 0 ≤ c) (pn : ¬ c < 60) (q0 : 0 ≤ s) (qn : ¬ s < 86400)
    (k1 : ∀ w, Calls Tryd.prog 34 #[.int .i64 a, .int .i64 b, .int .i64 c] w fun e w' => e = .returned (.tuple #[.int .i64 0, .bool false]) ∧ w = w')
    (k2 : ∀ w, Calls Tryd.prog 35 #[.int .i64 s] w fun e w' => e = .returned (.tuple #[.int .i64 0, .int .i64 0, .int .i64 0, .bool false]) ∧ w = w')
    (k3 : ∀ w, Calls Tryd.prog 36 #[.int .i64 s, .int .u64 H, .int .u64 M, .int .u64 S] w fun e w' => e = .returned (.bool bb) ∧ w = w')
    (k4 : ∀ w, Calls Tryd.prog 37 #[.int .i64 s, .int .u64 H, .int .u64 M, .int .u64 S] w fun e w' => e = .returned (.bool bb) ∧ w = w')
    (hT : Tab w) :
    Calls Tryd.prog 8 #[.agg #[.int .i64 a, .int .i64 b, .int .i64 c], .int .i64 s, .agg #[.int .u64 H, .int .u64 M, .int .u64 S]] w fun e w' => e = .returned (.bool true) ∧ Below w.heap.size w w' := by
  have dn := dec_n pn
  have en := dec_n qn
  have d0 := dec_t p0
  have d1 := dec_t p1
  have d2 := dec_t p2
  have d3 := dec_t p3
  have d4 := dec_t p4
  have e0 := dec_t q0
  have hb2 : Below w.heap.size w ((w.alloc (.cells #[.int .i64 a, .int .i64 b, .int .i64 c] 23)).alloc (.cells #[.int .u64 H, .int .u64 M, .int .u64 S] 54)) := ((Below.refl _ _).alloc (Nat.le_refl _) _).alloc (by simp) _
  have k5 := fun n => flip (lives07_any _ ((hT.below hb2).quiet (Quiet.of _ n)))
  have HB := Lib.hid hb2
  have K5 := Lib.hid k5
  have K3 := Lib.hid (fun w => flip (k3 w))
  have K4 := Lib.hid (fun w => flip (k4 w))
  clear hT hb2 k5 k3 k4 pn qn
  go_enter Tryd.func8, Tryd.ntmps8
  go_wp2_with fail
  refine (k1 _).mono ?_
  rintro e w1 ⟨rfl, rfl⟩
  go_wp2_with fail
  refine (k2 _).mono ?_
  rintro e w1 ⟨rfl, rfl⟩
  go_wp2_with fail
  go_quiet ((first | (go_at_call 36; exact Calls.quiet_of_same (K3.out _)) | (go_at_call 37; exact Calls.quiet_of_same (K4.out _)) | (go_at_call 38; exact Calls.quiet_of_same (K5.out _))))
  go_wp2
  go_ret
  exact ⟨rfl, HB.out.trans (below_draws _ _ _)⟩
set_option maxHeartbeats 1600000 in
set_option maxRecDepth 100000 in
theorem tp_6_in (a b c s : Int) (H M S : Nat) (bb : Bool) (w : World) (p0 : 0 ≤ a) (p1 : a < 24) (p2 : 0 ≤ b) (p3 : b < 60) (p4 : 0 ≤ c) (p5 : c < 60) (q0 : 0 ≤ s) (q1 : s < 86400)
    (k1 : ∀ w, Calls Tryd.prog 34 #[.int .i64 a, .int .i64 b, .int .i64 c] w fun e w' => e = .returned (.tuple #[(.int .i64 (3600 * a + 60 * b + c)), .bool true]) ∧ w = w')
    (k2 : ∀ w, Calls Tryd.prog 35 #[.int .i64 s] w fun e w' => e = .returned (.tuple #[.int .i64 (s / 3600), .int .i64 (s / 60 % 60), .int .i64 (s % 60), .bool true]) ∧ w = w')
    (k3 : ∀ w, Calls Tryd.prog 36 #[.int .i64 s, .int .u64 H, .int .u64 M, .int .u64 S] w fun e w' => e = .returned (.bool bb) ∧ w = w')
    (k4 : ∀ w, Calls Tryd.prog 37 #[.int .i64 s, .int .u64 H, .int .u64 M, .int .u64 S] w fun e w' => e = .returned (.bool bb) ∧ w = w')
    (hT : Tab w) :
    Calls Tryd.prog 8 #[.agg #[.int .i64 a, .int .i64 b, .int .i64 c], .int .i64 s, .agg #[.int .u64 H, .int .u64 M, .int .u64 S]] w fun e w' => e = .returned (.bool true) ∧ Below w.heap.size w w' := by
  have d0 := dec_t p0
  have d1 := dec_t p1
  have d2 := dec_t p2
  have d3 := dec_t p3
  have d4 := dec_t p4
  have d5 := dec_t p5
  have e0 := dec_t q0
  have e1 := dec_t q1
  have e5 : s / 60 % 60 = s % 3600 / 60 := by omega
  rw [e5] at k2
  clear e5
  have hb2 : Below w.heap.size w ((w.alloc (.cells #[.int .i64 a, .int .i64 b, .int .i64 c] 23)).alloc (.cells #[.int .u64 H, .int .u64 M, .int .u64 S] 54)) := ((Below.refl _ _).alloc (Nat.le_refl _) _).alloc (by simp) _
  have k5 := fun n => flip (lives07_any _ ((hT.below hb2).quiet (Quiet.of _ n)))
  have HB := Lib.hid hb2
  have K5 := Lib.hid k5
  have K3 := Lib.hid (fun w => flip (k3 w))
  have K4 := Lib.hid (fun w => flip (k4 w))
  clear hT hb2 k5 k3 k4
  go_enter Tryd.func8, Tryd.ntmps8
  go_wp2_with fail
  refine (k1 _).mono ?_
  rintro e w1 ⟨rfl, rfl⟩
  go_wp2_with fail
  refine (k2 _).mono ?_
  rintro e w1 ⟨rfl, rfl⟩
  go_wp2_with fail
  go_quiet ((first | (go_at_call 36; exact Calls.quiet_of_same (K3.out _)) | (go_at_call 37; exact Calls.quiet_of_same (K4.out _)) | (go_at_call 38; exact Calls.quiet_of_same (K5.out _))))
  go_wp2
  go_ret
  exact ⟨rfl, HB.out.trans (below_draws _ _ _)⟩
set_option maxHeartbeats 1600000 in
set_option maxRecDepth 100000 in
theorem tp_6_lo (a b c s : Int) (H M S : Nat) (bb : Bool) (w : World) (p0 : 0 ≤ a) (p1 : a < 24) (p2 : 0 ≤ b) (p3 : b < 60) (p4 : 0 ≤ c) (p5 : c < 60)  (qn : ¬ 0 ≤ s)
    (k1 : ∀ w, Calls Tryd.prog 34 #[.int .i64 a, .int .i64 b, .int .i64 c] w fun e w' => e = .returned (.tuple #[(.int .i64 (3600 * a + 60 * b + c)), .bool true]) ∧ w = w')
    (k2 : ∀ w, Calls Tryd.prog 35 #[.int .i64 s] w fun e w' => e = .returned (.tuple #[.int .i64 0, .int .i64 0, .int .i64 0, .bool false]) ∧ w = w')
    (k3 : ∀ w, Calls Tryd.prog 36 #[.int .i64 s, .int .u64 H, .int .u64 M, .int .u64 S] w fun e w' => e = .returned (.bool bb) ∧ w = w')
    (k4 : ∀ w, Calls Tryd.prog 37 #[.int .i64 s, .int .u64 H, .int .u64 M, .int .u64 S] w fun e w' => e = .returned (.bool bb) ∧ w = w')
    (hT : Tab w) :
    Calls Tryd.prog 8 #[.agg #[.int .i64 a, .int .i64 b, .int .i64 c], .int .i64 s, .agg #[.int .u64 H, .int .u64 M, .int .u64 S]] w fun e w' => e = .returned (.bool true) ∧ Below w.heap.size w w' := by
  have en := dec_n qn
  have d0 := dec_t p0
  have d1 := dec_t p1
  have d2 := dec_t p2
  have d3 := dec_t p3
  have d4 := dec_t p4
  have d5 := dec_t p5
  have hb2 : Below w.heap.size w ((w.alloc (.cells #[.int .i64 a, .int .i64 b, .int .i64 c] 23)).alloc (.cells #[.int .u64 H, .int .u64 M, .int .u64 S] 54)) := ((Below.refl _ _).alloc (Nat.le_refl _) _).alloc (by simp) _
  have k5 := fun n => flip (lives07_any _ ((hT.below hb2).quiet (Quiet.of _ n)))
  have HB := Lib.hid hb2
  have K5 := Lib.hid k5
  have K3 := Lib.hid (fun w => flip (k3 w))
  have K4 := Lib.hid (fun w => flip (k4 w))
  clear hT hb2 k5 k3 k4 qn
  go_enter Tryd.func8, Tryd.ntmps8
  go_wp2_with fail
  refine (k1 _).mono ?_
  rintro e w1 ⟨rfl, rfl⟩
  go_wp2_with fail
  refine (k2 _).mono ?_
  rintro e w1 ⟨rfl, rfl⟩
  go_wp2_with fail
  go_quiet ((first | (go_at_call 36; exact Calls.quiet_of_same (K3.out _)) | (go_at_call 37; exact Calls.quiet_of_same (K4.out _)) | (go_at_call 38; exact Calls.quiet_of_same (K5.out _))))
  go_wp2
  go_ret
  exact ⟨rfl, HB.out.trans (below_draws _ _ _)⟩
set_option maxHeartbeats 1600000 in
set_option maxRecDepth 100000 in
theorem tp_6_hi (a b c s : Int) (H M S : Nat) (bb : Bool) (w : World) (p0 : 0 ≤ a) (p1 : a < 24) (p2 : 0 ≤ b) (p3 : b < 60) (p4 : 0 ≤ c) (p5 : c < 60) (q0 : 0 ≤ s) (qn : ¬ s < 86400)
    (k1 : ∀ w, Calls Tryd.prog 34 #[.int .i64 a, .int .i64 b, .int .i64 c] w fun e w' => e = .returned (.tuple #[(.int .i64 (3600 * a + 60 * b + c)), .bool true]) ∧ w = w')
    (k2 : ∀ w, Calls Tryd.prog 35 #[.int .i64 s] w fun e w' => e = .returned (.tuple #[.int .i64 0, .int .i64 0, .int .i64 0, .bool false]) ∧ w = w')
    (k3 : ∀ w, Calls Tryd.prog 36 #[.int .i64 s, .int .u64 H, .int .u64 M, .int .u64 S] w fun e w' => e = .returned (.bool bb) ∧ w = w')
    (k4 : ∀ w, Calls Tryd.prog 37 #[.int .i64 s, .int .u64 H, .int .u64 M, .int .u64 S] w fun e w' => e = .returned (.bool bb) ∧ w = w')
    (hT : Tab w) :
    Calls Tryd.prog 8 #[.agg #[.int .i64 a, .int .i64 b, .int .i64 c], .int .i64 s, .agg #[.int .u64 H, .int .u64 M, .int .u64 S]] w fun e w' => e = .returned (.bool true) ∧ Below w.heap.size w w' := by
  have en := dec_n qn
  have d0 := dec_t p0
  have d1 := dec_t p1
  have d2 := dec_t p2
  have d3 := dec_t p3
  have d4 := dec_t p4
  have d5 := dec_t p5
  have e0 := dec_t q0
  have hb2 : Below w.heap.size w ((w.alloc (.cells #[.int .i64 a, .int .i64 b, .int .i64 c] 23)).alloc (.cells #[.int .u64 H, .int .u64 M, .int .u64 S] 54)) := ((Below.refl _ _).alloc (Nat.le_refl _) _).alloc (by simp) _
  have k5 := fun n => flip (lives07_any _ ((hT.below hb2).quiet (Quiet.of _ n)))
  have HB := Lib.hid hb2
  have K5 := Lib.hid k5
  have K3 := Lib.hid (fun w => flip (k3 w))
  have K4 := Lib.hid (fun w => flip (k4 w))
  clear hT hb2 k5 k3 k4 qn
  go_enter Tryd.func8, Tryd.ntmps8
  go_wp2_with fail
  refine (k1 _).mono ?_
  rintro e w1 ⟨rfl, rfl⟩
  go_wp2_with fail
  refine (k2 _).mono ?_
  rintro e w1 ⟨rfl, rfl⟩
  go_wp2_with fail
  go_quiet ((first | (go_at_call 36; exact Calls.quiet_of_same (K3.out _)) | (go_at_call 37; exact Calls.quiet_of_same (K4.out _)) | (go_at_call 38; exact Calls.quiet_of_same (K5.out _))))
  go_wp2
  go_ret
  exact ⟨rfl, HB.out.trans (below_draws _ _ _)⟩
theorem todParts_walk (xs : List Int) (s : Int) (ms : List Int) (w : World) (hx : xs.length = 3) (hxw : ∀ z ∈ xs, (Lit.int .i64 z).wf = true) (ws : (Lit.int .i64 s).wf = true) (hm : ms.length = 3) (hmw : ∀ z ∈ ms, (Lit.int .u64 z).wf = true) (hT : Tab w) :
    Calls Tryd.prog 8 #[.agg (xs.map (Value.int .i64)).toArray, .int .i64 s, .agg (ms.map (Value.int .u64)).toArray] w fun e w' => e = .returned (.bool true) ∧ Below w.heap.size w w' := by
  match xs, hx, ms, hm, hmw with
  | [a, b, c], _, [H', M', S'], _, hmw =>
    obtain ⟨H, rfl, hH⟩ := wf_u64 (hmw H' (by simp))
    obtain ⟨M, rfl, hM⟩ := wf_u64 (hmw M' (by simp))
    obtain ⟨S, rfl, hS⟩ := wf_u64 (hmw S' (by simp))
    show Calls _ _ #[.agg #[.int .i64 a, .int .i64 b, .int .i64 c], .int .i64 s, .agg #[.int .u64 H, .int .u64 M, .int .u64 S]] w _
    have k3 := fun w => tin_any s H M S w (by omega) (by omega) (by omega)
    have k4 := fun w => rtin_any s H M S w (by omega) (by omega) (by omega)
    by_cases p0 : 0 ≤ a
    case neg =>
      by_cases q0 : 0 ≤ s
      · by_cases q1 : s < 86400
        · exact tp_0_in a b c s H M S _ w  p0 q0 q1 (fun w => tod_no a b c w (fun h => p0 h.1)) (fun w => tparts_yes s w q0 q1) k3 k4 hT
        · exact tp_0_hi a b c s H M S _ w  p0 q0 q1 (fun w => tod_no a b c w (fun h => p0 h.1)) (fun w => tparts_no s w (by omega)) k3 k4 hT
      · exact tp_0_lo a b c s H M S _ w  p0 q0 (fun w => tod_no a b c w (fun h => p0 h.1)) (fun w => tparts_no s w (by omega)) k3 k4 hT
    by_cases p1 : a < 24
    case neg =>
      by_cases q0 : 0 ≤ s
      · by_cases q1 : s < 86400
        · exact tp_1_in a b c s H M S _ w p0 p1 q0 q1 (fun w => tod_no a b c w (fun h => p1 h.2.1)) (fun w => tparts_yes s w q0 q1) k3 k4 hT
        · exact tp_1_hi a b c s H M S _ w p0 p1 q0 q1 (fun w => tod_no a b c w (fun h => p1 h.2.1)) (fun w => tparts_no s w (by omega)) k3 k4 hT
      · exact tp_1_lo a b c s H M S _ w p0 p1 q0 (fun w => tod_no a b c w (fun h => p1 h.2.1)) (fun w => tparts_no s w (by omega)) k3 k4 hT
    by_cases p2 : 0 ≤ b
    case neg =>
      by_cases q0 : 0 ≤ s
      · by_cases q1 : s < 86400
        · exact tp_2_in a b c s H M S _ w p0 p1 p2 q0 q1 (fun w => tod_no a b c w (fun h => p2 h.2.2.1)) (fun w => tparts_yes s w q0 q1) k3 k4 hT
        · exact tp_2_hi a b c s H M S _ w p0 p1 p2 q0 q1 (fun w => tod_no a b c w (fun h => p2 h.2.2.1)) (fun w => tparts_no s w (by omega)) k3 k4 hT
      · exact tp_2_lo a b c s H M S _ w p0 p1 p2 q0 (fun w => tod_no a b c w (fun h => p2 h.2.2.1)) (fun w => tparts_no s w (by omega)) k3 k4 hT
    by_cases p3 : b < 60
    case neg =>
      by_cases q0 : 0 ≤ s
      · by_cases q1 : s < 86400
        · exact tp_3_in a b c s H M S _ w p0 p1 p2 p3 q0 q1 (fun w => tod_no a b c w (fun h => p3 h.2.2.2.1)) (fun w => tparts_yes s w q0 q1) k3 k4 hT
        · exact tp_3_hi a b c s H M S _ w p0 p1 p2 p3 q0 q1 (fun w => tod_no a b c w (fun h => p3 h.2.2.2.1)) (fun w => tparts_no s w (by omega)) k3 k4 hT
      · exact tp_3_lo a b c s H M S _ w p0 p1 p2 p3 q0 (fun w => tod_no a b c w (fun h => p3 h.2.2.2.1)) (fun w => tparts_no s w (by omega)) k3 k4 hT
    by_cases p4 : 0 ≤ c
    case neg =>
      by_cases q0 : 0 ≤ s
      · by_cases q1 : s < 86400
        · exact tp_4_in a b c s H M S _ w p0 p1 p2 p3 p4 q0 q1 (fun w => tod_no a b c w (fun h => p4 h.2.2.2.2.1)) (fun w => tparts_yes s w q0 q1) k3 k4 hT
        · exact tp_4_hi a b c s H M S _ w p0 p1 p2 p3 p4 q0 q1 (fun w => tod_no a b c w (fun h => p4 h.2.2.2.2.1)) (fun w => tparts_no s w (by omega)) k3 k4 hT
      · exact tp_4_lo a b c s H M S _ w p0 p1 p2 p3 p4 q0 (fun w => tod_no a b c w (fun h => p4 h.2.2.2.2.1)) (fun w => tparts_no s w (by omega)) k3 k4 hT
    by_cases p5 : c < 60
    case neg =>
      by_cases q0 : 0 ≤ s
      · by_cases q1 : s < 86400
        · exact tp_5_in a b c s H M S _ w p0 p1 p2 p3 p4 p5 q0 q1 (fun w => tod_no a b c w (fun h => p5 h.2.2.2.2.2)) (fun w => tparts_yes s w q0 q1) k3 k4 hT
        · exact tp_5_hi a b c s H M S _ w p0 p1 p2 p3 p4 p5 q0 q1 (fun w => tod_no a b c w (fun h => p5 h.2.2.2.2.2)) (fun w => tparts_no s w (by omega)) k3 k4 hT
      · exact tp_5_lo a b c s H M S _ w p0 p1 p2 p3 p4 p5 q0 (fun w => tod_no a b c w (fun h => p5 h.2.2.2.2.2)) (fun w => tparts_no s w (by omega)) k3 k4 hT
    by_cases q0 : 0 ≤ s
    · by_cases q1 : s < 86400
      · exact tp_6_in a b c s H M S _ w p0 p1 p2 p3 p4 p5 q0 q1 (fun w => tod_yes a b c w ⟨p0, p1, p2, p3, p4, p5⟩) (fun w => tparts_yes s w q0 q1) k3 k4 hT
      · exact tp_6_hi a b c s H M S _ w p0 p1 p2 p3 p4 p5 q0 q1 (fun w => tod_yes a b c w ⟨p0, p1, p2, p3, p4, p5⟩) (fun w => tparts_no s w (by omega)) k3 k4 hT
    · exact tp_6_lo a b c s H M S _ w p0 p1 p2 p3 p4 p5 q0 (fun w => tod_yes a b c w ⟨p0, p1, p2, p3, p4, p5⟩) (fun w => tparts_no s w (by omega)) k3 k4 hT
end Go.Proofs.YtjlieamjlelipaaDoor
