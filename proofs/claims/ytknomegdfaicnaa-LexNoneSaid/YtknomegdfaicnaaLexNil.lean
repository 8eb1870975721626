/- A reader that isn't there, and a text that is too long: contracts, and the walk of LexNone (layer 11). -/
import Derived.Test.YtknomegdfaicnaaLexIs
import Derived.Laws.MakeOwn
import Derived.Laws.BytesArg
namespace Go.Proofs.Ytknomegdfaicnaa
open Go.RowKit
set_option linter.unusedVariables false

theorem below_one (w : World) (o : Obj) : Below w.heap.size w (w.alloc o) := (Below.refl _ _).alloc (Nat.le_refl _) o
theorem below_cut' {a w w' : World} (h : Below a.heap.size a w) (h2 : Below w.heap.size w w') : Below a.heap.size a w' := h.trans (h2.mono h.size)
theorem wf_u16' {a : Int} (h : (Lit.int .u16 a).wf = true) : ∃ n : Nat, a = n ∧ n ≤ 65535 := by
  simp only [Lit.wf, Bool.and_eq_true, decide_eq_true_eq] at h
  have h1 : 0 ≤ a := h.1
  have h2 : a ≤ 65535 := h.2
  exact ⟨a.toNat, by omega, by omega⟩
theorem done_nil (w : World) : Calls Try.prog 28 #[.pointer none] w fun e w' => e = .returned (.bool true) ∧ Quiet w w' := by
  go_enter Try.func28, Try.ntmps28
  go_wp2
  go_quiet (fail)
  go_wp2
  go_ret
  exact ⟨rfl, Quiet.of _ _⟩
theorem at_nil (w : World) : Calls Try.prog 27 #[.pointer none] w fun e w' => e = .returned (.int .i64 0) ∧ w = w' := by
  go_enter Try.func27, Try.ntmps27
  go_wp2
  go_ret
  exact ⟨rfl, rfl⟩
theorem wrong_nil (w : World) : Calls Try.prog 25 #[.pointer none] w fun e w' => e = .returned (.tuple #[.int .i64 0, .int .i64 0]) ∧ w = w' := by
  go_enter Try.func25, Try.ntmps25
  go_wp2
  go_ret2
  exact ⟨rfl, rfl⟩
theorem fail_nil (w : World) : Calls Try.prog 23 #[.pointer none, .int .i64 3, .int .i64 3] w fun e w' => e = .returned (.tuple #[]) ∧ w = w' := by
  go_enter Try.func23, Try.ntmps23
  go_wp2
  go_end0
  exact ⟨rfl, rfl⟩
theorem end_nil (w : World) : Calls Try.prog 24 #[.pointer none] w fun e w' => e = .returned (.tuple #[]) ∧ Quiet w w' := by
  go_enter Try.func24, Try.ntmps24
  go_wp2_with fail
  refine (done_nil _).mono ?_
  rintro e x0 ⟨rfl, q0⟩
  go_wp2
  go_end0
  exact ⟨rfl, q0⟩
theorem peek_nil (w : World) : Calls Try.prog 29 #[.pointer none] w fun e w' => e = .returned (.int .u8 0) ∧ Quiet w w' := by
  go_enter Try.func29, Try.ntmps29
  go_wp2_with fail
  refine (done_nil _).mono ?_
  rintro e x0 ⟨rfl, q0⟩
  go_wp2
  go_ret
  exact ⟨rfl, q0⟩
theorem lack_nil (w : World) : Calls Try.prog 61 #[.pointer none] w fun e w' => e = .returned (.tuple #[]) ∧ w = w' := by
  go_enter Try.func61, Try.ntmps61
  go_wp2
  refine bodyPost_ret (results_none rfl _ _ _) rfl ?_
  exact ⟨rfl, rfl⟩
theorem take_nil_Number (w : World) : Calls Try.prog 59 #[.pointer none, .func (.func 60) #[] #[]] w fun e w' => e = .returned (.string ⟨#[]⟩) ∧ Quiet w w' := by
  go_enter Try.func59, Try.ntmps59
  go_wp2_with fail
  refine (done_nil _).mono ?_
  rintro e x0 ⟨rfl, q0⟩
  go_wp2
  go_ret
  exact ⟨rfl, q0⟩
theorem take_nil_Word (w : World) : Calls Try.prog 59 #[.pointer none, .func (.func 65) #[] #[]] w fun e w' => e = .returned (.string ⟨#[]⟩) ∧ Quiet w w' := by
  go_enter Try.func59, Try.ntmps59
  go_wp2_with fail
  refine (done_nil _).mono ?_
  rintro e x0 ⟨rfl, q0⟩
  go_wp2
  go_ret
  exact ⟨rfl, q0⟩
theorem take_nil_Blanks (w : World) : Calls Try.prog 59 #[.pointer none, .func (.func 64) #[] #[]] w fun e w' => e = .returned (.string ⟨#[]⟩) ∧ Quiet w w' := by
  go_enter Try.func59, Try.ntmps59
  go_wp2_with fail
  refine (done_nil _).mono ?_
  rintro e x0 ⟨rfl, q0⟩
  go_wp2
  go_ret
  exact ⟨rfl, q0⟩
theorem number_nil (w : World) : Calls Try.prog 26 #[.pointer none, .int .i64 3] w fun e w' => e = .returned (.tuple #[.int .i64 0, .bool false]) ∧ Quiet w w' := by
  go_enter Try.func26, Try.ntmps26
  go_wp2_with fail
  refine (at_nil _).mono ?_
  rintro e x0 ⟨rfl, rfl⟩
  go_wp2_with fail
  refine (take_nil_Number _).mono ?_
  rintro e x1 ⟨rfl, q1⟩
  go_wp2_with fail
  refine (lack_nil _).mono ?_
  rintro e x2 ⟨rfl, rfl⟩
  go_wp2
  go_ret2
  exact ⟨rfl, q1⟩
theorem word_nil (w : World) : Calls Try.prog 34 #[.pointer none] w fun e w' => e = .returned (.string ⟨#[]⟩) ∧ Quiet w w' := by
  go_enter Try.func34, Try.ntmps34
  go_wp2_with fail
  refine (take_nil_Word _).mono ?_
  rintro e x0 ⟨rfl, q0⟩
  go_wp2
  go_ret
  exact ⟨rfl, q0⟩
theorem blanks_nil (w : World) : Calls Try.prog 33 #[.pointer none] w fun e w' => e = .returned (.int .i64 0) ∧ Quiet w w' := by
  go_enter Try.func33, Try.ntmps33
  go_wp2_with fail
  refine (take_nil_Blanks _).mono ?_
  rintro e x0 ⟨rfl, q0⟩
  go_wp2
  go_ret
  exact ⟨rfl, q0⟩
theorem one_nil (C : Addr) (w : World) : Calls Try.prog 62 #[.pointer none, .slice (some C) 1 1] w fun e w' => e = .returned (.tuple #[.int .u8 0, .bool false]) ∧ Quiet w w' := by
  go_enter Try.func62, Try.ntmps62
  go_wp2_with fail
  refine (done_nil _).mono ?_
  rintro e x0 ⟨rfl, q0⟩
  go_wp2
  go_ret2
  exact ⟨rfl, q0⟩
theorem is_nil (C : Addr) (w : World) : Calls Try.prog 30 #[.pointer none, .slice (some C) 1 1] w fun e w' => e = .returned (.bool false) ∧ Quiet w w' := by
  go_enter Try.func30, Try.ntmps30
  go_wp2_with fail
  refine (one_nil _ _).mono ?_
  rintro e x0 ⟨rfl, q0⟩
  go_wp2
  go_ret
  exact ⟨rfl, q0⟩
theorem must_nil (C : Addr) (w : World) : Calls Try.prog 31 #[.pointer none, .slice (some C) 1 1] w fun e w' => e = .returned (.int .u8 0) ∧ Quiet w w' := by
  go_enter Try.func31, Try.ntmps31
  go_wp2_with fail
  refine (one_nil _ _).mono ?_
  rintro e x0 ⟨rfl, q0⟩
  go_wp2_with fail
  refine (lack_nil _).mono ?_
  rintro e x1 ⟨rfl, rfl⟩
  go_wp2
  go_ret
  exact ⟨rfl, q0⟩
theorem text_nil (w : World) : Calls Try.prog 32 #[.pointer none, .string ⟨#[97]⟩] w fun e w' => e = .returned (.bool false) ∧ Quiet w w' := by
  have k : ∀ w, Calls Try.prog 28 #[.pointer none] w fun e w' => e = .returned (.bool true) ∧ ∃ m, w' = w.drewN m := fun w => done_nil w
  go_enter Try.func32, Try.ntmps32
  go_wp2_with fail
  go_quiet ((go_at_call 28; exact Calls.quiet_of (k _)))
  go_wp2
  go_ret
  exact ⟨rfl, Quiet.of _ _⟩
theorem done_bad (R : Nat) (s : ByteArray) (a : Nat) (wh : Int) (w : World) (h : Rd w R s a wh 5) : Calls Try.prog 28 #[.pointer (some ⟨R, 0, none⟩)] w fun e w' => e = .returned (.bool true) ∧ Quiet w w' := by
  have c0 := h.c0
  have c1 := h.c1
  have c3 := h.c3
  have H := Lib.hid h
  clear h
  go_enter Try.func28, Try.ntmps28
  go_wp2
  go_quiet (fail)
  go_wp2
  go_ret
  exact ⟨rfl, Quiet.of _ _⟩
theorem is_bad (R : Nat) (s : ByteArray) (a : Nat) (wh : Int) (C : Addr) (w : World) (h : Rd w R s a wh 5) : Calls Try.prog 30 #[.pointer (some ⟨R, 0, none⟩), .slice (some C) 1 1] w fun e w' => e = .returned (.bool false) ∧ Quiet w w' := by
  have k1 : Calls Try.prog 62 #[.pointer (some ⟨R, 0, none⟩), .slice (some C) 1 1] w fun e w' => e = .returned (.tuple #[.int .u8 0, .bool false]) ∧ Quiet w w' := by
    have k0 := done_bad R s a wh w h
    clear h
    go_enter Try.func62, Try.ntmps62
    go_wp2_with fail
    refine k0.mono ?_
    rintro e x0 ⟨rfl, q0⟩
    go_wp2
    go_ret2
    exact ⟨rfl, q0⟩
  clear h
  go_enter Try.func30, Try.ntmps30
  go_wp2_with fail
  refine (k1).mono ?_
  rintro e x0 ⟨rfl, q0⟩
  go_wp2
  go_ret
  exact ⟨rfl, q0⟩
theorem fail_put (R : Nat) (s : ByteArray) (w : World) (h : Rd w R s 0 0 0) : Calls Try.prog 23 #[.pointer (some ⟨R, 0, none⟩), .int .i64 8192, .int .i64 5] w fun e w' => e = .returned (.tuple #[]) ∧ Rd w' R s 0 8192 5 ∧ But (fun b => b = R) w w' := by
  have c2 := h.c2
  have c3 := h.c3
  have f2 := h.fz 2
  have f3 := h.fz 3
  have H := Lib.hid h
  clear h
  go_enter Try.func23, Try.ntmps23
  go_wp2
  go_end0
  exact ⟨rfl, blk_put (blk_put H.out 2 _) 3 _, ((But.refl (fun b => b = R) w).setCell (.inr rfl) _).setCell (.inr rfl) _⟩
theorem new_long (s : ByteArray) (w : World) (hs : 8192 < s.size) (h2 : s.size ≤ 10000) : Calls Try.prog 35 #[.string s] w fun e w' => e = .returned (.pointer (some ⟨w.heap.size, 0, none⟩)) ∧ Rd w' w.heap.size s 0 8192 5 ∧ Below w.heap.size w w' := by
  have d := decide_eq_true (show (8192 : Int) < (s.size : Int) by omega)
  go_enter Try.func35, Try.ntmps35
  go_wp2_with fail
  refine (fail_put _ s _ (blk_new _ _)).mono ?_
  rintro e x0 ⟨rfl, hr, hb⟩
  go_wp2
  go_ret
  exact ⟨rfl, hr, Below.but (below_one w _) hb (not_lt (Nat.le_refl _))⟩
/-- so many zeros, as cells and as a text -/
def zeroC (k : Nat) : Array Value := madeCells #[.int .u8 0] k
def zeroS (k : Nat) : ByteArray := strOfNums (List.replicate k 0)
theorem zeroS_size (k : Nat) : (zeroS k).size = k := by unfold zeroS; rw [strOfNums_size, List.length_replicate]
theorem zeroS_at (k i : Nat) (h : i < (zeroS k).size) : ((zeroS k)[i]'h).toNat = 0 := by
  have e : (zeroS k)[i]'h = (zeroS k).data.toList[i]'(by rw [len_list]; exact h) := rfl
  rw [e]
  simp [zeroS, strOfNums]
theorem info_u8 : (Try.prog.info? 5).map (fun i => (i.zero, i.size, i.bytes)) = some (some (.int .u8 0), 1, 1) := by kernel_rfl
theorem make_zeros (k : Nat) (hk : k ≤ 100000) (w : World) : (Instr.makeSlice 63 (.int .i64 k) (.int .i64 k)).run Try.prog w = .ok (.slice (some ⟨w.heap.size, 0, none⟩) k k) (w.alloc (.cells (zeroC k) 5)) := by
  obtain ⟨i, hi, e⟩ := Option.map_eq_some_iff.1 info_u8
  simp only [Prod.mk.injEq] at e
  obtain ⟨e1, e2, e3⟩ := e
  have := run_make (P := Try.prog) w 63 5 i (.int .u8 0) (by kernel_rfl) hi e1 .i64 .i64 k k (by omega) (by omega) (by rw [e3]; omega) (by omega)
  rw [this, e2]
  simp [zeroC, Value.cells]
theorem conv_zeros (k : Nat) (w : World) : (convert 63 9 (.slice (some ⟨w.heap.size, 0, none⟩) k k)).run Try.prog (w.alloc (.cells (zeroC k) 5)) = .ok (.string (zeroS k)) (w.alloc (.cells (zeroC k) 5)) := by
  refine run_convert_bytes_arg (P := Try.prog) _ 63 5 (by kernel_rfl) (by kernel_rfl) w.heap.size 0 k k (List.replicate k 0) (by simp) (fun i hi => ?_) 9 (by kernel_rfl)
  rw [Nat.zero_add, blk_cell (blk_new w _) i]
  simp [zeroC, madeCells, hi, List.getD, Nat.mod_one]
end Go.Proofs.Ytknomegdfaicnaa
