/- The reader of layer 11: its block, and contracts of At, Wrong, Done, Peek, take, one, Is, Word, Blanks. -/
import Derived.Test.YtknomegdfaicnaaBut
import Derived.Lib.Strings
import Derived.LoopN
import Derived.Deep.LoopGhost
namespace Go.Proofs.Ytknomegdfaicnaa
open Go.RowKit
set_option linter.unusedVariables false

/-- the reader's block -/
def Rd (w : World) (R : Nat) (s : ByteArray) (at' : Nat) (wh e : Int) : Prop := w.heap[R]? = some (.cells #[.string s, .int .i64 at', .int .i64 wh, .int .i64 e] 87 (0, 0))
theorem Rd.c0 {w : World} {R : Nat} {s : ByteArray} {a : Nat} {wh e : Int} (h : Rd w R s a wh e) : w.cell? ⟨R, 0, none⟩ = some (.string s) := blk_cell h 0
theorem Rd.c1 {w : World} {R : Nat} {s : ByteArray} {a : Nat} {wh e : Int} (h : Rd w R s a wh e) : w.cell? ⟨R, 1, none⟩ = some (.int .i64 a) := blk_cell h 1
theorem Rd.c2 {w : World} {R : Nat} {s : ByteArray} {a : Nat} {wh e : Int} (h : Rd w R s a wh e) : w.cell? ⟨R, 2, none⟩ = some (.int .i64 wh) := blk_cell h 2
theorem Rd.c3 {w : World} {R : Nat} {s : ByteArray} {a : Nat} {wh e : Int} (h : Rd w R s a wh e) : w.cell? ⟨R, 3, none⟩ = some (.int .i64 e) := blk_cell h 3
theorem Rd.fz {w : World} {R : Nat} {s : ByteArray} {a : Nat} {wh e : Int} (h : Rd w R s a wh e) (i : Nat) : w.frozen? ⟨R, i, none⟩ = false := blk_free h i
theorem Rd.set {w : World} {R : Nat} {s : ByteArray} {a : Nat} {wh e : Int} (h : Rd w R s a wh e) (b : Nat) : Rd (w.setCell ⟨R, 1, none⟩ (.int .i64 b)) R s b wh e := blk_put h 1 _
theorem Rd.quiet {w w' : World} {R : Nat} {s : ByteArray} {a : Nat} {wh e : Int} (h : Rd w R s a wh e) (q : Quiet w w') : Rd w' R s a wh e := by unfold Rd; rw [q.heap]; exact h
theorem Rd.but {X : Nat → Prop} {w w' : World} {R : Nat} {s : ByteArray} {a : Nat} {wh e : Int} (h : Rd w R s a wh e) (q : But X w w') (hx : ¬ X R) : Rd w' R s a wh e := q.blk h hx

theorem at_any (R : Nat) (s : ByteArray) (a : Nat) (wh e : Int) (w : World) (h : Rd w R s a wh e) : Calls Try.prog 27 #[.pointer (some ⟨R, 0, none⟩)] w fun e w' => e = .returned (.int .i64 a) ∧ w = w' := by
  have c1 := h.c1
  have H := Lib.hid h
  clear h
  go_enter Try.func27, Try.ntmps27
  go_wp2
  go_ret
  exact ⟨rfl, rfl⟩
theorem wrong_any (R : Nat) (s : ByteArray) (a : Nat) (wh e : Int) (w : World) (h : Rd w R s a wh e) : Calls Try.prog 25 #[.pointer (some ⟨R, 0, none⟩)] w fun e' w' => e' = .returned (.tuple #[.int .i64 wh, .int .i64 e]) ∧ Quiet w w' := by
  have c2 := h.c2
  have c3 := h.c3
  have H := Lib.hid h
  clear h
  go_enter Try.func25, Try.ntmps25
  go_wp2
  go_quiet (fail)
  go_wp2
  go_ret2
  exact ⟨rfl, Quiet.of _ _⟩
theorem done_no (R : Nat) (s : ByteArray) (a : Nat) (wh : Int) (w : World) (h : Rd w R s a wh 0) (ha : a < s.size) : Calls Try.prog 28 #[.pointer (some ⟨R, 0, none⟩)] w fun e w' => e = .returned (.bool false) ∧ Quiet w w' := by
  have c0 := h.c0
  have c1 := h.c1
  have c3 := h.c3
  have d : decide (s.size ≤ a) = false := decide_eq_false (by omega)
  have H := Lib.hid h
  clear h ha
  go_enter Try.func28, Try.ntmps28
  go_wp2
  go_quiet (fail)
  go_wp2
  go_ret
  exact ⟨rfl, Quiet.of _ _⟩
theorem done_yes (R : Nat) (s : ByteArray) (a : Nat) (wh : Int) (w : World) (h : Rd w R s a wh 0) (ha : s.size ≤ a) : Calls Try.prog 28 #[.pointer (some ⟨R, 0, none⟩)] w fun e w' => e = .returned (.bool true) ∧ Quiet w w' := by
  have c0 := h.c0
  have c1 := h.c1
  have c3 := h.c3
  have d : decide (s.size ≤ a) = true := decide_eq_true (by omega)
  have H := Lib.hid h
  clear h ha
  go_enter Try.func28, Try.ntmps28
  go_wp2
  go_quiet (fail)
  go_wp2
  go_ret
  exact ⟨rfl, Quiet.of _ _⟩
theorem peek_no (R : Nat) (s : ByteArray) (a : Nat) (wh : Int) (w : World) (h : Rd w R s a wh 0) (ha : a < s.size) : Calls Try.prog 29 #[.pointer (some ⟨R, 0, none⟩)] w fun e w' => e = .returned (.int .u8 (s[a]'ha).toNat) ∧ Quiet w w' := by
  have k := done_no R s a wh w h ha
  have H := Lib.hid h
  clear h
  go_enter Try.func29, Try.ntmps29
  go_wp2_with fail
  refine k.mono ?_
  rintro e w1 ⟨rfl, q⟩
  have h1 := H.out.quiet q
  have c0 := h1.c0
  have c1 := h1.c1
  have i0 : (0 : Int) ≤ (a : Int) := by omega
  have i1 : (a : Int) < (s.size : Int) := by omega
  clear h1
  go_wp2
  go_quiet (fail)
  go_wp2
  go_ret
  exact ⟨rfl, q.trans (Quiet.of _ _)⟩
theorem peek_done (R : Nat) (s : ByteArray) (a : Nat) (wh : Int) (w : World) (h : Rd w R s a wh 0) (ha : s.size ≤ a) : Calls Try.prog 29 #[.pointer (some ⟨R, 0, none⟩)] w fun e w' => e = .returned (.int .u8 0) ∧ Quiet w w' := by
  have k := done_yes R s a wh w h ha
  go_enter Try.func29, Try.ntmps29
  go_wp2_with fail
  refine k.mono ?_
  rintro e w1 ⟨rfl, q⟩
  go_wp2
  go_ret
  exact ⟨rfl, q⟩
end Go.Proofs.Ytknomegdfaicnaa
