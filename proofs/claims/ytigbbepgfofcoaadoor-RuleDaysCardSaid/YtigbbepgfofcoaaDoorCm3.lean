/- The clause that each instant has (layer 13). The clause that each instant has, by the document (layer 13). Clauses held against each other (layer 13). -/
import Derived.Test.YtigbbepgfofcoaaDoorCmE
import Derived.Test.YtigbbepgfofcoaaDoorWdA
import Derived.Test.YtigbbepgfofcoaaDoorRow
namespace Go.Proofs.YtigbbepgfofcoaaDoor
open Go.RowKit
set_option linter.unusedVariables false

def fullP (P : Nat → Bool) : Cl := ⟨1152921504606846975, 1152921504606846975, 16777215, 8190, 4294967294, 4294967294, 254, false, 0, false, fun _ => 0, P, 0, 1, 0, 0, 12622780799⟩
def fullC : Cl := fullP fullW
/-- the cells of no clause -/
def clZ : Array Value := #[.int .u64 0, .int .u64 0, .int .u64 0, .int .u64 0, .int .u64 0, .int .u64 0, .int .u64 0, .bool false, .int .i64 0, .bool false, .int .u64 0, .int .u64 0, .int .u64 0, .int .u64 0, .int .u64 0, .int .u64 0, .int .u64 0, .int .u64 0, .int .u64 0, .int .u64 0, .int .u64 0, .int .u64 0, .int .u64 0, .int .u64 0, .int .u64 0, .int .i64 0, .int .i64 0, .int .i64 0, .int .i64 0, .int .i64 0]
theorem results30 {fn : Func} {p : Tmp} {tmps : Array Value} {w : World} {b : Nat} {c : Cl} (h : fn.results = #[.cell p 75]) (hp : tmps.getD p undef = .pointer (some ⟨b, 0, none⟩)) (hb : ClAt w b c) : (results fn tmps).run Tryd.prog w = .ok (clV c) w :=
  results_cell_row h tmps w b _ (clC c) (0, 0) _ hp hb Tryd.underlying75 rfl (by unfold clC; kernel_rfl)

set_option maxHeartbeats 1600000 in
set_option maxRecDepth 20000 in
theorem cfull_any (w : World) : Calls Tryd.prog 67 #[] w fun e w' => e = .returned (clV fullC) ∧ Below w.heap.size w w' := by
  have K := Lib.hid (fun W => wfull_any W)
  have HN := Lib.hid (blk_new w (.cells clZ 75))
  have HB0 := Lib.hid (show Below w.heap.size w (w.alloc (.cells clZ 75)) from (Below.refl _ _).alloc (Nat.le_refl _) _)
  have K1 := K.out
  unfold fullC
  obtain ⟨P, hP⟩ : ∃ P, fullW = P := ⟨_, rfl⟩
  rw [hP] at K1 ⊢
  unfold S7 c7 at K1
  clear hP K
  have HV : clV (fullP P) = .agg #[.int .u64 1152921504606846975, .int .u64 1152921504606846975, .int .u64 16777215, .int .u64 8190, .int .u64 4294967294, .int .u64 4294967294, .int .u64 254, .bool false, .int .i64 0, .bool false, .int .u64 0, .int .u64 0, .int .u64 0, .int .u64 0, .int .u64 0, .int .u64 0, .int .u64 0, .int .u64 0, .int .u64 (wv P 0 : Nat), .int .u64 (wv P 1 : Nat), .int .u64 (wv P 2 : Nat), .int .u64 (wv P 3 : Nat), .int .u64 (wv P 4 : Nat), .int .u64 (wv P 5 : Nat), .int .u64 (wv P 6 : Nat), .int .i64 0, .int .i64 1, .int .i64 0, .int .i64 0, .int .i64 12622780799] := by simp [clV, clC, fullP]
  rw [HV]
  clear HV
  generalize wv P 0 = y0 at K1 ⊢
  generalize wv P 1 = y1 at K1 ⊢
  generalize wv P 2 = y2 at K1 ⊢
  generalize wv P 3 = y3 at K1 ⊢
  generalize wv P 4 = y4 at K1 ⊢
  generalize wv P 5 = y5 at K1 ⊢
  generalize wv P 6 = y6 at K1 ⊢
  go_enter Tryd.func67, Tryd.ntmps67
  go_wp2_with fail
  refine (K1 _).mono ?_
  rintro e w1 ⟨rfl, hb⟩
  have HG := Lib.hid ((hb.block _ (lt_of_block HN.out)).trans HN.out)
  have HB := Lib.hid (HB0.out.trans (hb.mono HB0.out.size))
  clear hb K1 HN HB0
  go_wp2_with (first | (refine wpList_buildIs #[.int .u64 1152921504606846975, .int .u64 1152921504606846975, .int .u64 16777215, .int .u64 8190, .int .u64 4294967294, .int .u64 4294967294, .int .u64 254, .bool false, .int .i64 0, .bool false, .int .u64 0, .int .u64 0, .int .u64 0, .int .u64 0, .int .u64 0, .int .u64 0, .int .u64 0, .int .u64 0, .int .u64 y0, .int .u64 y1, .int .u64 y2, .int .u64 y3, .int .u64 y4, .int .u64 y5, .int .u64 y6, .int .i64 0, .int .i64 1, .int .i64 0, .int .i64 0, .int .i64 12622780799] rfl _ _ rfl (by kernel_rfl) ?_) | (refine wpList_storeRow HG.out _ rfl _ _ _ rfl rfl rfl (by kernel_rfl) (by kernel_rfl) (by kernel_rfl) ?_))
  exact bodyPost_ret (results_cell_row rfl _ _ _ _ _ (0, 0) _ rfl (row_set HG.out) Tryd.underlying75 rfl (by kernel_rfl)) rfl ⟨rfl, Below.but HB.out (row_but _ _ _) (fun i hi hx => by omega)⟩
end Go.Proofs.YtigbbepgfofcoaaDoor
namespace Go.Proofs.YtigbbepgfofcoaaDoor
open Go.RowKit
set_option linter.unusedVariables false

theorem full_cells : clV fullC = .agg #[.int .u64 1152921504606846975, .int .u64 1152921504606846975, .int .u64 16777215, .int .u64 8190, .int .u64 4294967294, .int .u64 4294967294, .int .u64 254, .bool false, .int .i64 0, .bool false, .int .u64 0, .int .u64 0, .int .u64 0, .int .u64 0, .int .u64 0, .int .u64 0, .int .u64 0, .int .u64 0, .int .u64 (wv fullW 0 : Nat), .int .u64 (wv fullW 1 : Nat), .int .u64 (wv fullW 2 : Nat), .int .u64 (wv fullW 3 : Nat), .int .u64 (wv fullW 4 : Nat), .int .u64 (wv fullW 5 : Nat), .int .u64 (wv fullW 6 : Nat), .int .i64 0, .int .i64 1, .int .i64 0, .int .i64 0, .int .i64 12622780799] := by simp [clV, clC, fullC, fullP]
end Go.Proofs.YtigbbepgfofcoaaDoor
namespace Go.Proofs.YtigbbepgfofcoaaDoor
open Go.RowKit
set_option linter.unusedVariables false

theorem ceq (a b : Nat) : (((a : Nat) : Int) == ((b : Nat) : Int)) = decide (a = b) := by
  rw [Bool.eq_iff_iff, beq_iff_eq, decide_eq_true_eq]; omega
set_option maxRecDepth 100000 in
theorem eq8_at (a0 a1 a2 a3 a4 a5 a6 a7 b0 b1 b2 b3 b4 b5 b6 b7 : Nat) (w : World) : (Op.equalIn 9998 39 (.agg #[.int .u64 (a0 : Nat), .int .u64 (a1 : Nat), .int .u64 (a2 : Nat), .int .u64 (a3 : Nat), .int .u64 (a4 : Nat), .int .u64 (a5 : Nat), .int .u64 (a6 : Nat), .int .u64 (a7 : Nat)]) (.agg #[.int .u64 (b0 : Nat), .int .u64 (b1 : Nat), .int .u64 (b2 : Nat), .int .u64 (b3 : Nat), .int .u64 (b4 : Nat), .int .u64 (b5 : Nat), .int .u64 (b6 : Nat), .int .u64 (b7 : Nat)])).run Tryd.prog w = .ok (decide (a0 = b0 ∧ a1 = b1 ∧ a2 = b2 ∧ a3 = b3 ∧ a4 = b4 ∧ a5 = b5 ∧ a6 = b6 ∧ a7 = b7)) w := by
  have u3 := Tryd.underlying35
  have hS := Tryd.underlying39
  obtain ⟨i, hi⟩ := Option.isSome_iff_exists.1 (show (Tryd.prog.info? 35).isSome = true by kernel_rfl)
  rw [show (9998 : Nat) = 9997 + 1 from rfl, run_equalIn_array w 9997 _ _ hS hi, show Tryd.prog.cellsOf 35 = 1 by kernel_rfl, show List.range 8 = [0, 1, 2, 3, 4, 5, 6, 7] by decide]
  have hc := ceq
  simp only [Op.eqItems]
  go_simp
  repeat' split
  all_goals simp [*]

set_option maxRecDepth 100000 in
theorem eq7_at (a0 a1 a2 a3 a4 a5 a6 b0 b1 b2 b3 b4 b5 b6 : Nat) (w : World) : (Op.equalIn 9999 73 (.agg #[.int .u64 (a0 : Nat), .int .u64 (a1 : Nat), .int .u64 (a2 : Nat), .int .u64 (a3 : Nat), .int .u64 (a4 : Nat), .int .u64 (a5 : Nat), .int .u64 (a6 : Nat)]) (.agg #[.int .u64 (b0 : Nat), .int .u64 (b1 : Nat), .int .u64 (b2 : Nat), .int .u64 (b3 : Nat), .int .u64 (b4 : Nat), .int .u64 (b5 : Nat), .int .u64 (b6 : Nat)])).run Tryd.prog w = .ok (decide (a0 = b0 ∧ a1 = b1 ∧ a2 = b2 ∧ a3 = b3 ∧ a4 = b4 ∧ a5 = b5 ∧ a6 = b6)) w := by
  have u3 := Tryd.underlying35
  have hS := Tryd.underlying73
  obtain ⟨i, hi⟩ := Option.isSome_iff_exists.1 (show (Tryd.prog.info? 35).isSome = true by kernel_rfl)
  rw [show (9999 : Nat) = 9998 + 1 from rfl, run_equalIn_array w 9998 _ _ hS hi, show Tryd.prog.cellsOf 35 = 1 by kernel_rfl, show List.range 7 = [0, 1, 2, 3, 4, 5, 6] by decide]
  have hc := ceq
  simp only [Op.eqItems]
  go_simp
  repeat' split
  all_goals simp [*]

def eqOrd (n : Int) (b : Bool) (D : Nat → Nat) (n' : Int) (b' : Bool) (D' : Nat → Nat) : Bool := decide (n = n') && ((b == b') && decide (D 0 = D' 0 ∧ D 1 = D' 1 ∧ D 2 = D' 2 ∧ D 3 = D' 3 ∧ D 4 = D' 4 ∧ D 5 = D' 5 ∧ D 6 = D' 6 ∧ D 7 = D' 7))
set_option maxRecDepth 100000 in
theorem eq_ord_at (n : Int) (b : Bool) (D : Nat → Nat) (n' : Int) (b' : Bool) (D' : Nat → Nat) (w : World) : (Op.equalIn 9999 41 (.agg (ordC n b D)) (.agg (ordC n' b' D'))).run Tryd.prog w = .ok (eqOrd n b D n' b' D') w := by
  have u3 := Tryd.underlying3
  have u4 := Tryd.underlying4
  have u5 := Tryd.underlying35
  have ha := Tryd.underlying39
  have hS : Tryd.prog.underlying 41 = some (.struct (Tryd.prog.fieldsOf 41)) := by kernel_rfl
  have hp : Tryd.prog.stoodInHeld 41 = false := by kernel_rfl
  obtain ⟨i, hi⟩ := Option.isSome_iff_exists.1 (show (Tryd.prog.info? 35).isSome = true by kernel_rfl)
  have hc2 : (n == n') = decide (n = n') := by
    rw [Bool.eq_iff_iff, beq_iff_eq, decide_eq_true_eq]
  have h8 := fun W => eq8_at (D 0) (D 1) (D 2) (D 3) (D 4) (D 5) (D 6) (D 7) (D' 0) (D' 1) (D' 2) (D' 3) (D' 4) (D' 5) (D' 6) (D' 7) W
  unfold eqOrd
  rw [show (9999 : Nat) = 9998 + 1 from rfl, run_equalIn_agg w 9998 41 _ _ hS hp]
  simp only [Program.fieldsOf, Tryd.underlying41]
  unfold ordC
  generalize decide (D 0 = D' 0 ∧ D 1 = D' 1 ∧ D 2 = D' 2 ∧ D 3 = D' 3 ∧ D 4 = D' 4 ∧ D 5 = D' 5 ∧ D 6 = D' 6 ∧ D 7 = D' 7) = z at h8 ⊢
  generalize decide (n = n') = y at hc2 ⊢
  go_simp
  cases y
  · simp
  · cases b <;> cases b' <;> cases z <;> simp [*]

def eqCl (c e : Cl) : Bool := decide (c.s = e.s) && (decide (c.m = e.m) && (decide (c.h = e.h) && (decide (c.mo = e.mo) && (decide (c.d = e.d) && (decide (c.e = e.e) && (decide (c.wk = e.wk) && ((c.orr == e.orr) && (eqOrd c.n c.b c.D e.n e.b e.D && (decide (wv c.P 0 = wv e.P 0 ∧ wv c.P 1 = wv e.P 1 ∧ wv c.P 2 = wv e.P 2 ∧ wv c.P 3 = wv e.P 3 ∧ wv c.P 4 = wv e.P 4 ∧ wv c.P 5 = wv e.P 5 ∧ wv c.P 6 = wv e.P 6) && (decide (c.u = e.u) && (decide (c.st = e.st) && (decide (c.an = e.an) && (decide (c.fr = e.fr) && (decide (c.un = e.un)))))))))))))))
theorem eqCl_self (c : Cl) : eqCl c c = true := by simp [eqCl, eqOrd]
theorem guard_cl : Tryd.prog.eqGuardType Tryd.prog.depth 75 = false := by kernel_rfl

set_option maxHeartbeats 3200000 in
set_option maxRecDepth 100000 in
theorem eq_cl (c e : Cl) (w : World) : (Op.equalIn 10000 75 (.agg (clC c)) (.agg (clC e))).run Tryd.prog w = .ok (eqCl c e) w := by
  have u3 := Tryd.underlying3
  have u4 := Tryd.underlying4
  have u5 := Tryd.underlying35
  have u6 := Tryd.underlying2
  have ha := Tryd.underlying73
  have ho := Tryd.underlying41
  have hS : Tryd.prog.underlying 75 = some (.struct (Tryd.prog.fieldsOf 75)) := by kernel_rfl
  have hp : Tryd.prog.stoodInHeld 75 = false := by kernel_rfl
  have qs := ceq c.s e.s
  have qm := ceq c.m e.m
  have qh := ceq c.h e.h
  have qmo := ceq c.mo e.mo
  have qd := ceq c.d e.d
  have qe := ceq c.e e.e
  have qwk := ceq c.wk e.wk
  have qu : (c.u == e.u) = decide (c.u = e.u) := by rw [Bool.eq_iff_iff, beq_iff_eq, decide_eq_true_eq]
  have qst : (c.st == e.st) = decide (c.st = e.st) := by rw [Bool.eq_iff_iff, beq_iff_eq, decide_eq_true_eq]
  have qan : (c.an == e.an) = decide (c.an = e.an) := by rw [Bool.eq_iff_iff, beq_iff_eq, decide_eq_true_eq]
  have qfr : (c.fr == e.fr) = decide (c.fr = e.fr) := by rw [Bool.eq_iff_iff, beq_iff_eq, decide_eq_true_eq]
  have qun : (c.un == e.un) = decide (c.un = e.un) := by rw [Bool.eq_iff_iff, beq_iff_eq, decide_eq_true_eq]
  have h7 := fun W => eq7_at (wv c.P 0) (wv c.P 1) (wv c.P 2) (wv c.P 3) (wv c.P 4) (wv c.P 5) (wv c.P 6) (wv e.P 0) (wv e.P 1) (wv e.P 2) (wv e.P 3) (wv e.P 4) (wv e.P 5) (wv e.P 6) W
  have h25 := fun W => eq_ord_at c.n c.b c.D e.n e.b e.D W
  unfold ordC at h25
  unfold eqCl
  generalize eqOrd c.n c.b c.D e.n e.b e.D = zo at *
  rw [show (10000 : Nat) = 9999 + 1 from rfl, run_equalIn_agg w 9999 75 _ _ hS hp]
  simp only [Program.fieldsOf, Tryd.underlying75]
  unfold clC
  generalize decide (c.s = e.s) = z0 at *
  generalize decide (c.m = e.m) = z1 at *
  generalize decide (c.h = e.h) = z2 at *
  generalize decide (c.mo = e.mo) = z3 at *
  generalize decide (c.d = e.d) = z4 at *
  generalize decide (c.e = e.e) = z5 at *
  generalize decide (c.wk = e.wk) = z6 at *
  generalize decide (wv c.P 0 = wv e.P 0 ∧ wv c.P 1 = wv e.P 1 ∧ wv c.P 2 = wv e.P 2 ∧ wv c.P 3 = wv e.P 3 ∧ wv c.P 4 = wv e.P 4 ∧ wv c.P 5 = wv e.P 5 ∧ wv c.P 6 = wv e.P 6) = z9 at *
  generalize decide (c.u = e.u) = z10 at *
  generalize decide (c.st = e.st) = z11 at *
  generalize decide (c.an = e.an) = z12 at *
  generalize decide (c.fr = e.fr) = z13 at *
  generalize decide (c.un = e.un) = z14 at *
  go_simp
  cases z0
  · simp
  cases z1
  · simp
  cases z2
  · simp
  cases z3
  · simp
  cases z4
  · simp
  cases z5
  · simp
  cases z6
  · simp
  by_cases hor : c.orr = e.orr
  rotate_left
  · rw [show (c.orr == e.orr) = false from by rw [beq_eq_false_iff_ne]; exact hor]; simp [hor]
  cases zo
  · simp
  cases z9
  · simp
  cases z10
  · simp
  cases z11
  · simp
  cases z12
  · simp
  cases z13
  · simp
  cases z14
  · simp
  simp [hor]
end Go.Proofs.YtigbbepgfofcoaaDoor
