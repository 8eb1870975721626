/- The table of bounds of package cal, and contracts of Bounds and Field, of the package and of the document (layers 24, 28). -/
import Derived.Test.YtjgifiaokmmjfaaDoorItmF
import Derived.Test.YtjgifiaokmmjfaaDoorCrA
namespace Go.Proofs.YtjgifiaokmmjfaaDoor
open Go.RowKit
set_option linter.unusedVariables false

/-- the least and the greatest number of each field -/
def bdCl : Nat → Int × Int
  | 0 => (1, 7)
  | 1 => (1970, 2369)
  | 2 => (1, 12)
  | 3 => (1, 31)
  | 4 => (0, 23)
  | 5 => (0, 59)
  | 6 => (0, 59)
  | _ => (0, 0)
def tabCl : List Int := [1, 7, 1970, 2369, 1, 12, 1, 31, 0, 23, 0, 59, 0, 59]
def TabCl (w : World) : Prop := ∀ j, j < 14 → w.cell? ⟨1, j, none⟩ = some (.int .i64 (tabCl[j]?.getD 0))
theorem TabCl.lt {w : World} (h : TabCl w) : 1 < w.heap.size := cell_lt (h 0 (by decide))
theorem TabCl.below {w w' : World} (h : TabCl w) (hb : Below w.heap.size w w') : TabCl w' := fun j hj => (hb.cell (p := ⟨1, j, none⟩) h.lt).trans (h j hj)
theorem TabCl.quiet {w w' : World} (h : TabCl w) (q : Quiet w w') : TabCl w' := by obtain ⟨n, rfl⟩ := q; exact h
theorem boundsCl_any : ∀ (f : Nat) (hf : f < 7) (w : World) (hT : TabCl w), Calls Tryd.prog 26 #[.int .i64 (f : Int)] w fun e w' => e = .returned (.tuple #[.int .i64 (bdCl f).1, .int .i64 (bdCl f).2]) ∧ Quiet w w'
  | 0, hf, w, hT => by
    have c0 : w.cell? ⟨1, 0, none⟩ = some (.int .i64 1) := hT 0 (by decide)
    have c1 : w.cell? ⟨1, 1, none⟩ = some (.int .i64 7) := hT 1 (by decide)
    clear hT
    show Calls Tryd.prog 26 #[.int .i64 0] w _
    go_enter Tryd.func26, Tryd.ntmps26
    go_wp2
    go_quiet (fail)
    go_wp2
    go_ret2
    exact ⟨rfl, Quiet.of _ _⟩
  | 1, hf, w, hT => by
    have c0 : w.cell? ⟨1, 2, none⟩ = some (.int .i64 1970) := hT 2 (by decide)
    have c1 : w.cell? ⟨1, 3, none⟩ = some (.int .i64 2369) := hT 3 (by decide)
    clear hT
    show Calls Tryd.prog 26 #[.int .i64 1] w _
    go_enter Tryd.func26, Tryd.ntmps26
    go_wp2
    go_quiet (fail)
    go_wp2
    go_ret2
    exact ⟨rfl, Quiet.of _ _⟩
  | 2, hf, w, hT => by
    have c0 : w.cell? ⟨1, 4, none⟩ = some (.int .i64 1) := hT 4 (by decide)
    have c1 : w.cell? ⟨1, 5, none⟩ = some (.int .i64 12) := hT 5 (by decide)
    clear hT
    show Calls Tryd.prog 26 #[.int .i64 2] w _
    go_enter Tryd.func26, Tryd.ntmps26
    go_wp2
    go_quiet (fail)
    go_wp2
    go_ret2
    exact ⟨rfl, Quiet.of _ _⟩
  | 3, hf, w, hT => by
    have c0 : w.cell? ⟨1, 6, none⟩ = some (.int .i64 1) := hT 6 (by decide)
    have c1 : w.cell? ⟨1, 7, none⟩ = some (.int .i64 31) := hT 7 (by decide)
    clear hT
    show Calls Tryd.prog 26 #[.int .i64 3] w _
    go_enter Tryd.func26, Tryd.ntmps26
    go_wp2
    go_quiet (fail)
    go_wp2
    go_ret2
    exact ⟨rfl, Quiet.of _ _⟩
  | 4, hf, w, hT => by
    have c0 : w.cell? ⟨1, 8, none⟩ = some (.int .i64 0) := hT 8 (by decide)
    have c1 : w.cell? ⟨1, 9, none⟩ = some (.int .i64 23) := hT 9 (by decide)
    clear hT
    show Calls Tryd.prog 26 #[.int .i64 4] w _
    go_enter Tryd.func26, Tryd.ntmps26
    go_wp2
    go_quiet (fail)
    go_wp2
    go_ret2
    exact ⟨rfl, Quiet.of _ _⟩
  | 5, hf, w, hT => by
    have c0 : w.cell? ⟨1, 10, none⟩ = some (.int .i64 0) := hT 10 (by decide)
    have c1 : w.cell? ⟨1, 11, none⟩ = some (.int .i64 59) := hT 11 (by decide)
    clear hT
    show Calls Tryd.prog 26 #[.int .i64 5] w _
    go_enter Tryd.func26, Tryd.ntmps26
    go_wp2
    go_quiet (fail)
    go_wp2
    go_ret2
    exact ⟨rfl, Quiet.of _ _⟩
  | 6, hf, w, hT => by
    have c0 : w.cell? ⟨1, 12, none⟩ = some (.int .i64 0) := hT 12 (by decide)
    have c1 : w.cell? ⟨1, 13, none⟩ = some (.int .i64 59) := hT 13 (by decide)
    clear hT
    show Calls Tryd.prog 26 #[.int .i64 6] w _
    go_enter Tryd.func26, Tryd.ntmps26
    go_wp2
    go_quiet (fail)
    go_wp2
    go_ret2
    exact ⟨rfl, Quiet.of _ _⟩
  | f + 7, hf, w, hT => absurd hf (by omega)
theorem boundsCl_out (f : Int) (w : World) (h : f < 0 ∨ 7 ≤ f) : Calls Tryd.prog 26 #[.int .i64 f] w fun e w' => e = .returned (.tuple #[.int .i64 0, .int .i64 0]) ∧ w = w' := by
  by_cases h0 : f < 0
  · have d := dec_t h0
    go_enter Tryd.func26, Tryd.ntmps26
    go_wp2
    go_ret2
    exact ⟨rfl, rfl⟩
  · have d := dec_n h0
    have d2 : decide (7 ≤ f) = true := dec_t (by omega)
    go_enter Tryd.func26, Tryd.ntmps26
    go_wp2
    go_ret2
    exact ⟨rfl, rfl⟩
theorem rboundsCl_any : ∀ (f : Nat) (hf : f < 7) (w : World), Calls Tryd.prog 27 #[.int .i64 (f : Int)] w fun e w' => e = .returned (.tuple #[.int .i64 (bdCl f).1, .int .i64 (bdCl f).2]) ∧ w = w'
  | 0, hf, w => by
    show Calls Tryd.prog 27 #[.int .i64 0] w _
    go_enter Tryd.func27, Tryd.ntmps27
    go_wp2
    go_ret2
    exact ⟨rfl, rfl⟩
  | 1, hf, w => by
    show Calls Tryd.prog 27 #[.int .i64 1] w _
    go_enter Tryd.func27, Tryd.ntmps27
    go_wp2
    go_ret2
    exact ⟨rfl, rfl⟩
  | 2, hf, w => by
    show Calls Tryd.prog 27 #[.int .i64 2] w _
    go_enter Tryd.func27, Tryd.ntmps27
    go_wp2
    go_ret2
    exact ⟨rfl, rfl⟩
  | 3, hf, w => by
    show Calls Tryd.prog 27 #[.int .i64 3] w _
    go_enter Tryd.func27, Tryd.ntmps27
    go_wp2
    go_ret2
    exact ⟨rfl, rfl⟩
  | 4, hf, w => by
    show Calls Tryd.prog 27 #[.int .i64 4] w _
    go_enter Tryd.func27, Tryd.ntmps27
    go_wp2
    go_ret2
    exact ⟨rfl, rfl⟩
  | 5, hf, w => by
    show Calls Tryd.prog 27 #[.int .i64 5] w _
    go_enter Tryd.func27, Tryd.ntmps27
    go_wp2
    go_ret2
    exact ⟨rfl, rfl⟩
  | 6, hf, w => by
    show Calls Tryd.prog 27 #[.int .i64 6] w _
    go_enter Tryd.func27, Tryd.ntmps27
    go_wp2
    go_ret2
    exact ⟨rfl, rfl⟩
  | f + 7, hf, w => absurd hf (by omega)
theorem rboundsCl_out (f : Int) (w : World) (h : f < 0 ∨ 7 ≤ f) : Calls Tryd.prog 27 #[.int .i64 f] w fun e w' => e = .returned (.tuple #[.int .i64 0, .int .i64 0]) ∧ w = w' := by
  have e0 : (f == 0) = false := by rw [beq_eq_false_iff_ne]; omega
  have e1 : (f == 1) = false := by rw [beq_eq_false_iff_ne]; omega
  have e2 : (f == 2) = false := by rw [beq_eq_false_iff_ne]; omega
  have e3 : (f == 3) = false := by rw [beq_eq_false_iff_ne]; omega
  have e4 : (f == 4) = false := by rw [beq_eq_false_iff_ne]; omega
  have e5 : (f == 5) = false := by rw [beq_eq_false_iff_ne]; omega
  have e6 : (f == 6) = false := by rw [beq_eq_false_iff_ne]; omega
  go_enter Tryd.func27, Tryd.ntmps27
  go_wp2
  go_ret2
  exact ⟨rfl, rfl⟩
/-- the struct of fields as a value -/
def vCl (bk : Bool) (A : Nat → Option Addr) (c : Nat → Nat) (L : Nat → List Q4) : Value := .agg #[.slice (A 0) (L 0).length (c 0), .slice (A 1) (L 1).length (c 1), .slice (A 2) (L 2).length (c 2), .slice (A 3) (L 3).length (c 3), .bool bk, .slice (A 4) (L 4).length (c 4), .slice (A 5) (L 5).length (c 5), .slice (A 6) (L 6).length (c 6)]
set_option maxHeartbeats 1600000 in
theorem fieldCl_any : ∀ (f : Nat) (hf : f < 7) (bk : Bool) (A : Nat → Option Addr) (c : Nat → Nat) (L : Nat → List Q4) (w : World) (hL : Lists 7 w A c L) (hl : (L f).length ≤ 1000000), Calls Tryd.prog 28 #[vCl bk A c L, .int .i64 (f : Int)] w (GivesQ (L f) w)
  | 0, hf, bk, A, c, L, w, hL, hl => by
    have K := fun W hW => clone_any (A 0) (c 0) (L 0) W hl hW (hL 0 hf).2
    have HI := Lib.hid (hL 0 hf).1
    clear hL
    unfold vCl
    show Calls Tryd.prog 28 #[_, .int .i64 0] w _
    go_enter Tryd.func28, Tryd.ntmps28
    go_wp2_with fail
    refine (K _ (HI.out.below (((Below.refl _ _).alloc (Nat.le_refl _) _).alloc (by simp) _))).mono ?_
    rintro e w' ⟨A', c', rfl, hat, hb, hcc, hA'⟩
    have HA := Lib.hid hat
    have HB := Lib.hid (show Below w.heap.size w w' from (((Below.refl _ _).alloc (Nat.le_refl _) _).alloc (by simp) _).trans (hb.mono (by simp; omega)))
    have HN := Lib.hid hA'
    clear hat hb K hA'
    go_wp2
    go_ret
    exact ⟨A', c', rfl, HA.out, HB.out, hcc, HN.out⟩
  | 1, hf, bk, A, c, L, w, hL, hl => by
    have K := fun W hW => clone_any (A 1) (c 1) (L 1) W hl hW (hL 1 hf).2
    have HI := Lib.hid (hL 1 hf).1
    clear hL
    unfold vCl
    show Calls Tryd.prog 28 #[_, .int .i64 1] w _
    go_enter Tryd.func28, Tryd.ntmps28
    go_wp2_with fail
    refine (K _ (HI.out.below (((Below.refl _ _).alloc (Nat.le_refl _) _).alloc (by simp) _))).mono ?_
    rintro e w' ⟨A', c', rfl, hat, hb, hcc, hA'⟩
    have HA := Lib.hid hat
    have HB := Lib.hid (show Below w.heap.size w w' from (((Below.refl _ _).alloc (Nat.le_refl _) _).alloc (by simp) _).trans (hb.mono (by simp; omega)))
    have HN := Lib.hid hA'
    clear hat hb K hA'
    go_wp2
    go_ret
    exact ⟨A', c', rfl, HA.out, HB.out, hcc, HN.out⟩
  | 2, hf, bk, A, c, L, w, hL, hl => by
    have K := fun W hW => clone_any (A 2) (c 2) (L 2) W hl hW (hL 2 hf).2
    have HI := Lib.hid (hL 2 hf).1
    clear hL
    unfold vCl
    show Calls Tryd.prog 28 #[_, .int .i64 2] w _
    go_enter Tryd.func28, Tryd.ntmps28
    go_wp2_with fail
    refine (K _ (HI.out.below (((Below.refl _ _).alloc (Nat.le_refl _) _).alloc (by simp) _))).mono ?_
    rintro e w' ⟨A', c', rfl, hat, hb, hcc, hA'⟩
    have HA := Lib.hid hat
    have HB := Lib.hid (show Below w.heap.size w w' from (((Below.refl _ _).alloc (Nat.le_refl _) _).alloc (by simp) _).trans (hb.mono (by simp; omega)))
    have HN := Lib.hid hA'
    clear hat hb K hA'
    go_wp2
    go_ret
    exact ⟨A', c', rfl, HA.out, HB.out, hcc, HN.out⟩
  | 3, hf, bk, A, c, L, w, hL, hl => by
    have K := fun W hW => clone_any (A 3) (c 3) (L 3) W hl hW (hL 3 hf).2
    have HI := Lib.hid (hL 3 hf).1
    clear hL
    unfold vCl
    show Calls Tryd.prog 28 #[_, .int .i64 3] w _
    go_enter Tryd.func28, Tryd.ntmps28
    go_wp2_with fail
    refine (K _ (HI.out.below (((Below.refl _ _).alloc (Nat.le_refl _) _).alloc (by simp) _))).mono ?_
    rintro e w' ⟨A', c', rfl, hat, hb, hcc, hA'⟩
    have HA := Lib.hid hat
    have HB := Lib.hid (show Below w.heap.size w w' from (((Below.refl _ _).alloc (Nat.le_refl _) _).alloc (by simp) _).trans (hb.mono (by simp; omega)))
    have HN := Lib.hid hA'
    clear hat hb K hA'
    go_wp2
    go_ret
    exact ⟨A', c', rfl, HA.out, HB.out, hcc, HN.out⟩
  | 4, hf, bk, A, c, L, w, hL, hl => by
    have K := fun W hW => clone_any (A 4) (c 4) (L 4) W hl hW (hL 4 hf).2
    have HI := Lib.hid (hL 4 hf).1
    clear hL
    unfold vCl
    show Calls Tryd.prog 28 #[_, .int .i64 4] w _
    go_enter Tryd.func28, Tryd.ntmps28
    go_wp2_with fail
    refine (K _ (HI.out.below (((Below.refl _ _).alloc (Nat.le_refl _) _).alloc (by simp) _))).mono ?_
    rintro e w' ⟨A', c', rfl, hat, hb, hcc, hA'⟩
    have HA := Lib.hid hat
    have HB := Lib.hid (show Below w.heap.size w w' from (((Below.refl _ _).alloc (Nat.le_refl _) _).alloc (by simp) _).trans (hb.mono (by simp; omega)))
    have HN := Lib.hid hA'
    clear hat hb K hA'
    go_wp2
    go_ret
    exact ⟨A', c', rfl, HA.out, HB.out, hcc, HN.out⟩
  | 5, hf, bk, A, c, L, w, hL, hl => by
    have K := fun W hW => clone_any (A 5) (c 5) (L 5) W hl hW (hL 5 hf).2
    have HI := Lib.hid (hL 5 hf).1
    clear hL
    unfold vCl
    show Calls Tryd.prog 28 #[_, .int .i64 5] w _
    go_enter Tryd.func28, Tryd.ntmps28
    go_wp2_with fail
    refine (K _ (HI.out.below (((Below.refl _ _).alloc (Nat.le_refl _) _).alloc (by simp) _))).mono ?_
    rintro e w' ⟨A', c', rfl, hat, hb, hcc, hA'⟩
    have HA := Lib.hid hat
    have HB := Lib.hid (show Below w.heap.size w w' from (((Below.refl _ _).alloc (Nat.le_refl _) _).alloc (by simp) _).trans (hb.mono (by simp; omega)))
    have HN := Lib.hid hA'
    clear hat hb K hA'
    go_wp2
    go_ret
    exact ⟨A', c', rfl, HA.out, HB.out, hcc, HN.out⟩
  | 6, hf, bk, A, c, L, w, hL, hl => by
    have K := fun W hW => clone_any (A 6) (c 6) (L 6) W hl hW (hL 6 hf).2
    have HI := Lib.hid (hL 6 hf).1
    clear hL
    unfold vCl
    show Calls Tryd.prog 28 #[_, .int .i64 6] w _
    go_enter Tryd.func28, Tryd.ntmps28
    go_wp2_with fail
    refine (K _ (HI.out.below (((Below.refl _ _).alloc (Nat.le_refl _) _).alloc (by simp) _))).mono ?_
    rintro e w' ⟨A', c', rfl, hat, hb, hcc, hA'⟩
    have HA := Lib.hid hat
    have HB := Lib.hid (show Below w.heap.size w w' from (((Below.refl _ _).alloc (Nat.le_refl _) _).alloc (by simp) _).trans (hb.mono (by simp; omega)))
    have HN := Lib.hid hA'
    clear hat hb K hA'
    go_wp2
    go_ret
    exact ⟨A', c', rfl, HA.out, HB.out, hcc, HN.out⟩
  | f + 7, hf, bk, A, c, L, w, hL, hl => absurd hf (by omega)
theorem fieldCl_out (f : Int) (bk : Bool) (A : Nat → Option Addr) (c : Nat → Nat) (L : Nat → List Q4) (w : World) (h : f < 0 ∨ 7 ≤ f) : Calls Tryd.prog 28 #[vCl bk A c L, .int .i64 f] w (GivesQ [] w) := by
  unfold vCl
  by_cases h0 : f < 0
  · have d := dec_t h0
    go_enter Tryd.func28, Tryd.ntmps28
    go_wp2
    go_ret
    exact ⟨none, 0, rfl, ItemsAt.nil _ _, (Below.refl _ _).alloc (Nat.le_refl _) _, Nat.le_refl _, fun _ => rfl⟩
  · have d := dec_n h0
    have d2 : decide (7 ≤ f) = true := dec_t (by omega)
    go_enter Tryd.func28, Tryd.ntmps28
    go_wp2
    go_ret
    exact ⟨none, 0, rfl, ItemsAt.nil _ _, (Below.refl _ _).alloc (Nat.le_refl _) _, Nat.le_refl _, fun _ => rfl⟩
theorem rfieldCl_any : ∀ (f : Nat) (hf : f < 7) (bk : Bool) (A : Nat → Option Addr) (c : Nat → Nat) (L : Nat → List Q4) (w : World), Calls Tryd.prog 29 #[vCl bk A c L, .int .i64 (f : Int)] w fun e w' => e = .returned (.slice (A f) (L f).length (c f)) ∧ Below w.heap.size w w'
  | 0, hf, bk, A, c, L, w => by
    unfold vCl
    show Calls Tryd.prog 29 #[_, .int .i64 0] w _
    go_enter Tryd.func29, Tryd.ntmps29
    go_wp2
    go_ret
    exact ⟨rfl, (Below.refl _ _).alloc (Nat.le_refl _) _⟩
  | 1, hf, bk, A, c, L, w => by
    unfold vCl
    show Calls Tryd.prog 29 #[_, .int .i64 1] w _
    go_enter Tryd.func29, Tryd.ntmps29
    go_wp2
    go_ret
    exact ⟨rfl, (Below.refl _ _).alloc (Nat.le_refl _) _⟩
  | 2, hf, bk, A, c, L, w => by
    unfold vCl
    show Calls Tryd.prog 29 #[_, .int .i64 2] w _
    go_enter Tryd.func29, Tryd.ntmps29
    go_wp2
    go_ret
    exact ⟨rfl, (Below.refl _ _).alloc (Nat.le_refl _) _⟩
  | 3, hf, bk, A, c, L, w => by
    unfold vCl
    show Calls Tryd.prog 29 #[_, .int .i64 3] w _
    go_enter Tryd.func29, Tryd.ntmps29
    go_wp2
    go_ret
    exact ⟨rfl, (Below.refl _ _).alloc (Nat.le_refl _) _⟩
  | 4, hf, bk, A, c, L, w => by
    unfold vCl
    show Calls Tryd.prog 29 #[_, .int .i64 4] w _
    go_enter Tryd.func29, Tryd.ntmps29
    go_wp2
    go_ret
    exact ⟨rfl, (Below.refl _ _).alloc (Nat.le_refl _) _⟩
  | 5, hf, bk, A, c, L, w => by
    unfold vCl
    show Calls Tryd.prog 29 #[_, .int .i64 5] w _
    go_enter Tryd.func29, Tryd.ntmps29
    go_wp2
    go_ret
    exact ⟨rfl, (Below.refl _ _).alloc (Nat.le_refl _) _⟩
  | 6, hf, bk, A, c, L, w => by
    unfold vCl
    show Calls Tryd.prog 29 #[_, .int .i64 6] w _
    go_enter Tryd.func29, Tryd.ntmps29
    go_wp2
    go_ret
    exact ⟨rfl, (Below.refl _ _).alloc (Nat.le_refl _) _⟩
  | f + 7, hf, bk, A, c, L, w => absurd hf (by omega)
theorem rfieldCl_out (f : Int) (bk : Bool) (A : Nat → Option Addr) (c : Nat → Nat) (L : Nat → List Q4) (w : World) (h : f < 0 ∨ 7 ≤ f) : Calls Tryd.prog 29 #[vCl bk A c L, .int .i64 f] w fun e w' => e = .returned (.slice none 0 0) ∧ Below w.heap.size w w' := by
  unfold vCl
  have e0 : (f == 0) = false := by rw [beq_eq_false_iff_ne]; omega
  have e1 : (f == 1) = false := by rw [beq_eq_false_iff_ne]; omega
  have e2 : (f == 2) = false := by rw [beq_eq_false_iff_ne]; omega
  have e3 : (f == 3) = false := by rw [beq_eq_false_iff_ne]; omega
  have e4 : (f == 4) = false := by rw [beq_eq_false_iff_ne]; omega
  have e5 : (f == 5) = false := by rw [beq_eq_false_iff_ne]; omega
  have e6 : (f == 6) = false := by rw [beq_eq_false_iff_ne]; omega
  go_enter Tryd.func29, Tryd.ntmps29
  go_wp2
  go_ret
  exact ⟨rfl, (Below.refl _ _).alloc (Nat.le_refl _) _⟩
end Go.Proofs.YtjgifiaokmmjfaaDoor
