/- The table of bounds of package cron, and contracts of Bounds and Field, of the package and of the document (layers 24, 28). -/
import Derived.Test.YtahlegempjlbbaaDoorItmF
namespace Go.Proofs.YtahlegempjlbbaaDoor
open Go.RowKit
set_option linter.unusedVariables false

/-- the least and the greatest number of each field -/
def bdCr : Nat → Int × Int
  | 0 => (0, 59)
  | 1 => (0, 23)
  | 2 => (1, 31)
  | 3 => (1, 12)
  | 4 => (0, 7)
  | _ => (0, 0)
def tabCr : List Int := [0, 59, 0, 23, 1, 31, 1, 12, 0, 7]
def TabCr (w : World) : Prop := ∀ j, j < 10 → w.cell? ⟨0, j, none⟩ = some (.int .i64 (tabCr[j]?.getD 0))
theorem TabCr.lt {w : World} (h : TabCr w) : 0 < w.heap.size := cell_lt (h 0 (by decide))
theorem TabCr.below {w w' : World} (h : TabCr w) (hb : Below w.heap.size w w') : TabCr w' := fun j hj => (hb.cell (p := ⟨0, j, none⟩) h.lt).trans (h j hj)
theorem TabCr.quiet {w w' : World} (h : TabCr w) (q : Quiet w w') : TabCr w' := by obtain ⟨n, rfl⟩ := q; exact h
theorem boundsCr_any : ∀ (f : Nat) (hf : f < 5) (w : World) (hT : TabCr w), Calls Tryd.prog 24 #[.int .i64 (f : Int)] w fun e w' => e = .returned (.tuple #[.int .i64 (bdCr f).1, .int .i64 (bdCr f).2]) ∧ Quiet w w'
  | 0, hf, w, hT => by
    have c0 : w.cell? ⟨0, 0, none⟩ = some (.int .i64 0) := hT 0 (by decide)
    have c1 : w.cell? ⟨0, 1, none⟩ = some (.int .i64 59) := hT 1 (by decide)
    clear hT
    show Calls Tryd.prog 24 #[.int .i64 0] w _
    go_enter Tryd.func24, Tryd.ntmps24
    go_wp2
    go_quiet (fail)
    go_wp2
    go_ret2
    exact ⟨rfl, Quiet.of _ _⟩
  | 1, hf, w, hT => by
    have c0 : w.cell? ⟨0, 2, none⟩ = some (.int .i64 0) := hT 2 (by decide)
    have c1 : w.cell? ⟨0, 3, none⟩ = some (.int .i64 23) := hT 3 (by decide)
    clear hT
    show Calls Tryd.prog 24 #[.int .i64 1] w _
    go_enter Tryd.func24, Tryd.ntmps24
    go_wp2
    go_quiet (fail)
    go_wp2
    go_ret2
    exact ⟨rfl, Quiet.of _ _⟩
  | 2, hf, w, hT => by
    have c0 : w.cell? ⟨0, 4, none⟩ = some (.int .i64 1) := hT 4 (by decide)
    have c1 : w.cell? ⟨0, 5, none⟩ = some (.int .i64 31) := hT 5 (by decide)
    clear hT
    show Calls Tryd.prog 24 #[.int .i64 2] w _
    go_enter Tryd.func24, Tryd.ntmps24
    go_wp2
    go_quiet (fail)
    go_wp2
    go_ret2
    exact ⟨rfl, Quiet.of _ _⟩
  | 3, hf, w, hT => by
    have c0 : w.cell? ⟨0, 6, none⟩ = some (.int .i64 1) := hT 6 (by decide)
    have c1 : w.cell? ⟨0, 7, none⟩ = some (.int .i64 12) := hT 7 (by decide)
    clear hT
    show Calls Tryd.prog 24 #[.int .i64 3] w _
    go_enter Tryd.func24, Tryd.ntmps24
    go_wp2
    go_quiet (fail)
    go_wp2
    go_ret2
    exact ⟨rfl, Quiet.of _ _⟩
  | 4, hf, w, hT => by
    have c0 : w.cell? ⟨0, 8, none⟩ = some (.int .i64 0) := hT 8 (by decide)
    have c1 : w.cell? ⟨0, 9, none⟩ = some (.int .i64 7) := hT 9 (by decide)
    clear hT
    show Calls Tryd.prog 24 #[.int .i64 4] w _
    go_enter Tryd.func24, Tryd.ntmps24
    go_wp2
    go_quiet (fail)
    go_wp2
    go_ret2
    exact ⟨rfl, Quiet.of _ _⟩
  | f + 5, hf, w, hT => absurd hf (by omega)
theorem boundsCr_out (f : Int) (w : World) (h : f < 0 ∨ 5 ≤ f) : Calls Tryd.prog 24 #[.int .i64 f] w fun e w' => e = .returned (.tuple #[.int .i64 0, .int .i64 0]) ∧ w = w' := by
  by_cases h0 : f < 0
  · have d := dec_t h0
    go_enter Tryd.func24, Tryd.ntmps24
    go_wp2
    go_ret2
    exact ⟨rfl, rfl⟩
  · have d := dec_n h0
    have d2 : decide (5 ≤ f) = true := dec_t (by omega)
    go_enter Tryd.func24, Tryd.ntmps24
    go_wp2
    go_ret2
    exact ⟨rfl, rfl⟩
theorem rboundsCr_any : ∀ (f : Nat) (hf : f < 5) (w : World), Calls Tryd.prog 15 #[.int .i64 (f : Int)] w fun e w' => e = .returned (.tuple #[.int .i64 (bdCr f).1, .int .i64 (bdCr f).2]) ∧ w = w'
  | 0, hf, w => by
    show Calls Tryd.prog 15 #[.int .i64 0] w _
    go_enter Tryd.func15, Tryd.ntmps15
    go_wp2
    go_ret2
    exact ⟨rfl, rfl⟩
  | 1, hf, w => by
    show Calls Tryd.prog 15 #[.int .i64 1] w _
    go_enter Tryd.func15, Tryd.ntmps15
    go_wp2
    go_ret2
    exact ⟨rfl, rfl⟩
  | 2, hf, w => by
    show Calls Tryd.prog 15 #[.int .i64 2] w _
    go_enter Tryd.func15, Tryd.ntmps15
    go_wp2
    go_ret2
    exact ⟨rfl, rfl⟩
  | 3, hf, w => by
    show Calls Tryd.prog 15 #[.int .i64 3] w _
    go_enter Tryd.func15, Tryd.ntmps15
    go_wp2
    go_ret2
    exact ⟨rfl, rfl⟩
  | 4, hf, w => by
    show Calls Tryd.prog 15 #[.int .i64 4] w _
    go_enter Tryd.func15, Tryd.ntmps15
    go_wp2
    go_ret2
    exact ⟨rfl, rfl⟩
  | f + 5, hf, w => absurd hf (by omega)
theorem rboundsCr_out (f : Int) (w : World) (h : f < 0 ∨ 5 ≤ f) : Calls Tryd.prog 15 #[.int .i64 f] w fun e w' => e = .returned (.tuple #[.int .i64 0, .int .i64 0]) ∧ w = w' := by
  have e0 : (f == 0) = false := by rw [beq_eq_false_iff_ne]; omega
  have e1 : (f == 1) = false := by rw [beq_eq_false_iff_ne]; omega
  have e2 : (f == 2) = false := by rw [beq_eq_false_iff_ne]; omega
  have e3 : (f == 3) = false := by rw [beq_eq_false_iff_ne]; omega
  have e4 : (f == 4) = false := by rw [beq_eq_false_iff_ne]; omega
  go_enter Tryd.func15, Tryd.ntmps15
  go_wp2
  go_ret2
  exact ⟨rfl, rfl⟩
/-- lists of items in memory, field by field -/
def Lists (n : Nat) (w : World) (A : Nat → Option Addr) (c : Nat → Nat) (L : Nat → List Q4) : Prop := ∀ i, i < n → ItemsAt w (A i) (L i) ∧ (A i = none → c i = 0)
theorem Lists.below {n : Nat} {w w' : World} {A : Nat → Option Addr} {c : Nat → Nat} {L : Nat → List Q4} (h : Lists n w A c L) (hb : Below w.heap.size w w') : Lists n w' A c L := fun i hi => ⟨(h i hi).1.below hb, (h i hi).2⟩
/-- the struct of fields as a value -/
def vCr (A : Nat → Option Addr) (c : Nat → Nat) (L : Nat → List Q4) : Value := .agg #[.slice (A 0) (L 0).length (c 0), .slice (A 1) (L 1).length (c 1), .slice (A 2) (L 2).length (c 2), .slice (A 3) (L 3).length (c 3), .slice (A 4) (L 4).length (c 4)]
set_option maxHeartbeats 1600000 in
theorem fieldCr_any : ∀ (f : Nat) (hf : f < 5) (A : Nat → Option Addr) (c : Nat → Nat) (L : Nat → List Q4) (w : World) (hL : Lists 5 w A c L) (hl : (L f).length ≤ 1000000), Calls Tryd.prog 13 #[vCr A c L, .int .i64 (f : Int)] w (GivesQ (L f) w)
  | 0, hf, A, c, L, w, hL, hl => by
    have K := fun W hW => clone_any (A 0) (c 0) (L 0) W hl hW (hL 0 hf).2
    have HI := Lib.hid (hL 0 hf).1
    clear hL
    unfold vCr
    show Calls Tryd.prog 13 #[_, .int .i64 0] w _
    go_enter Tryd.func13, Tryd.ntmps13
    go_wp2_with fail
    refine (K _ (HI.out.below (((Below.refl _ _).alloc (Nat.le_refl _) _).alloc (by simp) _))).mono ?_
    rintro e w' ⟨A', c', rfl, hat, hb, hcc, hA'⟩
    have HA := Lib.hid hat
    have HB := Lib.hid (show Below w.heap.size w w' from (((Below.refl _ _).alloc (Nat.le_refl _) _).alloc (by simp) _).trans (hb.mono (by simp; omega)))
    have HN := Lib.hid hA'
    clear hat hb K hA'
    go_wp2
    go_ret
    exact ⟨A', c', rfl, HA.out, HB.out, hcc, HN.out⟩
  | 1, hf, A, c, L, w, hL, hl => by
    have K := fun W hW => clone_any (A 1) (c 1) (L 1) W hl hW (hL 1 hf).2
    have HI := Lib.hid (hL 1 hf).1
    clear hL
    unfold vCr
    show Calls Tryd.prog 13 #[_, .int .i64 1] w _
    go_enter Tryd.func13, Tryd.ntmps13
    go_wp2_with fail
    refine (K _ (HI.out.below (((Below.refl _ _).alloc (Nat.le_refl _) _).alloc (by simp) _))).mono ?_
    rintro e w' ⟨A', c', rfl, hat, hb, hcc, hA'⟩
    have HA := Lib.hid hat
    have HB := Lib.hid (show Below w.heap.size w w' from (((Below.refl _ _).alloc (Nat.le_refl _) _).alloc (by simp) _).trans (hb.mono (by simp; omega)))
    have HN := Lib.hid hA'
    clear hat hb K hA'
    go_wp2
    go_ret
    exact ⟨A', c', rfl, HA.out, HB.out, hcc, HN.out⟩
  | 2, hf, A, c, L, w, hL, hl => by
    have K := fun W hW => clone_any (A 2) (c 2) (L 2) W hl hW (hL 2 hf).2
    have HI := Lib.hid (hL 2 hf).1
    clear hL
    unfold vCr
    show Calls Tryd.prog 13 #[_, .int .i64 2] w _
    go_enter Tryd.func13, Tryd.ntmps13
    go_wp2_with fail
    refine (K _ (HI.out.below (((Below.refl _ _).alloc (Nat.le_refl _) _).alloc (by simp) _))).mono ?_
    rintro e w' ⟨A', c', rfl, hat, hb, hcc, hA'⟩
    have HA := Lib.hid hat
    have HB := Lib.hid (show Below w.heap.size w w' from (((Below.refl _ _).alloc (Nat.le_refl _) _).alloc (by simp) _).trans (hb.mono (by simp; omega)))
    have HN := Lib.hid hA'
    clear hat hb K hA'
    go_wp2
    go_ret
    exact ⟨A', c', rfl, HA.out, HB.out, hcc, HN.out⟩
  | 3, hf, A, c, L, w, hL, hl => by
    have K := fun W hW => clone_any (A 3) (c 3) (L 3) W hl hW (hL 3 hf).2
    have HI := Lib.hid (hL 3 hf).1
    clear hL
    unfold vCr
    show Calls Tryd.prog 13 #[_, .int .i64 3] w _
    go_enter Tryd.func13, Tryd.ntmps13
    go_wp2_with fail
    refine (K _ (HI.out.below (((Below.refl _ _).alloc (Nat.le_refl _) _).alloc (by simp) _))).mono ?_
    rintro e w' ⟨A', c', rfl, hat, hb, hcc, hA'⟩
    have HA := Lib.hid hat
    have HB := Lib.hid (show Below w.heap.size w w' from (((Below.refl _ _).alloc (Nat.le_refl _) _).alloc (by simp) _).trans (hb.mono (by simp; omega)))
    have HN := Lib.hid hA'
    clear hat hb K hA'
    go_wp2
    go_ret
    exact ⟨A', c', rfl, HA.out, HB.out, hcc, HN.out⟩
  | 4, hf, A, c, L, w, hL, hl => by
    have K := fun W hW => clone_any (A 4) (c 4) (L 4) W hl hW (hL 4 hf).2
    have HI := Lib.hid (hL 4 hf).1
    clear hL
    unfold vCr
    show Calls Tryd.prog 13 #[_, .int .i64 4] w _
    go_enter Tryd.func13, Tryd.ntmps13
    go_wp2_with fail
    refine (K _ (HI.out.below (((Below.refl _ _).alloc (Nat.le_refl _) _).alloc (by simp) _))).mono ?_
    rintro e w' ⟨A', c', rfl, hat, hb, hcc, hA'⟩
    have HA := Lib.hid hat
    have HB := Lib.hid (show Below w.heap.size w w' from (((Below.refl _ _).alloc (Nat.le_refl _) _).alloc (by simp) _).trans (hb.mono (by simp; omega)))
    have HN := Lib.hid hA'
    clear hat hb K hA'
    go_wp2
    go_ret
    exact ⟨A', c', rfl, HA.out, HB.out, hcc, HN.out⟩
  | f + 5, hf, A, c, L, w, hL, hl => absurd hf (by omega)
theorem fieldCr_out (f : Int) (A : Nat → Option Addr) (c : Nat → Nat) (L : Nat → List Q4) (w : World) (h : f < 0 ∨ 5 ≤ f) : Calls Tryd.prog 13 #[vCr A c L, .int .i64 f] w (GivesQ [] w) := by
  unfold vCr
  by_cases h0 : f < 0
  · have d := dec_t h0
    go_enter Tryd.func13, Tryd.ntmps13
    go_wp2
    go_ret
    exact ⟨none, 0, rfl, ItemsAt.nil _ _, (Below.refl _ _).alloc (Nat.le_refl _) _, Nat.le_refl _, fun _ => rfl⟩
  · have d := dec_n h0
    have d2 : decide (5 ≤ f) = true := dec_t (by omega)
    go_enter Tryd.func13, Tryd.ntmps13
    go_wp2
    go_ret
    exact ⟨none, 0, rfl, ItemsAt.nil _ _, (Below.refl _ _).alloc (Nat.le_refl _) _, Nat.le_refl _, fun _ => rfl⟩
theorem rfieldCr_any : ∀ (f : Nat) (hf : f < 5) (A : Nat → Option Addr) (c : Nat → Nat) (L : Nat → List Q4) (w : World), Calls Tryd.prog 9 #[vCr A c L, .int .i64 (f : Int)] w fun e w' => e = .returned (.slice (A f) (L f).length (c f)) ∧ Below w.heap.size w w'
  | 0, hf, A, c, L, w => by
    unfold vCr
    show Calls Tryd.prog 9 #[_, .int .i64 0] w _
    go_enter Tryd.func9, Tryd.ntmps9
    go_wp2
    go_ret
    exact ⟨rfl, (Below.refl _ _).alloc (Nat.le_refl _) _⟩
  | 1, hf, A, c, L, w => by
    unfold vCr
    show Calls Tryd.prog 9 #[_, .int .i64 1] w _
    go_enter Tryd.func9, Tryd.ntmps9
    go_wp2
    go_ret
    exact ⟨rfl, (Below.refl _ _).alloc (Nat.le_refl _) _⟩
  | 2, hf, A, c, L, w => by
    unfold vCr
    show Calls Tryd.prog 9 #[_, .int .i64 2] w _
    go_enter Tryd.func9, Tryd.ntmps9
    go_wp2
    go_ret
    exact ⟨rfl, (Below.refl _ _).alloc (Nat.le_refl _) _⟩
  | 3, hf, A, c, L, w => by
    unfold vCr
    show Calls Tryd.prog 9 #[_, .int .i64 3] w _
    go_enter Tryd.func9, Tryd.ntmps9
    go_wp2
    go_ret
    exact ⟨rfl, (Below.refl _ _).alloc (Nat.le_refl _) _⟩
  | 4, hf, A, c, L, w => by
    unfold vCr
    show Calls Tryd.prog 9 #[_, .int .i64 4] w _
    go_enter Tryd.func9, Tryd.ntmps9
    go_wp2
    go_ret
    exact ⟨rfl, (Below.refl _ _).alloc (Nat.le_refl _) _⟩
  | f + 5, hf, A, c, L, w => absurd hf (by omega)
theorem rfieldCr_out (f : Int) (A : Nat → Option Addr) (c : Nat → Nat) (L : Nat → List Q4) (w : World) (h : f < 0 ∨ 5 ≤ f) : Calls Tryd.prog 9 #[vCr A c L, .int .i64 f] w fun e w' => e = .returned (.slice none 0 0) ∧ Below w.heap.size w w' := by
  unfold vCr
  have e0 : (f == 0) = false := by rw [beq_eq_false_iff_ne]; omega
  have e1 : (f == 1) = false := by rw [beq_eq_false_iff_ne]; omega
  have e2 : (f == 2) = false := by rw [beq_eq_false_iff_ne]; omega
  have e3 : (f == 3) = false := by rw [beq_eq_false_iff_ne]; omega
  have e4 : (f == 4) = false := by rw [beq_eq_false_iff_ne]; omega
  go_enter Tryd.func9, Tryd.ntmps9
  go_wp2
  go_ret
  exact ⟨rfl, (Below.refl _ _).alloc (Nat.le_refl _) _⟩
end Go.Proofs.YtahlegempjlbbaaDoor
