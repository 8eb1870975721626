/- Contract of cover.piece (layer 3). -/
import Derived.Test.YtbfndcogieiejaaCvA
import Derived.RegionTactic
import Derived.BigRegion
namespace Go.Proofs.Ytbfndcogieiejaa
open Go.RowKit
set_option linter.unusedVariables false

/-- a piece as a value -/
def pv (p : P3) : Value := .agg #[.int .i64 p.1, .int .i64 p.2.1, .int .i64 p.2.2]
set_option maxHeartbeats 800000 in
theorem piece_any (A : Option Addr) (c : Nat) (zs : List Int) (w : World) (hl : zs.length ≤ 1000000) (h0 : 0 < zs.length) (hc : Ints .i64 w A zs) (hb : ∀ k, k < zs.length → 0 ≤ zs[k]?.getD 0 ∧ zs[k]?.getD 0 ≤ 9999) :
    Calls Try.prog 29 #[.slice A zs.length c] w fun e w' => e = .returned (pv (pieceOf zs)) ∧ Below w.heap.size w w' := by
  obtain ⟨b, off, rfl, hcell⟩ := cell_at hc h0
  have c0 : w.cell? ⟨b, off, none⟩ = some (.int .i64 (zs[0]?.getD 0)) := hcell 0 h0
  have hbl : b < w.heap.size := by obtain ⟨b', off', e, hlt, _⟩ := hc 0 h0; cases e; exact hlt
  by_cases h1 : zs.length = 1
  · have HV := Lib.hid (show pv (pieceOf zs) = .agg #[.int .i64 (zs[0]?.getD 0), .int .i64 (zs[0]?.getD 0), .int .i64 1] by unfold pv pieceOf; rw [if_pos h1])
    have d : (((zs.length : Nat) : Int) == 1) = true := by rw [beq_iff_eq]; omega
    generalize zs[0]?.getD 0 = z0 at c0 HV
    have c0' : (w.alloc (.cells #[.int .i64 0, .int .i64 0, .int .i64 0] 55)).cell? ⟨b, off, none⟩ = some (.int .i64 z0) := (((Below.refl _ _).alloc (Nat.le_refl _) _).cell (p := ⟨b, off, none⟩) hbl).trans c0
    rw [HV.out]
    clear hc hcell hb h1
    go_enter Try.func29, Try.ntmps29
    go_wp2
    go_region
    go_wp2
    exact bodyPost_ret (v := .agg #[.int .i64 z0, .int .i64 z0, .int .i64 1]) (by simp [results, Try.results29, go_sem]) rfl ⟨rfl, ((Below.refl _ _).alloc (Nat.le_refl _) _).drew⟩
  · have h2 : 1 < zs.length := by omega
    have cl : w.cell? ⟨b, off + (zs.length - 1), none⟩ = some (.int .i64 (zs[zs.length - 1]?.getD 0)) := hcell (zs.length - 1) (by omega)
    have c1 : w.cell? ⟨b, off + 1, none⟩ = some (.int .i64 (zs[1]?.getD 0)) := hcell 1 h2
    have b0 := hb 0 h0
    have b1 := hb 1 h2
    have HV := Lib.hid (show pv (pieceOf zs) = .agg #[.int .i64 (zs[0]?.getD 0), .int .i64 (zs[zs.length - 1]?.getD 0), .int .i64 (zs[1]?.getD 0 - zs[0]?.getD 0)] by unfold pv pieceOf; rw [if_neg h1]; rfl)
    have d : (((zs.length : Nat) : Int) == 1) = false := by rw [beq_eq_false_iff_ne]; omega
    generalize zs[0]?.getD 0 = z0 at c0 b0 HV
    generalize zs[1]?.getD 0 = z1 at c1 b1 HV
    generalize zs[zs.length - 1]?.getD 0 = zl at cl HV
    have c0' : (w.alloc (.cells #[.int .i64 0, .int .i64 0, .int .i64 0] 55)).cell? ⟨b, off, none⟩ = some (.int .i64 z0) := (((Below.refl _ _).alloc (Nat.le_refl _) _).cell (p := ⟨b, off, none⟩) hbl).trans c0
    have c1' : (w.alloc (.cells #[.int .i64 0, .int .i64 0, .int .i64 0] 55)).cell? ⟨b, off + 1, none⟩ = some (.int .i64 z1) := (((Below.refl _ _).alloc (Nat.le_refl _) _).cell (p := ⟨b, off + 1, none⟩) hbl).trans c1
    have cl' : (w.alloc (.cells #[.int .i64 0, .int .i64 0, .int .i64 0] 55)).cell? ⟨b, off + (zs.length - 1), none⟩ = some (.int .i64 zl) := (((Below.refl _ _).alloc (Nat.le_refl _) _).cell (p := ⟨b, off + (zs.length - 1), none⟩) hbl).trans cl
    have t1 : IntKind.i64.wrap (((zs.length : Nat) : Int) - 1) = ((zs.length : Nat) : Int) - 1 := IntWalk.i64_in _ ⟨by omega, by omega⟩
    have t2 : (((zs.length : Nat) : Int) - 1).toNat = zs.length - 1 := by omega
    have t3 : IntKind.i64.wrap (z1 - z0) = z1 - z0 := IntWalk.i64_in _ ⟨by omega, by omega⟩
    have i0 : (0 : Int) ≤ ((zs.length : Nat) : Int) - 1 := by omega
    have i1 : ((zs.length : Nat) : Int) - 1 < ((zs.length : Nat) : Int) := by omega
    have i2 : (1 : Int) < ((zs.length : Nat) : Int) := by omega
    rw [HV.out]
    clear hc hcell hb h1 b0 b1
    go_enter Try.func29, Try.ntmps29
    go_wp2
    go_region
    go_wp2
    exact bodyPost_ret (v := .agg #[.int .i64 z0, .int .i64 zl, .int .i64 (z1 - z0)]) (by simp [results, Try.results29, go_sem]) rfl ⟨rfl, ((Below.refl _ _).alloc (Nat.le_refl _) _).drew⟩
end Go.Proofs.Ytbfndcogieiejaa
