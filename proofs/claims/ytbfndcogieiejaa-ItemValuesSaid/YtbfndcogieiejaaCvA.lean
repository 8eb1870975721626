/- Contracts of cover.rise, cover.run, cover.piece (layer 3). -/
import Derived.Test.YtbfndcogieiejaaCvMath
import Derived.LoopN
import Derived.LoopTactic
import Derived.WalkMore
import Derived.Deep.QuietTactic
import Derived.BigQuiet
import Derived.StillTailTactics
namespace Go.Proofs.Ytbfndcogieiejaa
open Go.RowKit
set_option linter.unusedVariables false

/-- the number ahead of a place, -1 ahead of the first one -/
def lastOf (zs : List Int) (k : Nat) : Int := if k = 0 then -1 else zs[k - 1]?.getD 0
theorem good_iff (zs : List Int) (k : Nat) (hp : ∀ j, j < k → goodAt zs j) : goodAt zs k ↔ (lastOf zs k < zs[k]?.getD 0 ∧ zs[k]?.getD 0 ≤ 9999) := by
  unfold goodAt lastOf
  by_cases h : k = 0
  · subst h
    rw [if_pos rfl]
    constructor
    · rintro ⟨a, b, _⟩; exact ⟨by omega, b⟩
    · rintro ⟨a, b⟩; exact ⟨by omega, b, fun h => by omega⟩
  · rw [if_neg h]
    have h0 := (hp (k - 1) (by omega)).1
    constructor
    · rintro ⟨a, b, c⟩; exact ⟨c (by omega), b⟩
    · rintro ⟨a, b⟩; exact ⟨by omega, b, fun _ => a⟩
theorem lastOf_bd (zs : List Int) (k : Nat) (hp : ∀ j, j < k → goodAt zs j) : -1 ≤ lastOf zs k ∧ lastOf zs k ≤ 9999 := by
  unfold lastOf
  split
  · omega
  · have h0 := hp (k - 1) (by omega)
    unfold goodAt at h0
    omega
theorem lastOf_succ (zs : List Int) (k : Nat) : lastOf zs (k + 1) = zs[k]?.getD 0 := by unfold lastOf; rw [if_neg (by omega)]; rfl
def riseB (zs : List Int) : Prop := Rise zs
set_option maxHeartbeats 400000 in
theorem rise_any (b : Bool) (A : Option Addr) (c : Nat) (zs : List Int) (w : World) (hl : zs.length ≤ 1000000) (hc : Ints .i64 w A zs) (hb : b = true ↔ Rise zs) :
    Calls Try.prog 27 #[.slice A zs.length c] w fun e w' => e = .returned (.bool b) ∧ w = w' := by
  have HC := Lib.hid hc
  have HB := Lib.hid hb
  clear hc hb
  go_enter Try.func27, Try.ntmps27
  go_wp2
  go_loop [3, 8] (fun l i => ∃ k : Nat, k ≤ zs.length ∧ i = .int .i64 k ∧ l = .int .i64 (lastOf zs k) ∧ Hid (∀ j, j < k → goodAt zs j)) (fun _ i => zs.length - (intOf i).toNat)
  case atStart => exact ⟨0, Nat.zero_le _, rfl, rfl, Lib.hid (fun j hj => by omega)⟩
  case round =>
    obtain ⟨k, hk, rfl, rfl, HP⟩ := hrel
    have hlb := lastOf_bd zs k HP.out
    by_cases hlt : k < zs.length
    · obtain ⟨b', off, rfl, hb', hcell⟩ := HC.out k hlt
      have dk := dec_t hlt
      have HG := Lib.hid (good_iff zs k HP.out)
      have HL := Lib.hid (lastOf_succ zs k)
      have HW := Lib.hid (show ∀ v : Bool, ¬ goodAt zs k → v = false → v = b from fun v hn hv => by
        rw [hv]
        cases b
        · rfl
        · exact absurd (HB.out.1 rfl k hlt) hn)
      by_cases h1 : zs[k]?.getD 0 ≤ lastOf zs k
      · have hn : ¬ goodAt zs k := fun h => by have := (HG.out.1 h).1; omega
        have HX := Lib.hid (HW.out false hn rfl)
        have d := dec_t h1
        generalize zs[k]?.getD 0 = z at hcell d
        generalize lastOf zs k = l at d hlb ⊢
        clear h1 hn hlb
        go_wp2
        go_ret
        exact ⟨ret_bool HX.out, rfl⟩
      · have d := dec_n h1
        by_cases h2 : 9999 < zs[k]?.getD 0
        · have hn : ¬ goodAt zs k := fun h => by have := (HG.out.1 h).2; omega
          have HX := Lib.hid (HW.out false hn rfl)
          have d2 := dec_t h2
          generalize zs[k]?.getD 0 = z at hcell d d2
          generalize lastOf zs k = l at d hlb ⊢
          clear h1 h2 hn hlb
          go_wp2
          go_ret
          exact ⟨ret_bool HX.out, rfl⟩
        · have d2 := dec_n h2
          have hg : goodAt zs k := HG.out.2 ⟨by omega, by omega⟩
          have HP2 := Lib.hid (show ∀ j, j < k + 1 → goodAt zs j from fun j hj => by
            by_cases e : j = k
            · subst e; exact hg
            · exact HP.out j (by omega))
          generalize hz : zs[k]?.getD 0 = z at hcell d d2 HL
          generalize lastOf zs k = l at d hlb ⊢
          clear h1 h2 hg hlb hz
          go_wp2
          go_round
          case rel => exact ⟨k + 1, by omega, by go_num, by rw [HL.out], HP2⟩
          case measure => simp [intOf]; omega
    · obtain rfl : k = zs.length := by omega
      have HX := Lib.hid (show true = b from (HB.out.2 (fun j hj => HP.out j hj)).symm)
      clear hlb
      go_wp2
      go_ret
      exact ⟨ret_bool HX.out, rfl⟩
theorem cell_at {w : World} {A : Option Addr} {zs : List Int} (h : Ints .i64 w A zs) (h0 : 0 < zs.length) : ∃ b off, A = some ⟨b, off, none⟩ ∧ ∀ k, k < zs.length → w.cell? ⟨b, off + k, none⟩ = some (.int .i64 (zs[k]?.getD 0)) := by
  obtain ⟨b, off, hA, _, _⟩ := h 0 h0
  refine ⟨b, off, hA, fun k hk => ?_⟩
  obtain ⟨b', off', hA', _, hc⟩ := h k hk
  rw [hA] at hA'
  cases hA'
  exact hc
theorem Rise.bd {zs : List Int} (h : Rise zs) (k : Nat) (hk : k < zs.length) : 0 ≤ zs[k]?.getD 0 ∧ zs[k]?.getD 0 ≤ 9999 := ⟨(h k hk).1, (h k hk).2.1⟩
def RunAt (zs : List Int) (w : World) (n : Value) (wr : World) : Prop := ∃ p : Nat, 1 ≤ p ∧ p + 1 ≤ zs.length ∧ n = .int .i64 ((p : Int) + 1) ∧ extN zs (stepOf zs) (p + 1) (zs.length - (p + 1)) = extN zs (stepOf zs) 2 (zs.length - 2) ∧ Quiet w wr
set_option maxHeartbeats 1600000 in
theorem run_any (A : Option Addr) (c : Nat) (zs : List Int) (w : World) (hl : zs.length ≤ 1000000) (h0 : 0 < zs.length) (hc : Ints .i64 w A zs) (hr : Rise zs) :
    Calls Try.prog 28 #[.slice A zs.length c] w fun e w' => e = .returned (.int .i64 (runN zs)) ∧ Quiet w w' := by
  by_cases h1 : zs.length = 1
  · have HX := Lib.hid (runN_one zs h1)
    have d : (((zs.length : Nat) : Int) == 1) = true := by rw [beq_iff_eq]; omega
    clear h1 hc hr h0
    go_enter Try.func28, Try.ntmps28
    go_wp2
    go_step3
    go_wp2
    try rw [Exit.noGoto_ret]
    go_ret
    exact ⟨by rw [HX.out]; rfl, Quiet.refl _⟩
  · obtain ⟨b, off, rfl, hcell⟩ := cell_at hc h0
    have HC := Lib.hid hcell
    have HR := Lib.hid hr
    have c0 : w.cell? ⟨b, off, none⟩ = some (.int .i64 (zs[0]?.getD 0)) := hcell 0 (by omega)
    have c1 := hcell 1 (by omega)
    have b0 := hr.bd 0 (by omega)
    have b1 := hr.bd 1 (by omega)
    have HS := Lib.hid (show zs[1]?.getD 0 - zs[0]?.getD 0 = stepOf zs from rfl)
    have hsb : -9999 ≤ stepOf zs ∧ stepOf zs ≤ 9999 := by unfold stepOf; omega
    have d : (((zs.length : Nat) : Int) == 1) = false := by rw [beq_eq_false_iff_ne]; omega
    have i1 : (1 : Int) < (zs.length : Int) := by omega
    have i0 : (0 : Int) < (zs.length : Int) := by omega
    generalize hz0 : zs[0]?.getD 0 = z0 at c0 b0 HS
    generalize hz1 : zs[1]?.getD 0 = z1 at c1 b1 HS
    obtain ⟨b0a, b0b⟩ := b0
    obtain ⟨b1a, b1b⟩ := b1
    have hst := HS.out
    have hw : IntKind.i64.wrap (z1 - z0) = stepOf zs := by rw [hst]; exact IntWalk.i64_in _ ⟨by omega, by omega⟩
    clear hst hcell hc hr hz0 hz1
    go_enter Try.func28, Try.ntmps28
    go_wp2
    go_step3
    go_wp2
    go_quiet (fail)
    go_wp2
    go_step3
    go_wp2
    clear hw
    go_loopw [4] (fun n wr => RunAt zs w n wr) (fun n _ => zs.length - (intOf n).toNat)
    case atStart => exact ⟨1, Nat.le_refl _, by omega, rfl, rfl, Quiet.of _ _⟩
    case round =>
      obtain ⟨p, hp1, hp2, rfl, he, hq⟩ := hrel
      have HE := Lib.hid he
      have QQ := Lib.hid hq
      clear he hq
      by_cases hend : p + 1 = zs.length
      · have HS2 := Lib.hid (show extN zs (stepOf zs) (p + 1) (zs.length - (p + 1)) = p + 1 by rw [show zs.length - (p + 1) = 0 by omega]; rfl)
        have e1 : ((p : Int) + 1 == ((zs.length : Nat) : Int)) = true := by rw [beq_iff_eq]; omega
        clear hend
        by_cases ha : p = 1 ∧ 1 < stepOf zs
        · have HX := Lib.hid (show (runN zs : Int) = 1 by rw [runN_alone zs (by omega) (by rw [← HE.out, HS2.out]; omega) ha.2]; rfl)
          have f1 : ((p : Int) + 1 == 2) = true := by rw [beq_iff_eq]; omega
          have f2 := dec_t ha.2
          clear ha
          go_wp2
          go_quiet (fail)
          go_wp2
          try rw [Exit.noGoto_ret]
          go_ret
          exact ⟨by rw [HX.out]; rfl, QQ.out.trans (Quiet.of _ _)⟩
        · have HX := Lib.hid (show (runN zs : Int) = (p : Int) + 1 by rw [runN_more zs (by omega) (by rw [← HE.out, HS2.out]; omega), ← HE.out, HS2.out]; rfl)
          by_cases hb : p = 1
          · have f1 : ((p : Int) + 1 == 2) = true := by rw [beq_iff_eq]; omega
            have f2 := dec_n (show ¬ 1 < stepOf zs by omega)
            clear ha hb
            go_wp2
            go_quiet (fail)
            go_wp2
            try rw [Exit.noGoto_ret]
            go_ret
            exact ⟨by rw [HX.out]; rfl, QQ.out.trans (Quiet.of _ _)⟩
          · have f1 : ((p : Int) + 1 == 2) = false := by rw [beq_eq_false_iff_ne]; omega
            clear ha hb
            go_wp2
            go_quiet (fail)
            go_wp2
            try rw [Exit.noGoto_ret]
            go_ret
            exact ⟨by rw [HX.out]; rfl, QQ.out.trans (Quiet.of _ _)⟩
      · have e1 : ((p : Int) + 1 == ((zs.length : Nat) : Int)) = false := by rw [beq_eq_false_iff_ne]; omega
        have hpl : p + 1 < zs.length := by omega
        have cp := (QQ.out.cell ⟨b, off + p, none⟩).trans (HC.out p (by omega))
        have cq := (QQ.out.cell ⟨b, off + (p + 1), none⟩).trans (HC.out (p + 1) hpl)
        have bp := HR.out.bd p (by omega)
        have bq := HR.out.bd (p + 1) hpl
        generalize hx : zs[p]?.getD 0 = x at cp bp
        generalize hy : zs[p + 1]?.getD 0 = y at cq bq
        have HD := Lib.hid (show zs[p + 1]?.getD 0 - zs[p + 1 - 1]?.getD 0 = y - x by rw [show p + 1 - 1 = p by omega, hx, hy])
        obtain ⟨bp1, bp2⟩ := bp
        obtain ⟨bq1, bq2⟩ := bq
        have j0 : (0 : Int) ≤ (p : Int) := by omega
        have j1 : (p : Int) + 1 < (zs.length : Int) := by omega
        have j3 : (0 : Int) ≤ (p : Int) + 1 := by omega
        have j2 : (p : Int) < (zs.length : Int) := by omega
        have t1 : ((p : Int) + 1).toNat = p + 1 := by omega
        have t2 : (p : Int) + 1 - 1 = (p : Int) := by omega
        have t3 : IntKind.i64.wrap ((p : Int) + 1 - 1) = (p : Int) := by rw [t2]; exact IntWalk.i64_in _ ⟨by omega, by omega⟩
        have t4 : IntKind.i64.wrap (y - x) = y - x := IntWalk.i64_in _ ⟨by omega, by omega⟩
        clear hx hy
        by_cases hs : y - x = stepOf zs
        · have HE2 := Lib.hid (show extN zs (stepOf zs) (p + 1 + 1) (zs.length - (p + 1 + 1)) = extN zs (stepOf zs) 2 (zs.length - 2) by
            rw [← HE.out, show zs.length - (p + 1) = zs.length - (p + 1 + 1) + 1 by omega]
            exact (extN_go zs _ (p + 1) _ (by rw [HD.out]; exact hs)).symm)
          have f3 : (y - x == stepOf zs) = true := by rw [beq_iff_eq]; exact hs
          have f4 : (y - x != stepOf zs) = false := by rw [bne_eq_false_iff_eq]; exact hs
          clear hs hend
          go_wp2
          go_quiet (fail)
          clear t1 t2 t3 t4 f3 f4 e1
          go_wp2
          go_roundw
          case rel => exact ⟨p + 1, by omega, by omega, by go_num, HE2.out, QQ.out.trans (Quiet.of _ _)⟩
          case measure => simp [intOf]; omega
        · have HS2 := Lib.hid (show extN zs (stepOf zs) (p + 1) (zs.length - (p + 1)) = p + 1 by
            rw [show zs.length - (p + 1) = zs.length - (p + 1 + 1) + 1 by omega]
            exact extN_stop zs _ (p + 1) _ (by rw [HD.out]; exact hs))
          have f3 : (y - x == stepOf zs) = false := by rw [beq_eq_false_iff_ne]; exact hs
          have f4 : (y - x != stepOf zs) = true := by rw [bne_iff_ne]; exact hs
          clear hs hend
          by_cases ha : p = 1 ∧ 1 < stepOf zs
          · have HX := Lib.hid (show (runN zs : Int) = 1 by rw [runN_alone zs (by omega) (by rw [← HE.out, HS2.out]; omega) ha.2]; rfl)
            have f1 : ((p : Int) + 1 == 2) = true := by rw [beq_iff_eq]; omega
            have f2 := dec_t ha.2
            clear ha
            go_wp2
            go_quiet (fail)
            go_wp2
            try rw [Exit.noGoto_ret]
            go_ret
            exact ⟨by rw [HX.out]; rfl, QQ.out.trans (Quiet.of _ _)⟩
          · have HX := Lib.hid (show (runN zs : Int) = (p : Int) + 1 by rw [runN_more zs (by omega) (by rw [← HE.out, HS2.out]; omega), ← HE.out, HS2.out]; rfl)
            by_cases hb : p = 1
            · have f1 : ((p : Int) + 1 == 2) = true := by rw [beq_iff_eq]; omega
              have f2 := dec_n (show ¬ 1 < stepOf zs by omega)
              clear ha hb
              go_wp2
              go_quiet (fail)
              go_wp2
              try rw [Exit.noGoto_ret]
              go_ret
              exact ⟨by rw [HX.out]; rfl, QQ.out.trans (Quiet.of _ _)⟩
            · have f1 : ((p : Int) + 1 == 2) = false := by rw [beq_eq_false_iff_ne]; omega
              clear ha hb
              go_wp2
              go_quiet (fail)
              go_wp2
              try rw [Exit.noGoto_ret]
              go_ret
              exact ⟨by rw [HX.out]; rfl, QQ.out.trans (Quiet.of _ _)⟩
end Go.Proofs.Ytbfndcogieiejaa
