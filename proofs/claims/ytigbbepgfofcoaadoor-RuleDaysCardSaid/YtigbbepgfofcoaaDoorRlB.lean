/- The document's small questions on lists of numbers (layer 32): out, list, signs, Ns. -/
import Derived.Test.YtigbbepgfofcoaaDoorRlA
import Derived.Deep.QuietTactic
namespace Go.Proofs.YtigbbepgfofcoaaDoor
open Go.RowKit
set_option linter.unusedVariables false

theorem any_drop (p : Int → Bool) (zs : List Int) (k : Nat) (h : k < zs.length) : (zs.drop k).any p = (p (zs[k]?.getD 0) || (zs.drop (k + 1)).any p) := by
  rw [List.drop_eq_getElem_cons h, List.getElem?_eq_getElem h]; rfl
theorem any_end (p : Int → Bool) (zs : List Int) : (zs.drop zs.length).any p = false := by rw [List.drop_length]; rfl
/-- is a number out of bounds? -/
def outB (lo hi : Int) (zs : List Int) : Bool := zs.any fun z => decide (z < lo) || decide (hi < z)
set_option maxHeartbeats 800000 in
set_option maxRecDepth 20000 in
theorem rout_any (A : Option Addr) (c : Nat) (zs : List Int) (lo hi : Int) (w : World) (hl : zs.length ≤ 9223372036854775807) (hi2 : Ints .i64 w A zs) :
    Calls Tryd.prog 89 #[.slice A zs.length c, .int .i64 lo, .int .i64 hi] w fun e w' => e = .returned (.bool (outB lo hi zs)) ∧ w = w' := by
  have HI := Lib.hid hi2
  have HL := Lib.hid hl
  have HS := Lib.hid (fun k h => any_drop (fun z => decide (z < lo) || decide (hi < z)) zs k h)
  have HE := Lib.hid (any_end (fun z => decide (z < lo) || decide (hi < z)) zs)
  have H0 := Lib.hid (show (zs.drop 0).any (fun z => decide (z < lo) || decide (hi < z)) = outB lo hi zs from rfl)
  generalize outB lo hi zs = b at H0 ⊢
  clear hl hi2
  go_enter Tryd.func89, Tryd.ntmps89
  go_wp2
  go_loop [7] (fun i => ∃ k : Nat, k ≤ zs.length ∧ i = .int .i64 k ∧ Hid ((zs.drop k).any (fun z => decide (z < lo) || decide (hi < z)) = b)) (fun i => zs.length - (intOf i).toNat)
  case atStart => exact ⟨0, Nat.zero_le _, rfl, H0⟩
  case round =>
    obtain ⟨k, hk, rfl, HA⟩ := hrel
    by_cases hlt : k < zs.length
    · obtain ⟨bk, off, rfl, hb, hcell⟩ := HI.out k hlt
      have hst := HS.out k hlt
      rw [HA.out] at hst
      have HST := Lib.hid hst
      have hl := HL.out
      have d0 : decide (k < zs.length) = true := dec_t hlt
      have ik0 : (0 : Int) ≤ (k : Int) := by omega
      have ik1 : (k : Int) < (zs.length : Int) := by omega
      have hw1 : IntKind.i64.wrap ((k : Int) + 1) = (k : Int) + 1 := IntWalk.i64_in _ ⟨by omega, by omega⟩
      have HK := Lib.hid (And.intro hk hlt)
      generalize zs[k]?.getD 0 = z at hcell HST
      clear hst hk hlt HA
      by_cases h1 : z < lo
      · have e1 : decide (z < lo) = true := dec_t h1
        have HB := Lib.hid (show b = true by rw [HST.out, e1]; rfl)
        clear HST h1
        go_wp2
        go_ret
        exact ⟨by rw [HB.out]; rfl, rfl⟩
      · have e1 : decide (z < lo) = false := dec_n h1
        by_cases h2 : hi < z
        · have e2 : decide (hi < z) = true := dec_t h2
          have HB := Lib.hid (show b = true by rw [HST.out, e1, e2]; rfl)
          clear HST h1 h2
          go_wp2
          go_ret
          exact ⟨by rw [HB.out]; rfl, rfl⟩
        · have e2 : decide (hi < z) = false := dec_n h2
          have HB := Lib.hid (show (zs.drop (k + 1)).any (fun z => decide (z < lo) || decide (hi < z)) = b by rw [HST.out, e1, e2]; rfl)
          clear HST h1 h2
          go_wp2
          go_round
          case rel => exact ⟨k + 1, by have := HK.out; omega, by go_num, HB⟩
          case measure =>
            have := HK.out
            simp [intOf]; omega
    · obtain rfl : k = zs.length := by omega
      have d0 : decide (zs.length < zs.length) = false := dec_n (by omega)
      have HB := Lib.hid (show b = false by rw [← HA.out]; exact HE.out)
      clear hk hlt
      go_wp2
      go_ret
      exact ⟨by rw [HB.out]; rfl, rfl⟩
/-- what is wrong with a list -/
def lstE (lo hi : Int) (zs : List Int) : Int := if 64 < zs.length then 5 else if outB lo hi zs = true then 4 else 0
theorem rlst_any (A : Option Addr) (c : Nat) (zs : List Int) (lo hi : Int) (w : World) (hl : zs.length ≤ 9223372036854775807) (hi2 : Ints .i64 w A zs) :
    Calls Tryd.prog 54 #[.slice A zs.length c, .int .i64 lo, .int .i64 hi] w fun e w' => e = .returned (.int .i64 (lstE lo hi zs)) ∧ w = w' := by
  have K := rout_any A c zs lo hi w hl hi2
  unfold lstE
  by_cases h : 64 < zs.length
  · rw [if_pos h]
    have d0 : decide (64 < zs.length) = true := dec_t h
    have d1 : decide ((64 : Int) < (zs.length : Int)) = true := dec_t (by omega)
    clear K h hl hi2
    go_enter Tryd.func54, Tryd.ntmps54
    go_wp2
    go_ret
    exact ⟨rfl, rfl⟩
  · rw [if_neg h]
    have d0 : decide (64 < zs.length) = false := dec_n h
    have d1 : decide ((64 : Int) < (zs.length : Int)) = false := dec_n (by omega)
    generalize outB lo hi zs = b at K ⊢
    clear h hl hi2
    go_enter Tryd.func54, Tryd.ntmps54
    go_wp2_with fail
    refine K.mono ?_
    rintro e w1 ⟨rfl, rfl⟩
    cases b
    · go_wp2
      go_ret
      exact ⟨rfl, rfl⟩
    · go_wp2
      go_ret
      exact ⟨rfl, rfl⟩
/-- have numbers both signs, or some 0 and some not? -/
def sgP (z0 z : Int) : Bool := (decide (z < 0) != decide (z0 < 0)) || (decide (z = 0) != decide (z0 = 0))
def sgB (zs : List Int) : Bool := (zs.drop 1).any (sgP (zs[0]?.getD 0))
set_option maxHeartbeats 1600000 in
set_option maxRecDepth 20000 in
theorem rsigns_any (A : Option Addr) (c : Nat) (zs : List Int) (w : World) (hl : zs.length ≤ 9223372036854775807) (hi2 : Ints .i64 w A zs) :
    Calls Tryd.prog 90 #[.slice A zs.length c] w fun e w' => e = .returned (.bool (sgB zs)) ∧ ∃ n, w' = w.drewN n := by
  have HI := Lib.hid hi2
  have HL := Lib.hid hl
  have HS := Lib.hid (fun k h => any_drop (sgP (zs[0]?.getD 0)) zs k h)
  have HE := Lib.hid (any_end (sgP (zs[0]?.getD 0)) zs)
  have H0 := Lib.hid (show (zs.drop 1).any (sgP (zs[0]?.getD 0)) = sgB zs from rfl)
  have HO := Lib.hid (show zs.length ≤ 1 → (zs.drop 1).any (sgP (zs[0]?.getD 0)) = false from fun h => by rw [List.drop_of_length_le h]; rfl)
  generalize sgB zs = b at H0 ⊢
  clear hl hi2
  go_enter Tryd.func90, Tryd.ntmps90
  go_wp2
  go_loopw [3] (fun i wr => ∃ k n : Nat, 1 ≤ k ∧ (k ≤ zs.length ∨ k = 1) ∧ i = .int .i64 k ∧ wr = w.drewN n ∧ Hid ((zs.drop k).any (sgP (zs[0]?.getD 0)) = b)) (fun i _ => zs.length - (intOf i).toNat)
  case atStart => exact ⟨1, 0, Nat.le_refl _, .inr rfl, rfl, rfl, H0⟩
  case round =>
    obtain ⟨k, n, hk1, hk, rfl, rfl, HA⟩ := hrel
    by_cases hlt : k < zs.length
    · obtain ⟨bk, off, rfl, hb, hcell⟩ := HI.out k hlt
      obtain ⟨bk2, off2, he, hb2, hcell2⟩ := HI.out 0 (by omega)
      injection he with he
      injection he with he1 he2 _
      subst he1 he2
      have hst := HS.out k hlt
      rw [HA.out] at hst
      have HST := Lib.hid hst
      have hl := HL.out
      have d0 : decide (k < zs.length) = true := dec_t hlt
      have ik0 : (0 : Int) ≤ (k : Int) := by omega
      have ik1 : (k : Int) < (zs.length : Int) := by omega
      have ik2 : 0 < zs.length := by omega
      have ik3 : (0 : Int) < (zs.length : Int) := by omega
      have hw1 : IntKind.i64.wrap ((k : Int) + 1) = (k : Int) + 1 := IntWalk.i64_in _ ⟨by omega, by omega⟩
      have HK := Lib.hid (And.intro hk1 hlt)
      rw [Nat.add_zero] at hcell2
      generalize zs[k]?.getD 0 = z at hcell HST
      generalize zs[0]?.getD 0 = z0 at hcell2 HST HA HS HE H0 HO ⊢
      generalize hW : w.drewN n = W at *
      have hc1 : W.cell? ⟨bk, off + k, none⟩ = some (.int .i64 z) := by rw [← hW]; exact hcell
      have hc2 : W.cell? ⟨bk, off, none⟩ = some (.int .i64 z0) := by rw [← hW]; exact hcell2
      have HX := Lib.hid (fun m => show W.drewN m = w.drewN (n + m) from by rw [← hW]; simp [World.drewN, Nat.add_assoc])
      clear hW
      obtain ⟨p, hp⟩ : ∃ p, decide (z < 0) = p := ⟨_, rfl⟩
      obtain ⟨p0, hp0⟩ : ∃ p, decide (z0 < 0) = p := ⟨_, rfl⟩
      obtain ⟨q, hq⟩ : ∃ q, (z == 0) = q := ⟨_, rfl⟩
      obtain ⟨q0, hq0⟩ : ∃ q, (z0 == 0) = q := ⟨_, rfl⟩
      have HB := Lib.hid (show b = (((p != p0) || (q != q0)) || (zs.drop (k + 1)).any (sgP z0)) from by rw [HST.out, ← hp, ← hp0, ← hq, ← hq0]; rfl)
      clear HST hst hk1 hk hlt HA hcell hcell2 hb hb2 hl
      cases p <;> cases p0 <;> cases q <;> cases q0
      all_goals first
        | (have HC := Lib.hid (show b = true from by rw [HB.out]; rfl)
           clear HB
           go_wp2_with fail
           go_quiet (fail)
           go_wp2
           go_ret
           exact ⟨by rw [HC.out]; rfl, _, HX.out _⟩)
        | (have HC := Lib.hid (show (zs.drop (k + 1)).any (sgP z0) = b from by rw [HB.out]; rfl)
           clear HB
           go_wp2_with fail
           go_quiet (fail)
           go_wp2
           go_roundw
           case rel => exact ⟨k + 1, _, by omega, .inl (by have := HK.out; omega), by go_num, HX.out _, HC⟩
           case measure =>
             have := HK.out
             simp [intOf]; omega)
    · have HB := Lib.hid (show b = false by
        rw [← HA.out]
        rcases hk with hk | hk
        · obtain rfl : k = zs.length := by omega
          exact HE.out
        · subst hk
          exact HO.out (by omega))
      have d0 : decide (k < zs.length) = false := dec_n hlt
      clear hk1 hk hlt
      go_wp2
      go_ret
      exact ⟨by rw [HB.out]; rfl, n, rfl⟩
end Go.Proofs.YtigbbepgfofcoaaDoor
