/- Contracts of mask.Span and of the document's Of (layer 2). -/
import Derived.Test.YtjpdfbljhbgbcaaDoorMaskA
namespace Go.Proofs.YtjpdfbljhbgbcaaDoor
open Go.RowKit
set_option linter.unusedVariables false

theorem bv_step (p : Nat → Bool) (n : Nat) (h : n < 64) : bv p n (64 - n) = (if p n = true then 1 else 0) + 2 * bv p (n + 1) (63 - n) := by
  rw [show 64 - n = 63 - n + 1 by omega]; rfl
theorem bv_small (p : Nat → Bool) (n : Nat) : bv p (n + 1) (63 - n) < 9223372036854775808 :=
  Nat.lt_of_lt_of_le (bv_lt p (63 - n) (n + 1)) (show 2 ^ (63 - n) ≤ 2 ^ 63 from Nat.pow_le_pow_right (by decide) (by omega))
/-- none of the first k is this number -/
def noneOf (zs : List Int) (k : Nat) (n : Int) : Prop := ∀ j, j < k → zs[j]?.getD 0 ≠ n
theorem noneOf_all {zs : List Int} {n : Nat} (h : noneOf zs zs.length n) : inL zs n = false := by
  unfold inL
  apply decide_eq_false
  intro hm
  obtain ⟨j, hj, e⟩ := List.getElem_of_mem hm
  exact h j hj (by rw [List.getElem?_eq_getElem hj]; exact e)
theorem in_of {zs : List Int} {k n : Nat} (hk : k < zs.length) (h : zs[k]?.getD 0 = (n : Int)) : inL zs n = true := by
  unfold inL
  apply decide_eq_true
  rw [List.getElem?_eq_getElem hk] at h
  rw [← show zs[k] = (n : Int) from h]
  exact List.getElem_mem hk
set_option maxHeartbeats 800000 in
theorem rof_any (A : Option Addr) (c : Nat) (zs : List Int) (w : World) (hl : zs.length ≤ 1000000) (hc : Ints .i64 w A zs) :
    Calls Tryd.prog 56 #[.slice A zs.length c] w fun e w' => e = .returned (.int .u64 (mk (inL zs) : Nat)) ∧ w = w' := by
  have HC := Lib.hid hc
  clear hc
  go_enter Tryd.func56, Tryd.ntmps56
  go_wp2
  go_loop [3, 4] (fun m i => ∃ n : Nat, n ≤ 64 ∧ i = .int .i64 ((n : Int) - 1) ∧ m = .int .u64 (bv (inL zs) n (64 - n) : Nat)) (fun _ i => (intOf i + 1).toNat)
  case atStart => exact ⟨64, Nat.le_refl _, rfl, rfl⟩
  case round =>
    obtain ⟨n', hn, rfl, rfl⟩ := hrel
    cases n' with
    | zero =>
      have HM := Lib.hid (mk_bv (inL zs)).symm
      go_wp2
      go_ret
      exact ⟨by rw [← HM.out]; rfl, rfl⟩
    | succ n =>
      rw [show ((n + 1 : Nat) : Int) - 1 = (n : Int) by omega]
      have hs := bv_small (inL zs) n
      have HB := Lib.hid (bv_step (inL zs) n (by omega))
      rw [show 64 - (n + 1) = 63 - n by omega]
      generalize hM : bv (inL zs) (n + 1) (63 - n) = M at hs HB ⊢
      have i0 : (M : Int) < 9223372036854775808 := by omega
      clear hM hs
      go_wp2
      go_loop [3, 5] (fun x i => ∃ k : Nat, k ≤ zs.length ∧ x = .int .u64 (2 * (M : Int)) ∧ i = .int .i64 k ∧ Hid (noneOf zs k n)) (fun _ i => zs.length - (intOf i).toNat)
      case atStart => exact ⟨0, Nat.zero_le _, rfl, rfl, Lib.hid (fun j hj => by omega)⟩
      case round =>
        obtain ⟨k, hk, rfl, rfl, HN⟩ := hrel
        by_cases hlt : k < zs.length
        · obtain ⟨b, off, rfl, hb, hcell⟩ := HC.out k hlt
          have d3 := dec_t hlt
          by_cases he : zs[k]?.getD 0 = (n : Int)
          · have HX := Lib.hid (show bv (inL zs) n (64 - n) = 2 * M + 1 by rw [HB.out, in_of hlt he]; simp; omega)
            rw [he] at hcell
            clear he
            go_wp2
            go_round
            case rel => exact ⟨n, by omega, rfl, by rw [HX.out]; go_num⟩
            case measure => simp [intOf]
          · have d4 : (zs[k]?.getD 0 == (n : Int)) = false := by rw [beq_eq_false_iff_ne]; exact he
            have HN2 := Lib.hid (show noneOf zs (k + 1) n from fun j hj => by
              by_cases e : j = k
              · subst e; exact he
              · exact HN.out j (by omega))
            generalize zs[k]?.getD 0 = z at hcell d4
            clear he
            go_wp2
            go_round
            case rel => exact ⟨k + 1, by omega, rfl, by go_num, HN2⟩
            case measure => simp [intOf]; omega
        · obtain rfl : k = zs.length := by omega
          have HX := Lib.hid (show bv (inL zs) n (64 - n) = 2 * M by rw [HB.out, noneOf_all HN.out]; simp)
          go_wp2
          go_round
          case rel => exact ⟨n, by omega, rfl, by rw [HX.out]; go_num⟩
          case measure => simp [intOf]
end Go.Proofs.YtjpdfbljhbgbcaaDoor
