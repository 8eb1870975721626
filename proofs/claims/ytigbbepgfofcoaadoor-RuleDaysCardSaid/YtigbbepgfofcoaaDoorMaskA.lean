/- Contracts of mask.Has, mask.Of, mask.Span, and of the document's Has and Of (layer 2). -/
import Derived.Test.YtigbbepgfofcoaaDoorMaskMath
import Derived.Test.YtigbbepgfofcoaaDoorDec
import Derived.LoopN
import Derived.LoopTactic
import Derived.Laws.ShiftsVar
namespace Go.Proofs.YtigbbepgfofcoaaDoor
open Go.RowKit
set_option linter.unusedVariables false

theorem bit_test (m n : Nat) (hm : m < 18446744073709551616) : (bits BinOp.and IntKind.u64 ((m : Int) / 2 ^ n) 1 == 1) = m.testBit n := by
  rw [show ((m : Int) / 2 ^ n) = ((m / 2 ^ n : Nat) : Int) by push_cast; rfl]
  rw [show (1 : Int) = ((1 : Nat) : Int) from rfl, u64_and_nat _ _ (Nat.lt_of_le_of_lt (Nat.div_le_self _ _) hm) (by decide)]
  rw [Nat.testBit_eq_decide_div_mod_eq, Nat.and_one_is_mod]
  by_cases h : m / 2 ^ n % 2 = 1
  · rw [h]; rfl
  · have : m / 2 ^ n % 2 = 0 := by omega
    rw [this]; rfl
theorem inM_lo (m : Nat) (n : Int) (h : n < 0) : inM m n = false := by unfold inM; rw [dec_n (by omega)]; rfl
theorem inM_hi (m : Nat) (n : Int) (h : 64 ≤ n) : inM m n = false := by unfold inM; rw [dec_n (by omega)]; rfl
theorem inM_in (m n : Nat) (h : n < 64) : inM m n = m.testBit n := by unfold inM; rw [dec_t (by omega)]; simp
theorem half_half (m k : Nat) : m / 2 ^ k / 2 = m / 2 ^ (k + 1) := by rw [Nat.div_div_eq_div_mul, Nat.pow_succ]
theorem rhas_any (m : Nat) (n : Int) (w : World) (hm : m < 18446744073709551616) : Calls Tryd.prog 17 #[.int .u64 m, .int .i64 n] w fun e w' => e = .returned (.bool (inM m n)) ∧ w = w' := by
  by_cases h1 : n < 0
  · rw [inM_lo m n h1]
    have d := dec_t h1
    clear h1
    go_enter Tryd.func17, Tryd.ntmps17
    go_wp2
    go_ret
    exact ⟨rfl, rfl⟩
  · have d := dec_n h1
    by_cases h2 : 63 < n
    · rw [inM_hi m n (by omega)]
      have d2 := dec_t h2
      clear h1 h2
      go_enter Tryd.func17, Tryd.ntmps17
      go_wp2
      go_ret
      exact ⟨rfl, rfl⟩
    · have d2 := dec_n h2
      obtain ⟨k, rfl⟩ := Int.eq_ofNat_of_zero_le (show 0 ≤ n by omega)
      rw [inM_in m k (by omega)]
      have hk : k ≤ 63 := by omega
      clear h1 h2
      go_enter Tryd.func17, Tryd.ntmps17
      go_wp2
      go_loop [0, 5] (fun x i => ∃ j : Nat, j ≤ k ∧ i = .int .i64 j ∧ x = .int .u64 (m / 2 ^ j : Nat)) (fun _ i => k - (intOf i).toNat)
      case atStart => exact ⟨0, Nat.zero_le _, rfl, by simp⟩
      case round =>
        obtain ⟨j, hj, rfl, rfl⟩ := hrel
        have hlt : m / 2 ^ j < 18446744073709551616 := Nat.lt_of_le_of_lt (Nat.div_le_self _ _) hm
        have HS := Lib.hid (half_half m j)
        have HT := Lib.hid (Nat.testBit_eq_decide_div_mod_eq (x := m) (i := j))
        generalize m / 2 ^ j = x at hlt HS HT ⊢
        have i1 : (x : Int) ≤ 18446744073709551615 := by omega
        clear hlt
        by_cases hc : j < k
        · have d3 := dec_t (show (j : Int) < (k : Int) by omega)
          go_wp2
          go_round
          case rel => exact ⟨j + 1, by omega, by go_num, by rw [← HS.out]; rfl⟩
          case measure => simp [intOf]; omega
        · obtain rfl : j = k := by omega
          go_wp2
          go_ret
          refine ⟨ret_bool ?_, rfl⟩
          rw [HT.out]
          by_cases h1 : x % 2 = 1
          · rw [dec_t h1, beq_iff_eq]; omega
          · rw [dec_n h1, beq_eq_false_iff_ne]; omega
theorem or_put (p : Nat → Bool) (n : Nat) (h : n < 64) : bits BinOp.or IntKind.u64 ((mk p : Nat) : Int) (IntKind.u64.wrap (2 ^ n)) = ((mk (fun i => p i || decide (i = n)) : Nat) : Int) := by
  have h2 : 2 ^ n < 18446744073709551616 := show 2 ^ n < 2 ^ 64 from Nat.pow_lt_pow_right (by decide) h
  have e : IntKind.u64.wrap (2 ^ n) = ((2 ^ n : Nat) : Int) := by
    rw [IntKind.wrap_u64]
    rw [show (2 : Int) ^ n = ((2 ^ n : Nat) : Int) by push_cast; rfl]
    generalize (2 ^ n : Nat) = x at h2 ⊢
    omega
  rw [e, u64_or_nat _ _ (mk_lt p) h2, mk_put p n h]
theorem take_step (zs : List Int) (k : Nat) (h : k < zs.length) : zs.take (k + 1) = zs.take k ++ [zs[k]?.getD 0] := by
  rw [List.take_succ_eq_append_getElem h, List.getElem?_eq_getElem h]; rfl
theorem inL_step (zs : List Int) (k : Nat) (h : k < zs.length) (n : Nat) (hn : zs[k]?.getD 0 = (n : Int)) : mk (fun i => inL (zs.take k) i || decide (i = n)) = mk (inL (zs.take (k + 1))) := by
  apply mk_congr
  intro i _
  rw [take_step zs k h, inL_snoc, hn]
  congr 1
  by_cases e : i = n
  · rw [dec_t e, dec_t (by omega)]
  · rw [dec_n e, dec_n (by omega)]
theorem inL_skip (zs : List Int) (k : Nat) (h : k < zs.length) (hn : zs[k]?.getD 0 < 0 ∨ 64 ≤ zs[k]?.getD 0) : mk (inL (zs.take k)) = mk (inL (zs.take (k + 1))) := by
  apply mk_congr
  intro i hi
  rw [take_step zs k h, inL_snoc, dec_n (by omega)]
  simp
theorem inL_all (zs : List Int) : mk (inL (zs.take zs.length)) = mk (inL zs) := by rw [List.take_length]
set_option maxHeartbeats 400000 in
theorem of_any (A : Option Addr) (c : Nat) (zs : List Int) (w : World) (hl : zs.length ≤ 1000000) (hc : Ints .i64 w A zs) :
    Calls Tryd.prog 66 #[.slice A zs.length c] w fun e w' => e = .returned (.int .u64 (mk (inL zs) : Nat)) ∧ w = w' := by
  have HC := Lib.hid hc
  clear hc
  go_enter Tryd.func66, Tryd.ntmps66
  go_wp2
  go_loop [3, 8] (fun m i => ∃ k : Nat, k ≤ zs.length ∧ i = .int .i64 k ∧ m = .int .u64 (mk (inL (zs.take k)) : Nat)) (fun _ i => zs.length - (intOf i).toNat)
  case atStart => exact ⟨0, Nat.zero_le _, rfl, by rw [List.take_zero, mk_nil]; rfl⟩
  case round =>
    obtain ⟨k, hk, rfl, rfl⟩ := hrel
    by_cases hlt : k < zs.length
    · obtain ⟨b, off, rfl, hb, hcell⟩ := HC.out k hlt
      by_cases h1 : 0 ≤ zs[k]?.getD 0
      · by_cases h2 : zs[k]?.getD 0 < 64
        · obtain ⟨n, hn⟩ := Int.eq_ofNat_of_zero_le h1
          have HS := Lib.hid (inL_step zs k hlt n hn)
          rw [hn] at hcell
          have i1 : (n : Int) < 64 := by omega
          have HO := Lib.hid (or_put (inL (zs.take k)) n (by omega))
          have d3 := dec_t hlt
          clear hn h1 h2
          generalize hM : mk (inL (zs.take k)) = M at HO ⊢
          clear hM
          go_wp2
          go_round
          case rel => exact ⟨k + 1, by omega, by go_num, by rw [HO.out, HS.out]⟩
          case measure => simp [intOf]; omega
        · have HS := Lib.hid (inL_skip zs k hlt (by omega))
          have d := dec_n h2
          have d1 := dec_t h1
          generalize zs[k]?.getD 0 = z at hcell d d1
          clear h1 h2
          go_wp2
          go_round
          case rel => exact ⟨k + 1, by omega, by go_num, by rw [HS.out]⟩
          case measure => simp [intOf]; omega
      · have HS := Lib.hid (inL_skip zs k hlt (by omega))
        have d1 := dec_n h1
        generalize zs[k]?.getD 0 = z at hcell d1
        clear h1
        go_wp2
        go_round
        case rel => exact ⟨k + 1, by omega, by go_num, by rw [HS.out]⟩
        case measure => simp [intOf]; omega
    · obtain rfl : k = zs.length := by omega
      have HS := Lib.hid (inL_all zs)
      go_wp2
      go_ret
      exact ⟨by rw [← HS.out]; rfl, rfl⟩
end Go.Proofs.YtigbbepgfofcoaaDoor
