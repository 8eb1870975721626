/- Contracts of the document's answers Sum, both and Gcd of layer 1. -/
import Derived.Test.YtpeoefncpjklbaaNum
import Derived.Test.YtpeoefncpjklbaaNumB
import Derived.Test.YtpeoefncpjklbaaRefNum
namespace Go.Proofs.Ytpeoefncpjklbaa
open Go.RowKit

theorem rsum_v (A : Option Addr) (zs : List Int) (c : Nat) (w : World) (hl : zs.length ≤ 9223372036854775807) (hz : ∀ z ∈ zs, I64 z) (hc : Ints .i64 w A zs) :
    Calls Try.prog 17 #[.slice A zs.length c] w fun e w' => e = .returned (sumV zs) ∧ w = w' := by
  go_enter Try.func17, Try.ntmps17
  go_wp2
  go_loop [4, 5] (fun x i => ∃ (k : Nat) (s : Int), k ≤ zs.length ∧ i = .int .i64 k ∧ x = .int .i64 s ∧ I64 s ∧ Hid (sumO (zs.take k) = some s)) (fun _ i => zs.length - (intOf i).toNat)
  case atStart => exact ⟨0, 0, Nat.zero_le _, rfl, rfl, by unfold I64; omega, Lib.hid rfl⟩
  case round =>
    obtain ⟨k, s, hk, rfl, rfl, hs, HS⟩ := hrel
    by_cases hlt : k < zs.length
    · obtain ⟨b, off, rfl, hb, hcell⟩ := hc k hlt
      have hzk := getD_mem hz hlt
      have hst := sumO_step zs k hlt s HS.out
      obtain ⟨x, hx⟩ : ∃ x, x = zs[k]?.getD 0 := ⟨_, rfl⟩
      rw [← hx] at hzk hst hcell
      clear hx hc hz
      obtain ⟨hz1, hz2⟩ := hzk
      obtain ⟨hs1, hs2⟩ := hs
      by_cases hi : I64 (s + x)
      · rw [if_pos hi] at hst
        have HT := Lib.hid hst
        clear hst
        have hi' := hi
        obtain ⟨hi1, hi2⟩ := hi
        by_cases h1 : 0 < x
        · have h2 : ¬ 9223372036854775807 - x < s := by omega
          have h3 : ¬ x < 0 := by omega
          go_wp2
          go_round
          case rel => exact ⟨k + 1, s + x, by omega, by go_num, rfl, hi', HT⟩
          case measure => simp [intOf]; omega
        · by_cases h3 : x < 0
          · have h4 : ¬ s < -9223372036854775808 - x := by omega
            go_wp2
            go_round
            case rel => exact ⟨k + 1, s + x, by omega, by go_num, rfl, hi', HT⟩
            case measure => simp [intOf]; omega
          · go_wp2
            go_round
            case rel => exact ⟨k + 1, s + x, by omega, by go_num, rfl, hi', HT⟩
            case measure => simp [intOf]; omega
      · rw [if_neg hi] at hst
        have HT := Lib.hid (sumV_none (sumO_none zs _ hst))
        clear hst
        unfold I64 at hi
        by_cases h1 : 0 < x
        · have h2 : 9223372036854775807 - x < s := by omega
          clear hi
          go_wp2
          go_ret2
          exact ⟨ret_val HT.out.symm, rfl⟩
        · have h3 : x < 0 := by omega
          have h4 : s < -9223372036854775808 - x := by omega
          clear hi
          go_wp2
          go_ret2
          exact ⟨ret_val HT.out.symm, rfl⟩
    · have HK := Lib.hid (sumV_some (by rw [← HS.out, List.take_of_length_le (by omega)]))
      go_wp2
      go_ret2
      exact ⟨ret_val HK.out.symm, rfl⟩

theorem both_any (a b : Nat) (w : World) (ha : a ≤ 18446744073709551615) (hb : b ≤ 18446744073709551615) : Calls Try.prog 34 #[.int .u64 a, .int .u64 b] w fun e w' => e = .returned (.int .u64 (Nat.gcd a b)) ∧ w = w' := by
  go_enter Try.func34, Try.ntmps34
  go_wp2
  go_loop [0, 1] (fun x y => ∃ c d : Nat, x = .int .u64 c ∧ y = .int .u64 d ∧ c ≤ 18446744073709551615 ∧ d ≤ 18446744073709551615 ∧ Hid (Nat.gcd c d = Nat.gcd a b)) (fun _ y => (intOf y).toNat)
  case atStart => exact ⟨a, b, rfl, rfl, ha, hb, Lib.hid rfl⟩
  case round =>
    obtain ⟨c, d, rfl, rfl, hc, hd, HG⟩ := hrel
    by_cases h : d = 0
    · subst h
      go_wp2
      go_ret
      exact ⟨ret_u64 (by rw [← HG.out]; simp), rfl⟩
    · have hpos : 0 < d := by omega
      have hb0 : ((d : Int) != 0) = true := by simp; omega
      have h2 : ¬ (d : Int) = 0 := by omega
      have hm := Nat.mod_lt c hpos
      go_wp2
      go_round
      case rel => exact ⟨d, c % d, rfl, by simp, hd, by omega, Lib.hid (by rw [← HG.out, Nat.gcd_comm c d, Nat.gcd_rec d c, Nat.gcd_comm])⟩
      case measure => simp [intOf]; omega

theorem rgcd_any (A : Option Addr) (n : Nat) (zs : List Int) (c : Nat) (w : World) (hn : n = zs.length) (hl : zs.length ≤ 9223372036854775807) (hz : ∀ z ∈ zs, I64 z) (hc : Ints .i64 w A zs) :
    Calls Try.prog 19 #[.slice A n c] w fun e w' => e = .returned (.int .u64 (gcdL zs)) ∧ w = w' := by
  subst hn
  go_enter Try.func19, Try.ntmps19
  go_wp2
  go_loop [3, 4] (fun x i => ∃ (k : Nat), k ≤ zs.length ∧ i = .int .i64 k ∧ x = .int .u64 (gcdL (zs.take k))) (fun _ i => zs.length - (intOf i).toNat)
  case atStart => exact ⟨0, Nat.zero_le _, rfl, rfl⟩
  case round =>
    obtain ⟨k, hk, rfl, rfl⟩ := hrel
    by_cases hlt : k < zs.length
    · obtain ⟨b, off, rfl, hb, hcell⟩ := hc k hlt
      have hzk := getD_mem hz hlt
      have hg := gcdL_le (zs.take k) (fun z h => hz z (List.mem_of_mem_take h))
      have hs := gcdL_step zs k hlt
      obtain ⟨x, hx⟩ : ∃ x, x = zs[k]?.getD 0 := ⟨_, rfl⟩
      rw [← hx] at hzk hs hcell
      have hx' : x.natAbs ≤ 18446744073709551615 := by unfold I64 at hzk; omega
      have HS := Lib.hid hs
      clear hx hs hc hz
      go_wp2_with (first | (go_at_call 21; refine (rsize_any _ _ hzk).mono ?_; rintro e w' ⟨rfl, rfl⟩) | (go_at_call 34; refine (both_any _ _ _ hg hx').mono ?_; rintro e w' ⟨rfl, rfl⟩))
      go_round
      case rel => exact ⟨k + 1, by omega, by go_num, by rw [HS.out]⟩
      case measure => simp [intOf]; omega
    · have HK : Hid (zs.take k = zs) := Lib.hid (List.take_of_length_le (by omega))
      go_wp2
      go_ret
      exact ⟨ret_u64 (by rw [HK.out]), rfl⟩
theorem rsum_some (A : Option Addr) (n : Nat) (zs : List Int) (c : Nat) (s : Int) (w : World) (hn : n = zs.length) (hl : zs.length ≤ 9223372036854775807) (hz : ∀ z ∈ zs, I64 z) (hc : Ints .i64 w A zs) (h : sumO zs = some s) :
    Calls Try.prog 17 #[.slice A n c] w fun e w' => e = .returned (.tuple #[.int .i64 s, .bool true]) ∧ w = w' := by
  subst hn; rw [← sumV_some h]; exact rsum_v A zs c w hl hz hc
theorem rsum_none (A : Option Addr) (n : Nat) (zs : List Int) (c : Nat) (w : World) (hn : n = zs.length) (hl : zs.length ≤ 9223372036854775807) (hz : ∀ z ∈ zs, I64 z) (hc : Ints .i64 w A zs) (h : sumO zs = none) :
    Calls Try.prog 17 #[.slice A n c] w fun e w' => e = .returned (.tuple #[.int .i64 0, .bool false]) ∧ w = w' := by
  subst hn; rw [← sumV_none h]; exact rsum_v A zs c w hl hz hc
end Go.Proofs.Ytpeoefncpjklbaa
