/- Contracts of the functions of package num (layer 1): each returns what is named here, at any int64 numbers, and writes nothing that was there. -/
import Derived.Test.YtpeoefncpjklbaaKit
namespace Go.Proofs.Ytpeoefncpjklbaa
open Go.RowKit

theorem div_neg (a b : Int) (hb : 0 < b) (h : a.tmod b < 0) : a.tdiv b - 1 = a / b := by
  have h1 := Int.mul_tdiv_add_tmod a b
  have h2 := Int.lt_tmod_of_pos a hb
  have h3 : a / b = a.tdiv b - 1 ∧ a % b = a.tmod b + b := by
    rw [Int.ediv_emod_unique hb]
    refine ⟨?_, by omega, by omega⟩
    rw [Int.mul_sub]; omega
  exact h3.1.symm
theorem mod_neg (a b : Int) (hb : 0 < b) (h : a.tmod b < 0) : a.tmod b + b = a % b := by
  have h1 := Int.mul_tdiv_add_tmod a b
  have h2 := Int.lt_tmod_of_pos a hb
  have h3 : a / b = a.tdiv b - 1 ∧ a % b = a.tmod b + b := by
    rw [Int.ediv_emod_unique hb]
    refine ⟨?_, by omega, by omega⟩
    rw [Int.mul_sub]; omega
  exact h3.2.symm
theorem div_pos (a b : Int) (hb : 0 < b) (h : 0 ≤ a.tmod b) : a.tdiv b = a / b ∧ a.tmod b = a % b := by
  have h1 := Int.mul_tdiv_add_tmod a b
  have h2 := Int.tmod_lt_of_pos a hb
  have h3 : a / b = a.tdiv b ∧ a % b = a.tmod b := by
    rw [Int.ediv_emod_unique hb]
    exact ⟨by omega, by omega, by omega⟩
  exact ⟨h3.1.symm, h3.2.symm⟩
theorem ediv_bd (a b : Int) (hb : 0 < b) (ha : I64 a) : I64 (a / b) := by
  obtain ⟨h1, h2⟩ := ha
  refine ⟨?_, ?_⟩
  · have : -9223372036854775808 / b ≤ a / b := Int.ediv_le_ediv hb h1
    have h3 : -9223372036854775808 ≤ (-9223372036854775808 : Int) / b := by
      rw [Int.le_ediv_iff_mul_le hb]; omega
    omega
  · have : a / b ≤ 9223372036854775807 / b := Int.ediv_le_ediv hb h2
    have h3 : (9223372036854775807 : Int) / b ≤ 9223372036854775807 := Int.ediv_le_self _ (by omega)
    omega

/-- Floor, as the document has it. -/
def floorI (a b : Int) : Int := if b < 1 then 0 else a / b
def modI (a b : Int) : Int := if b < 1 then 0 else a % b

theorem floor_any (a b : Int) (w : World) (ha : I64 a) (hb : I64 b) : Calls Try.prog 10 #[.int .i64 a, .int .i64 b] w fun e w' => e = .returned (.int .i64 (floorI a b)) ∧ w = w' := by
  unfold floorI
  by_cases h : b < 1
  · rw [if_pos h]
    go_enter Try.func10, Try.ntmps10
    go_wp2
    go_ret
    exact ⟨rfl, rfl⟩
  · rw [if_neg h]
    have hd := ediv_bd a b (by omega) ha
    obtain ⟨ha1, ha2⟩ := ha
    obtain ⟨hb1, hb2⟩ := hb
    obtain ⟨hd1, hd2⟩ := hd
    have h0 : ¬ b = 0 := by omega
    by_cases hm : a.tmod b < 0
    · have hq := div_neg a b (by omega) hm
      have hw : wrap64 (a.tdiv b - 1) = a / b := by rw [hq]; exact IntWalk.wrap64_in _ ⟨hd1, hd2⟩
      have HW := Lib.hid hw
      clear hw hq hd1 hd2
      go_enter Try.func10, Try.ntmps10
      go_wp2
      go_ret
      exact ⟨ret_i64 HW.out, rfl⟩
    · have hm' : 0 ≤ a.tmod b := by omega
      have hq := (div_pos a b (by omega) hm').1
      have HW := Lib.hid hq
      clear hq hd1 hd2 hm
      go_enter Try.func10, Try.ntmps10
      go_wp2
      go_ret
      exact ⟨ret_i64 HW.out, rfl⟩


theorem mod_any (a b : Int) (w : World) (ha : I64 a) (hb : I64 b) : Calls Try.prog 12 #[.int .i64 a, .int .i64 b] w fun e w' => e = .returned (.int .i64 (modI a b)) ∧ w = w' := by
  unfold modI
  by_cases h : b < 1
  · rw [if_pos h]
    go_enter Try.func12, Try.ntmps12
    go_wp2
    go_ret
    exact ⟨rfl, rfl⟩
  · rw [if_neg h]
    obtain ⟨ha1, ha2⟩ := ha
    obtain ⟨hb1, hb2⟩ := hb
    have h0 : ¬ b = 0 := by omega
    by_cases hm : a.tmod b < 0
    · have hq := mod_neg a b (by omega) hm
      have h5 := Int.emod_lt_of_pos a (show 0 < b by omega)
      have h6 := Int.emod_nonneg a h0
      have hw : wrap64 (a.tmod b + b) = a % b := by rw [hq]; exact IntWalk.wrap64_in _ ⟨by omega, by omega⟩
      have HW := Lib.hid hw
      clear hw hq h5 h6
      go_enter Try.func12, Try.ntmps12
      go_wp2
      go_ret
      exact ⟨ret_i64 HW.out, rfl⟩
    · have hm' : 0 ≤ a.tmod b := by omega
      have hq := (div_pos a b (by omega) hm').2
      have HW := Lib.hid hq
      clear hq hm
      go_enter Try.func12, Try.ntmps12
      go_wp2
      go_ret
      exact ⟨ret_i64 HW.out, rfl⟩
theorem size_any (n : Int) (w : World) (hn : I64 n) : Calls Try.prog 33 #[.int .i64 n] w fun e w' => e = .returned (.int .u64 n.natAbs) ∧ w = w' := by
  obtain ⟨h1, h2⟩ := hn
  by_cases h : n < 0
  · have e1 : IntKind.u64.wrap (-IntKind.u64.wrap n) = (n.natAbs : Int) := by rw [IntKind.wrap_u64, IntKind.wrap_u64]; omega
    have HE := Lib.hid e1
    clear e1
    go_enter Try.func33, Try.ntmps33
    go_wp2
    go_ret
    exact ⟨ret_u64 HE.out, rfl⟩
  · have h0 : 0 ≤ n := by omega
    have e1 : n = (n.natAbs : Int) := by omega
    have HE := Lib.hid e1
    clear e1
    go_enter Try.func33, Try.ntmps33
    go_wp2
    go_ret
    exact ⟨ret_u64 HE.out, rfl⟩
theorem gcd1_any (g : Nat) (n : Int) (w : World) (hg : g ≤ 18446744073709551615) (hn : I64 n) : Calls Try.prog 32 #[.int .u64 g, .int .i64 n] w fun e w' => e = .returned (.tuple #[.int .u64 (Nat.gcd g n.natAbs), .bool true]) ∧ ∃ k, w' = w.drewN k := by
  have hn' : n.natAbs ≤ 18446744073709551615 := by unfold I64 at hn; omega
  go_enter Try.func32, Try.ntmps32
  go_wp2_with (go_at_call 33; refine (size_any _ _ hn).mono ?_; rintro e w' ⟨rfl, rfl⟩)
  go_loopw [0, 6] (fun x y wr => ∃ a b : Nat, x = .int .u64 a ∧ y = .int .u64 b ∧ a ≤ 18446744073709551615 ∧ b ≤ 18446744073709551615 ∧ Hid (Nat.gcd a b = Nat.gcd g n.natAbs) ∧ ∃ k, wr = w.drewN k) (fun _ y _ => (intOf y).toNat)
  case atStart => exact ⟨g, n.natAbs, rfl, rfl, hg, hn', Lib.hid rfl, 0, rfl⟩
  case round =>
    obtain ⟨a, b, rfl, rfl, ha, hb, HG, k, rfl⟩ := hrel
    by_cases h : b = 0
    · subst h
      go_wp2
      go_ret2
      exact ⟨by rw [← HG.out]; simp, k, rfl⟩
    · have hpos : 0 < b := by omega
      have hb0 : ((b : Int) != 0) = true := by simp; omega
      have h2 : ¬ (b : Int) = 0 := by omega
      have hm := Nat.mod_lt a hpos
      go_wp2
      go_quiet (fail)
      go_wp2
      go_roundw
      case rel => exact ⟨b, a % b, rfl, by simp, hb, by omega, Lib.hid (by rw [← HG.out, Nat.gcd_comm a b, Nat.gcd_rec b a, Nat.gcd_comm]), _, World.drewN_drewN _ _ _⟩
      case measure => simp [intOf]; omega

def gcdL (zs : List Int) : Nat := zs.foldl (fun g n => Nat.gcd g n.natAbs) 0
theorem gcdL_step (zs : List Int) (k : Nat) (hk : k < zs.length) : gcdL (zs.take (k + 1)) = Nat.gcd (gcdL (zs.take k)) (zs[k]?.getD 0).natAbs := by
  unfold gcdL
  rw [List.take_add_one, List.foldl_append]
  simp [List.getElem?_eq_getElem hk]
theorem gcd_le (a b : Nat) (ha : a ≤ 18446744073709551615) (hb : b ≤ 18446744073709551615) : Nat.gcd a b ≤ 18446744073709551615 := by
  by_cases h : a = 0
  · subst h; simpa using hb
  · exact Nat.le_trans (Nat.gcd_le_left b (by omega)) ha
theorem gcdL_le (zs : List Int) (hz : ∀ z ∈ zs, I64 z) : gcdL zs ≤ 18446744073709551615 := by
  unfold gcdL
  suffices h : ∀ (l : List Int) (g : Nat), (∀ z ∈ l, I64 z) → g ≤ 18446744073709551615 → l.foldl (fun g n => Nat.gcd g n.natAbs) g ≤ 18446744073709551615 from h zs 0 hz (by omega)
  intro l
  induction l with
  | nil => intro g _ h; exact h
  | cons z l ih =>
    intro g h1 h2
    refine ih _ (fun y hy => h1 y (List.mem_cons_of_mem _ hy)) (gcd_le _ _ h2 ?_)
    have := h1 z (List.mem_cons_self ..)
    unfold I64 at this; omega
theorem fold_u (A : Option Addr) (zs : List Int) (c : Nat) (w : World) (hl : zs.length ≤ 9223372036854775807) (hz : ∀ z ∈ zs, I64 z) (hc : Ints .i64 w A zs) :
    Calls Try.prog 31 #[.int .u64 0, .slice A zs.length c, .func (.func 32) #[] #[]] w fun e w' => e = .returned (.tuple #[.int .u64 (gcdL zs), .bool true]) ∧ ∃ k, w' = w.drewN k := by
  go_enter Try.func31, Try.ntmps31
  go_wp2
  go_loopw [9, 17] (fun x i wr => ∃ k : Nat, k ≤ zs.length ∧ i = .int .i64 k ∧ x = .int .u64 (gcdL (zs.take k)) ∧ ∃ m, wr = w.drewN m) (fun _ i _ => zs.length - (intOf i).toNat)
  case atStart => exact ⟨0, Nat.zero_le _, rfl, rfl, 0, rfl⟩
  case round =>
    obtain ⟨k, hk, rfl, rfl, m, rfl⟩ := hrel
    by_cases hlt : k < zs.length
    · obtain ⟨b, off, rfl, hb, hcell⟩ := hc k hlt
      have hzk := getD_mem hz hlt
      have hg := gcdL_le (zs.take k) (fun z h => hz z (List.mem_of_mem_take h))
      have hs := gcdL_step zs k hlt
      have hcell' : (w.drewN m).cell? ⟨b, off + k, none⟩ = some (.int .i64 (zs[k]?.getD 0)) := hcell
      obtain ⟨x, hx⟩ : ∃ x, x = zs[k]?.getD 0 := ⟨_, rfl⟩
      rw [← hx] at hzk hs hcell'
      have HS := Lib.hid hs
      clear hx hs hcell hc hz
      go_wp2_with (go_at_call 32; refine (gcd1_any _ _ _ hg hzk).mono ?_; rintro e w' ⟨rfl, m1, rfl⟩)
      go_roundw
      case rel => exact ⟨k + 1, by omega, by go_num, by rw [HS.out], _, rfl⟩
      case measure => simp [intOf]; omega
    · have HK : Hid (zs.take k = zs) := Lib.hid (List.take_of_length_le (by omega))
      go_wp2
      go_ret2
      exact ⟨ret_u64b (by rw [HK.out]), m, rfl⟩

theorem gcd_any (A : Option Addr) (n : Nat) (zs : List Int) (c : Nat) (w : World) (hn : n = zs.length) (hl : zs.length ≤ 9223372036854775807) (hz : ∀ z ∈ zs, I64 z) (hc : Ints .i64 w A zs) :
    Calls Try.prog 18 #[.slice A n c] w fun e w' => e = .returned (.int .u64 (gcdL zs)) ∧ ∃ k, w' = w.drewN k := by
  subst hn
  go_enter Try.func18, Try.ntmps18
  go_wp2_with (go_at_call 31; refine (fold_u _ _ _ _ hl hz hc).mono ?_; rintro e w' ⟨rfl, m1, rfl⟩)
  go_ret
  exact ⟨rfl, _, rfl⟩
end Go.Proofs.Ytpeoefncpjklbaa
