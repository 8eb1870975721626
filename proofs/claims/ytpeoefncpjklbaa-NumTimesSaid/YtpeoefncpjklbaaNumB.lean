/- Contracts of Held, Sum and Times of package num (layer 1). -/
import Derived.Test.YtpeoefncpjklbaaNum
import Derived.Test.YtpeoefncpjklbaaShelf
namespace Go.Proofs.Ytpeoefncpjklbaa
open Go.RowKit

def heldI (a lo hi : Int) : Int := if hi < (if a < lo then lo else a) then hi else (if a < lo then lo else a)
theorem held_any (a lo hi : Int) (w : World)  : Calls Try.prog 14 #[.int .i64 a, .int .i64 lo, .int .i64 hi] w fun e w' => e = .returned (.int .i64 (heldI a lo hi)) ∧ w = w' := by
  by_cases h1 : a < lo
  · by_cases h2 : hi < lo
    · have HE := Lib.hid (show hi = heldI a lo hi by unfold heldI; rw [if_pos h1, if_pos h2])
      go_enter Try.func14, Try.ntmps14
      go_wp2
      go_ret
      exact ⟨ret_i64 HE.out, rfl⟩
    · have HE := Lib.hid (show lo = heldI a lo hi by unfold heldI; rw [if_pos h1, if_neg h2])
      go_enter Try.func14, Try.ntmps14
      go_wp2
      go_ret
      exact ⟨ret_i64 HE.out, rfl⟩
  · by_cases h2 : hi < a
    · have HE := Lib.hid (show hi = heldI a lo hi by unfold heldI; rw [if_neg h1, if_pos h2])
      go_enter Try.func14, Try.ntmps14
      go_wp2
      go_ret
      exact ⟨ret_i64 HE.out, rfl⟩
    · have HE := Lib.hid (show a = heldI a lo hi by unfold heldI; rw [if_neg h1, if_neg h2])
      go_enter Try.func14, Try.ntmps14
      go_wp2
      go_ret
      exact ⟨ret_i64 HE.out, rfl⟩

theorem sum1_ok (a b : Int) (w : World) (ha : I64 a) (hb : I64 b) (hc : I64 (a + b)) : Calls Try.prog 30 #[.int .i64 a, .int .i64 b] w fun e w' => e = .returned (.tuple #[.int .i64 (a + b), .bool true]) ∧ w = w' := by
  obtain ⟨ha1, ha2⟩ := ha
  obtain ⟨hb1, hb2⟩ := hb
  obtain ⟨hc1, hc2⟩ := hc
  by_cases h : 0 < b
  · have h2 : a < a + b := by omega
    have h3 : (decide (a < a + b) == decide (0 < b)) = true := by rw [decide_eq_true h, decide_eq_true h2]; rfl
    go_enter Try.func30, Try.ntmps30
    go_wp2
    go_ret2
    exact ⟨rfl, rfl⟩
  · have h2 : ¬ a < a + b := by omega
    go_enter Try.func30, Try.ntmps30
    go_wp2
    go_ret2
    exact ⟨rfl, rfl⟩
theorem sum1_no (a b : Int) (w : World) (ha : I64 a) (hb : I64 b) (hc : ¬ I64 (a + b)) : Calls Try.prog 30 #[.int .i64 a, .int .i64 b] w fun e w' => (∃ c, e = .returned (.tuple #[.int .i64 c, .bool false])) ∧ w = w' := by
  unfold I64 at ha hb hc
  obtain ⟨ha1, ha2⟩ := ha
  obtain ⟨hb1, hb2⟩ := hb
  have hw : ∃ c, wrap64 (a + b) = c := ⟨_, rfl⟩
  obtain ⟨c, hw⟩ := hw
  have hc' : (0 < b ∧ ¬ a < c) ∨ (¬ 0 < b ∧ a < c) := by
    unfold wrap64 at hw; omega
  clear hc
  rcases hc' with ⟨h, h2⟩ | ⟨h, h2⟩
  · go_enter Try.func30, Try.ntmps30
    go_wp2
    go_ret2
    exact ⟨⟨_, rfl⟩, rfl⟩
  · go_enter Try.func30, Try.ntmps30
    go_wp2
    go_ret2
    exact ⟨⟨_, rfl⟩, rfl⟩

instance (a : Int) : Decidable (I64 a) := by unfold I64; infer_instance
def sumO (zs : List Int) : Option Int := zs.foldlM (fun a b => if I64 (a + b) then some (a + b) else none) 0
theorem sumO_step (zs : List Int) (k : Nat) (hk : k < zs.length) (s : Int) (h : sumO (zs.take k) = some s) : sumO (zs.take (k + 1)) = if I64 (s + zs[k]?.getD 0) then some (s + zs[k]?.getD 0) else none := by
  unfold sumO at h ⊢
  rw [List.take_add_one, List.foldlM_append, h]
  simp only [List.getElem?_eq_getElem hk, Option.toList_some, Option.getD_some, Option.bind_eq_bind, Option.bind_some]
  simp only [List.foldlM_cons, List.foldlM_nil]
  split <;> rfl
theorem sumO_none (zs : List Int) (k : Nat) (h : sumO (zs.take k) = none) : sumO zs = none := by
  unfold sumO at h ⊢
  rw [← List.take_append_drop k zs, List.foldlM_append, h]
  rfl
def sumV (zs : List Int) : Value := match sumO zs with
  | some s => .tuple #[.int .i64 s, .bool true]
  | none => .tuple #[.int .i64 0, .bool false]
theorem sumV_some {zs : List Int} {s : Int} (h : sumO zs = some s) : sumV zs = .tuple #[.int .i64 s, .bool true] := by unfold sumV; rw [h]
theorem sumV_none {zs : List Int} (h : sumO zs = none) : sumV zs = .tuple #[.int .i64 0, .bool false] := by unfold sumV; rw [h]
theorem ret_val {a b : Value} (h : a = b) : Ending.returned a = .returned b := by rw [h]
theorem fold_i (A : Option Addr) (zs : List Int) (c : Nat) (w : World) (hl : zs.length ≤ 9223372036854775807) (hz : ∀ z ∈ zs, I64 z) (hc : Ints .i64 w A zs) :
    Calls Try.prog 29 #[.int .i64 0, .slice A zs.length c, .func (.func 30) #[] #[]] w fun e w' => e = .returned (sumV zs) ∧ w = w' := by
  go_enter Try.func29, Try.ntmps29
  go_wp2
  go_loop [9, 17] (fun x i => ∃ (k : Nat) (s : Int), k ≤ zs.length ∧ i = .int .i64 k ∧ x = .int .i64 s ∧ I64 s ∧ Hid (sumO (zs.take k) = some s)) (fun _ i => zs.length - (intOf i).toNat)
  case atStart => exact ⟨0, 0, Nat.zero_le _, rfl, rfl, by unfold I64; omega, Lib.hid rfl⟩
  case round =>
    obtain ⟨k, s, hk, rfl, rfl, hs, HS⟩ := hrel
    by_cases hlt : k < zs.length
    · obtain ⟨b, off, rfl, hb, hcell⟩ := hc k hlt
      have hzk := getD_mem hz hlt
      have hst := sumO_step zs k hlt s HS.out
      obtain ⟨x, hx⟩ : ∃ x, x = zs[k]?.getD 0 := ⟨_, rfl⟩
      rw [← hx] at hzk hst hcell
      clear hx hc hz
      by_cases hi : I64 (s + x)
      · rw [if_pos hi] at hst
        have HT := Lib.hid hst
        clear hst
        go_wp2_with (go_at_call 30; refine (sum1_ok _ _ _ hs hzk hi).mono ?_; rintro e w' ⟨rfl, rfl⟩)
        go_round
        case rel => exact ⟨k + 1, s + x, by omega, by go_num, rfl, hi, HT⟩
        case measure => simp [intOf]; omega
      · rw [if_neg hi] at hst
        have HT := Lib.hid (sumV_none (sumO_none zs _ hst))
        clear hst
        go_wp2_with (go_at_call 30; refine (sum1_no _ _ _ hs hzk hi).mono ?_; rintro e w' ⟨⟨c1, rfl⟩, rfl⟩)
        go_ret2
        exact ⟨ret_val HT.out.symm, rfl⟩
    · have HK := Lib.hid (sumV_some (by rw [← HS.out, List.take_of_length_le (by omega)]))
      go_wp2
      go_ret2
      exact ⟨ret_val HK.out.symm, rfl⟩
theorem sum_some (A : Option Addr) (n : Nat) (zs : List Int) (c : Nat) (s : Int) (w : World) (hn : n = zs.length) (hl : zs.length ≤ 9223372036854775807) (hz : ∀ z ∈ zs, I64 z) (hc : Ints .i64 w A zs) (h : sumO zs = some s) :
    Calls Try.prog 16 #[.slice A n c] w fun e w' => e = .returned (.tuple #[.int .i64 s, .bool true]) ∧ w = w' := by
  subst hn
  have hf : Calls Try.prog 29 #[.int .i64 0, .slice A zs.length c, .func (.func 30) #[] #[]] w fun e w' => e = .returned (.tuple #[.int .i64 s, .bool true]) ∧ w = w' := by
    rw [← sumV_some h]; exact fold_i A zs c w hl hz hc
  clear h
  go_enter Try.func16, Try.ntmps16
  go_wp2_with (go_at_call 29; refine hf.mono ?_; rintro e w' ⟨rfl, rfl⟩)
  go_ret2
  exact ⟨rfl, rfl⟩
theorem sum_none (A : Option Addr) (n : Nat) (zs : List Int) (c : Nat) (w : World) (hn : n = zs.length) (hl : zs.length ≤ 9223372036854775807) (hz : ∀ z ∈ zs, I64 z) (hc : Ints .i64 w A zs) (h : sumO zs = none) :
    Calls Try.prog 16 #[.slice A n c] w fun e w' => e = .returned (.tuple #[.int .i64 0, .bool false]) ∧ w = w' := by
  subst hn
  have hf : Calls Try.prog 29 #[.int .i64 0, .slice A zs.length c, .func (.func 30) #[] #[]] w fun e w' => e = .returned (.tuple #[.int .i64 0, .bool false]) ∧ w = w' := by
    rw [← sumV_none h]; exact fold_i A zs c w hl hz hc
  clear h
  go_enter Try.func16, Try.ntmps16
  go_wp2_with (go_at_call 29; refine hf.mono ?_; rintro e w' ⟨rfl, rfl⟩)
  go_ret2
  exact ⟨rfl, rfl⟩
theorem mul64_at (x y hi lo : Nat) (w : World) (hx : x ≤ 18446744073709551615) (hy : y ≤ 18446744073709551615) (h1 : x * y / 18446744073709551616 = hi) (h2 : x * y % 18446744073709551616 = lo) :
    Calls Try.prog 35 #[.int .u64 x, .int .u64 y] w fun e w' => e = .returned (.tuple #[.int .u64 hi, .int .u64 lo]) ∧ w = w' := by
  subst h1; subst h2
  exact (Try.bits_Mul64 x y (by omega) (by omega) w).mono fun _ _ ⟨h, h'⟩ => ⟨h, h'.symm⟩
theorem ret_ib {a b : Int} {x : Bool} (h : a = b) : Ending.returned (.tuple #[.int .i64 a, .bool x]) = .returned (.tuple #[.int .i64 b, .bool x]) := by rw [h]
theorem times_facts (a b : Int) : (a.natAbs * b.natAbs : Nat) = (a * b).natAbs := (Int.natAbs_mul a b).symm
theorem times_sign (a b : Int) : (a < 0 → b < 0 → 0 ≤ a * b) ∧ (a < 0 → ¬ b < 0 → a * b ≤ 0) ∧ (¬ a < 0 → b < 0 → a * b ≤ 0) ∧ (¬ a < 0 → ¬ b < 0 → 0 ≤ a * b) := by
  refine ⟨fun h k => ?_, fun h k => ?_, fun h k => ?_, fun h k => ?_⟩
  · exact Int.le_of_lt (Int.mul_pos_of_neg_of_neg h k)
  · exact Int.mul_nonpos_of_nonpos_of_nonneg (by omega) (by omega)
  · exact Int.mul_nonpos_of_nonneg_of_nonpos (by omega) (by omega)
  · exact Int.mul_nonneg (by omega) (by omega)
theorem times_ok (a b p : Int) (w : World) (ha : I64 a) (hb : I64 b) (hp : p = a * b) (hi : I64 p) :
    Calls Try.prog 20 #[.int .i64 a, .int .i64 b] w fun e w' => e = .returned (.tuple #[.int .i64 p, .bool true]) ∧ w = w' := by
  have hs := times_sign a b
  have hf := times_facts a b
  rw [← hp] at hs hf
  have hi' := hi
  unfold I64 at hi'
  have hx : a.natAbs ≤ 18446744073709551615 := by unfold I64 at ha; omega
  have hy : b.natAbs ≤ 18446744073709551615 := by unfold I64 at hb; omega
  obtain ⟨L, hL⟩ : ∃ L : Nat, L = p.natAbs := ⟨_, rfl⟩
  have hm1 : a.natAbs * b.natAbs / 18446744073709551616 = 0 := by rw [hf]; omega
  have hm2 : a.natAbs * b.natAbs % 18446744073709551616 = L := by rw [hf]; omega
  have HM := Lib.hid hm1
  have HM2 := Lib.hid hm2
  clear hm1 hm2 hf
  by_cases h1 : a < 0
  · by_cases h2 : b < 0
    · have h3 : p = (L : Int) := by have := hs.1 h1 h2; omega
      have h4 : (L : Int) ≤ 9223372036854775807 := by omega
      have HP := Lib.hid h3.symm
      clear hs hL h3 hi' hi hp
      have hd1 : decide (a < 0) = true := by simp [h1]
      have hd2 : decide (b < 0) = true := by simp [h2]
      go_enter Try.func20, Try.ntmps20
      go_wp2_with (first | (go_at_call 33; refine (size_any _ _ (by assumption)).mono ?_; rintro e w' ⟨rfl, rfl⟩) | (go_at_call 35; refine (mul64_at _ _ _ _ _ hx hy HM.out HM2.out).mono ?_; rintro e w' ⟨rfl, rfl⟩))
      go_ret2
      exact ⟨ret_ib HP.out, rfl⟩
    · have h3 : p = -(L : Int) := by have := hs.2.1 h1 h2; omega
      have h4 : (L : Int) ≤ 9223372036854775808 := by omega
      have h5 : wrap64 (IntKind.u64.wrap (-(L : Int))) = p := by rw [IntKind.wrap_u64, h3]; unfold wrap64; omega
      have HP := Lib.hid h5
      clear hs hL h3 hi' hi hp h5
      have hd1 : decide (a < 0) = true := by simp [h1]
      have hd2 : decide (b < 0) = false := by simp [h2]
      go_enter Try.func20, Try.ntmps20
      go_wp2_with (first | (go_at_call 33; refine (size_any _ _ (by assumption)).mono ?_; rintro e w' ⟨rfl, rfl⟩) | (go_at_call 35; refine (mul64_at _ _ _ _ _ hx hy HM.out HM2.out).mono ?_; rintro e w' ⟨rfl, rfl⟩))
      go_ret2
      exact ⟨ret_ib HP.out, rfl⟩
  · by_cases h2 : b < 0
    · have h3 : p = -(L : Int) := by have := hs.2.2.1 h1 h2; omega
      have h4 : (L : Int) ≤ 9223372036854775808 := by omega
      have h5 : wrap64 (IntKind.u64.wrap (-(L : Int))) = p := by rw [IntKind.wrap_u64, h3]; unfold wrap64; omega
      have HP := Lib.hid h5
      clear hs hL h3 hi' hi hp h5
      have hd1 : decide (a < 0) = false := by simp [h1]
      have hd2 : decide (b < 0) = true := by simp [h2]
      go_enter Try.func20, Try.ntmps20
      go_wp2_with (first | (go_at_call 33; refine (size_any _ _ (by assumption)).mono ?_; rintro e w' ⟨rfl, rfl⟩) | (go_at_call 35; refine (mul64_at _ _ _ _ _ hx hy HM.out HM2.out).mono ?_; rintro e w' ⟨rfl, rfl⟩))
      go_ret2
      exact ⟨ret_ib HP.out, rfl⟩
    · have h3 : p = (L : Int) := by have := hs.2.2.2 h1 h2; omega
      have h4 : (L : Int) ≤ 9223372036854775807 := by omega
      have HP := Lib.hid h3.symm
      clear hs hL h3 hi' hi hp
      have hd1 : decide (a < 0) = false := by simp [h1]
      have hd2 : decide (b < 0) = false := by simp [h2]
      go_enter Try.func20, Try.ntmps20
      go_wp2_with (first | (go_at_call 33; refine (size_any _ _ (by assumption)).mono ?_; rintro e w' ⟨rfl, rfl⟩) | (go_at_call 35; refine (mul64_at _ _ _ _ _ hx hy HM.out HM2.out).mono ?_; rintro e w' ⟨rfl, rfl⟩))
      go_ret2
      exact ⟨ret_ib HP.out, rfl⟩

theorem times_no (a b : Int) (w : World) (ha : I64 a) (hb : I64 b) (hi : ¬ I64 (a * b)) :
    Calls Try.prog 20 #[.int .i64 a, .int .i64 b] w fun e w' => e = .returned (.tuple #[.int .i64 0, .bool false]) ∧ w = w' := by
  have hs := times_sign a b
  have hf := times_facts a b
  obtain ⟨p, hp⟩ : ∃ p, p = a * b := ⟨_, rfl⟩
  rw [← hp] at hs hf hi
  unfold I64 at hi
  have hx : a.natAbs ≤ 18446744073709551615 := by unfold I64 at ha; omega
  have hy : b.natAbs ≤ 18446744073709551615 := by unfold I64 at hb; omega
  obtain ⟨K, hK⟩ : ∃ K : Nat, K = p.natAbs / 18446744073709551616 := ⟨_, rfl⟩
  obtain ⟨L, hL⟩ : ∃ L : Nat, L = p.natAbs % 18446744073709551616 := ⟨_, rfl⟩
  have HM := Lib.hid (show a.natAbs * b.natAbs / 18446744073709551616 = K by rw [hf, hK])
  have HM2 := Lib.hid (show a.natAbs * b.natAbs % 18446744073709551616 = L by rw [hf, hL])
  by_cases hk : K = 0
  · subst hk
    by_cases h1 : a < 0
    · by_cases h2 : b < 0
      · have h3 : ¬ (L : Int) ≤ 9223372036854775807 := by have := hs.1 h1 h2; omega
        clear hs hL hK hi hp hf
        have hd1 : decide (a < 0) = true := by simp [h1]
        have hd2 : decide (b < 0) = true := by simp [h2]
        go_enter Try.func20, Try.ntmps20
        go_wp2_with (first | (go_at_call 33; refine (size_any _ _ (by assumption)).mono ?_; rintro e w' ⟨rfl, rfl⟩) | (go_at_call 35; refine (mul64_at _ _ _ _ _ hx hy HM.out HM2.out).mono ?_; rintro e w' ⟨rfl, rfl⟩))
        go_ret2
        exact ⟨rfl, rfl⟩
      · have h3 : ¬ (L : Int) ≤ 9223372036854775808 := by have := hs.2.1 h1 h2; omega
        have h4 : ¬ (L : Int) ≤ 9223372036854775807 := by omega
        clear hs hL hK hi hp hf
        have hd1 : decide (a < 0) = true := by simp [h1]
        have hd2 : decide (b < 0) = false := by simp [h2]
        go_enter Try.func20, Try.ntmps20
        go_wp2_with (first | (go_at_call 33; refine (size_any _ _ (by assumption)).mono ?_; rintro e w' ⟨rfl, rfl⟩) | (go_at_call 35; refine (mul64_at _ _ _ _ _ hx hy HM.out HM2.out).mono ?_; rintro e w' ⟨rfl, rfl⟩))
        go_ret2
        exact ⟨rfl, rfl⟩
    · by_cases h2 : b < 0
      · have h3 : ¬ (L : Int) ≤ 9223372036854775808 := by have := hs.2.2.1 h1 h2; omega
        have h4 : ¬ (L : Int) ≤ 9223372036854775807 := by omega
        clear hs hL hK hi hp hf
        have hd1 : decide (a < 0) = false := by simp [h1]
        have hd2 : decide (b < 0) = true := by simp [h2]
        go_enter Try.func20, Try.ntmps20
        go_wp2_with (first | (go_at_call 33; refine (size_any _ _ (by assumption)).mono ?_; rintro e w' ⟨rfl, rfl⟩) | (go_at_call 35; refine (mul64_at _ _ _ _ _ hx hy HM.out HM2.out).mono ?_; rintro e w' ⟨rfl, rfl⟩))
        go_ret2
        exact ⟨rfl, rfl⟩
      · have h3 : ¬ (L : Int) ≤ 9223372036854775807 := by have := hs.2.2.2 h1 h2; omega
        clear hs hL hK hi hp hf
        have hd1 : decide (a < 0) = false := by simp [h1]
        have hd2 : decide (b < 0) = false := by simp [h2]
        go_enter Try.func20, Try.ntmps20
        go_wp2_with (first | (go_at_call 33; refine (size_any _ _ (by assumption)).mono ?_; rintro e w' ⟨rfl, rfl⟩) | (go_at_call 35; refine (mul64_at _ _ _ _ _ hx hy HM.out HM2.out).mono ?_; rintro e w' ⟨rfl, rfl⟩))
        go_ret2
        exact ⟨rfl, rfl⟩
  · have h3 : ((K : Int) != 0) = true := by simp; omega
    have h4 : ¬ (K : Int) = 0 := by omega
    clear hs hL hK hi hp hf
    by_cases h1 : a < 0
    · by_cases h2 : b < 0
      · have hd1 : decide (a < 0) = true := by simp [h1]
        have hd2 : decide (b < 0) = true := by simp [h2]
        go_enter Try.func20, Try.ntmps20
        go_wp2_with (first | (go_at_call 33; refine (size_any _ _ (by assumption)).mono ?_; rintro e w' ⟨rfl, rfl⟩) | (go_at_call 35; refine (mul64_at _ _ _ _ _ hx hy HM.out HM2.out).mono ?_; rintro e w' ⟨rfl, rfl⟩))
        go_ret2
        exact ⟨rfl, rfl⟩
      · have hd1 : decide (a < 0) = true := by simp [h1]
        have hd2 : decide (b < 0) = false := by simp [h2]
        go_enter Try.func20, Try.ntmps20
        go_wp2_with (first | (go_at_call 33; refine (size_any _ _ (by assumption)).mono ?_; rintro e w' ⟨rfl, rfl⟩) | (go_at_call 35; refine (mul64_at _ _ _ _ _ hx hy HM.out HM2.out).mono ?_; rintro e w' ⟨rfl, rfl⟩))
        go_ret2
        exact ⟨rfl, rfl⟩
    · by_cases h2 : b < 0
      · have hd1 : decide (a < 0) = false := by simp [h1]
        have hd2 : decide (b < 0) = true := by simp [h2]
        go_enter Try.func20, Try.ntmps20
        go_wp2_with (first | (go_at_call 33; refine (size_any _ _ (by assumption)).mono ?_; rintro e w' ⟨rfl, rfl⟩) | (go_at_call 35; refine (mul64_at _ _ _ _ _ hx hy HM.out HM2.out).mono ?_; rintro e w' ⟨rfl, rfl⟩))
        go_ret2
        exact ⟨rfl, rfl⟩
      · have hd1 : decide (a < 0) = false := by simp [h1]
        have hd2 : decide (b < 0) = false := by simp [h2]
        go_enter Try.func20, Try.ntmps20
        go_wp2_with (first | (go_at_call 33; refine (size_any _ _ (by assumption)).mono ?_; rintro e w' ⟨rfl, rfl⟩) | (go_at_call 35; refine (mul64_at _ _ _ _ _ hx hy HM.out HM2.out).mono ?_; rintro e w' ⟨rfl, rfl⟩))
        go_ret2
        exact ⟨rfl, rfl⟩
end Go.Proofs.Ytpeoefncpjklbaa
