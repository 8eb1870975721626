/- The greatest number that divides all, and a number so often (layer 1), in a namespace of their own. -/
import Derived.Test.YtjdoknbmnokkdaaDoorKit
import Derived.Test.YtjdoknbmnokkdaaDoorShelf
namespace Go.Proofs.YtjdoknbmnokkdaaDoor.Nm
open Go.RowKit
set_option linter.unusedVariables false
theorem size_any (n : Int) (w : World) (hn : I64 n) : Calls Tryd.prog 144 #[.int .i64 n] w fun e w' => e = .returned (.int .u64 n.natAbs) ∧ w = w' := by
  obtain ⟨h1, h2⟩ := hn
  by_cases h : n < 0
  · have e1 : IntKind.u64.wrap (-IntKind.u64.wrap n) = (n.natAbs : Int) := by rw [IntKind.wrap_u64, IntKind.wrap_u64]; omega
    have HE := Lib.hid e1
    clear e1
    go_enter Tryd.func144, Tryd.ntmps144
    go_wp2
    go_ret
    exact ⟨ret_u64 HE.out, rfl⟩
  · have h0 : 0 ≤ n := by omega
    have e1 : n = (n.natAbs : Int) := by omega
    have HE := Lib.hid e1
    clear e1
    go_enter Tryd.func144, Tryd.ntmps144
    go_wp2
    go_ret
    exact ⟨ret_u64 HE.out, rfl⟩
theorem gcd1_any (g : Nat) (n : Int) (w : World) (hg : g ≤ 18446744073709551615) (hn : I64 n) : Calls Tryd.prog 143 #[.int .u64 g, .int .i64 n] w fun e w' => e = .returned (.tuple #[.int .u64 (Nat.gcd g n.natAbs), .bool true]) ∧ ∃ k, w' = w.drewN k := by
  have hn' : n.natAbs ≤ 18446744073709551615 := by unfold I64 at hn; omega
  go_enter Tryd.func143, Tryd.ntmps143
  go_wp2_with (go_at_call 144; refine (size_any _ _ hn).mono ?_; rintro e w' ⟨rfl, rfl⟩)
  go_loopw [0, 6] (fun x y wr => ∃ a b : Nat, x = .int .u64 a ∧ y = .int .u64 b ∧ a ≤ 18446744073709551615 ∧ b ≤ 18446744073709551615 ∧ Hid (Nat.gcd a b = Nat.gcd g n.natAbs) ∧ ∃ k, wr = w.drewN k) (fun _ y _ => (intOf y).toNat)
  case atStart => exact ⟨g, n.natAbs, rfl, rfl, hg, hn', Lib.hid rfl, 0, rfl⟩
  case round =>
    obtain ⟨a, b, rfl, rfl, ha, hb, HG, k, rfl⟩ := hrel
    by_cases h : b = 0
    · subst h
      go_wp2
      go_ret2
      exact ⟨by rw [← HG.out]; simp, k, rfl⟩
    · have hpos : 0 < b := by omega
      have hb0 : ((b : Int) != 0) = true := by simp; omega
      have h2 : ¬ (b : Int) = 0 := by omega
      have hm := Nat.mod_lt a hpos
      go_wp2
      go_quiet (fail)
      go_wp2
      go_roundw
      case rel => exact ⟨b, a % b, rfl, by simp, hb, by omega, Lib.hid (by rw [← HG.out, Nat.gcd_comm a b, Nat.gcd_rec b a, Nat.gcd_comm]), _, World.drewN_drewN _ _ _⟩
      case measure => simp [intOf]; omega

def gcdL (zs : List Int) : Nat := zs.foldl (fun g n => Nat.gcd g n.natAbs) 0
theorem gcdL_step (zs : List Int) (k : Nat) (hk : k < zs.length) : gcdL (zs.take (k + 1)) = Nat.gcd (gcdL (zs.take k)) (zs[k]?.getD 0).natAbs := by
  unfold gcdL
  rw [List.take_add_one, List.foldl_append]
  simp [List.getElem?_eq_getElem hk]
theorem gcd_le (a b : Nat) (ha : a ≤ 18446744073709551615) (hb : b ≤ 18446744073709551615) : Nat.gcd a b ≤ 18446744073709551615 := by
  by_cases h : a = 0
  · subst h; simpa using hb
  · exact Nat.le_trans (Nat.gcd_le_left b (by omega)) ha
theorem gcdL_le (zs : List Int) (hz : ∀ z ∈ zs, I64 z) : gcdL zs ≤ 18446744073709551615 := by
  unfold gcdL
  suffices h : ∀ (l : List Int) (g : Nat), (∀ z ∈ l, I64 z) → g ≤ 18446744073709551615 → l.foldl (fun g n => Nat.gcd g n.natAbs) g ≤ 18446744073709551615 from h zs 0 hz (by omega)
  intro l
  induction l with
  | nil => intro g _ h; exact h
  | cons z l ih =>
    intro g h1 h2
    refine ih _ (fun y hy => h1 y (List.mem_cons_of_mem _ hy)) (gcd_le _ _ h2 ?_)
    have := h1 z (List.mem_cons_self ..)
    unfold I64 at this; omega
theorem fold_u (A : Option Addr) (zs : List Int) (c : Nat) (w : World) (hl : zs.length ≤ 9223372036854775807) (hz : ∀ z ∈ zs, I64 z) (hc : Ints .i64 w A zs) :
    Calls Tryd.prog 142 #[.int .u64 0, .slice A zs.length c, .func (.func 143) #[] #[]] w fun e w' => e = .returned (.tuple #[.int .u64 (gcdL zs), .bool true]) ∧ ∃ k, w' = w.drewN k := by
  go_enter Tryd.func142, Tryd.ntmps142
  go_wp2
  go_loopw [9, 17] (fun x i wr => ∃ k : Nat, k ≤ zs.length ∧ i = .int .i64 k ∧ x = .int .u64 (gcdL (zs.take k)) ∧ ∃ m, wr = w.drewN m) (fun _ i _ => zs.length - (intOf i).toNat)
  case atStart => exact ⟨0, Nat.zero_le _, rfl, rfl, 0, rfl⟩
  case round =>
    obtain ⟨k, hk, rfl, rfl, m, rfl⟩ := hrel
    by_cases hlt : k < zs.length
    · obtain ⟨b, off, rfl, hb, hcell⟩ := hc k hlt
      have hzk := getD_mem hz hlt
      have hg := gcdL_le (zs.take k) (fun z h => hz z (List.mem_of_mem_take h))
      have hs := gcdL_step zs k hlt
      have hcell' : (w.drewN m).cell? ⟨b, off + k, none⟩ = some (.int .i64 (zs[k]?.getD 0)) := hcell
      obtain ⟨x, hx⟩ : ∃ x, x = zs[k]?.getD 0 := ⟨_, rfl⟩
      rw [← hx] at hzk hs hcell'
      have HS := Lib.hid hs
      clear hx hs hcell hc hz
      go_wp2_with (go_at_call 143; refine (gcd1_any _ _ _ hg hzk).mono ?_; rintro e w' ⟨rfl, m1, rfl⟩)
      go_roundw
      case rel => exact ⟨k + 1, by omega, by go_num, by rw [HS.out], _, rfl⟩
      case measure => simp [intOf]; omega
    · have HK : Hid (zs.take k = zs) := Lib.hid (List.take_of_length_le (by omega))
      go_wp2
      go_ret2
      exact ⟨ret_u64b (by rw [HK.out]), m, rfl⟩

theorem gcd_any (A : Option Addr) (n : Nat) (zs : List Int) (c : Nat) (w : World) (hn : n = zs.length) (hl : zs.length ≤ 9223372036854775807) (hz : ∀ z ∈ zs, I64 z) (hc : Ints .i64 w A zs) :
    Calls Tryd.prog 113 #[.slice A n c] w fun e w' => e = .returned (.int .u64 (gcdL zs)) ∧ ∃ k, w' = w.drewN k := by
  subst hn
  go_enter Tryd.func113, Tryd.ntmps113
  go_wp2_with (go_at_call 142; refine (fold_u _ _ _ _ hl hz hc).mono ?_; rintro e w' ⟨rfl, m1, rfl⟩)
  go_ret
  exact ⟨rfl, _, rfl⟩
theorem ret_val {a b : Value} (h : a = b) : Ending.returned a = .returned b := by rw [h]
theorem mul64_at (x y hi lo : Nat) (w : World) (hx : x ≤ 18446744073709551615) (hy : y ≤ 18446744073709551615) (h1 : x * y / 18446744073709551616 = hi) (h2 : x * y % 18446744073709551616 = lo) :
    Calls Tryd.prog 145 #[.int .u64 x, .int .u64 y] w fun e w' => e = .returned (.tuple #[.int .u64 hi, .int .u64 lo]) ∧ w = w' := by
  subst h1; subst h2
  exact (Tryd.bits_Mul64 x y (by omega) (by omega) w).mono fun _ _ ⟨h, h'⟩ => ⟨h, h'.symm⟩
theorem ret_ib {a b : Int} {x : Bool} (h : a = b) : Ending.returned (.tuple #[.int .i64 a, .bool x]) = .returned (.tuple #[.int .i64 b, .bool x]) := by rw [h]
theorem times_facts (a b : Int) : (a.natAbs * b.natAbs : Nat) = (a * b).natAbs := (Int.natAbs_mul a b).symm
theorem times_sign (a b : Int) : (a < 0 → b < 0 → 0 ≤ a * b) ∧ (a < 0 → ¬ b < 0 → a * b ≤ 0) ∧ (¬ a < 0 → b < 0 → a * b ≤ 0) ∧ (¬ a < 0 → ¬ b < 0 → 0 ≤ a * b) := by
  refine ⟨fun h k => ?_, fun h k => ?_, fun h k => ?_, fun h k => ?_⟩
  · exact Int.le_of_lt (Int.mul_pos_of_neg_of_neg h k)
  · exact Int.mul_nonpos_of_nonpos_of_nonneg (by omega) (by omega)
  · exact Int.mul_nonpos_of_nonneg_of_nonpos (by omega) (by omega)
  · exact Int.mul_nonneg (by omega) (by omega)
theorem times_ok (a b p : Int) (w : World) (ha : I64 a) (hb : I64 b) (hp : p = a * b) (hi : I64 p) :
    Calls Tryd.prog 114 #[.int .i64 a, .int .i64 b] w fun e w' => e = .returned (.tuple #[.int .i64 p, .bool true]) ∧ w = w' := by
  have hs := times_sign a b
  have hf := times_facts a b
  rw [← hp] at hs hf
  have hi' := hi
  unfold I64 at hi'
  have hx : a.natAbs ≤ 18446744073709551615 := by unfold I64 at ha; omega
  have hy : b.natAbs ≤ 18446744073709551615 := by unfold I64 at hb; omega
  obtain ⟨L, hL⟩ : ∃ L : Nat, L = p.natAbs := ⟨_, rfl⟩
  have hm1 : a.natAbs * b.natAbs / 18446744073709551616 = 0 := by rw [hf]; omega
  have hm2 : a.natAbs * b.natAbs % 18446744073709551616 = L := by rw [hf]; omega
  have HM := Lib.hid hm1
  have HM2 := Lib.hid hm2
  clear hm1 hm2 hf
  by_cases h1 : a < 0
  · by_cases h2 : b < 0
    · have h3 : p = (L : Int) := by have := hs.1 h1 h2; omega
      have h4 : (L : Int) ≤ 9223372036854775807 := by omega
      have HP := Lib.hid h3.symm
      clear hs hL h3 hi' hi hp
      have hd1 : decide (a < 0) = true := by simp [h1]
      have hd2 : decide (b < 0) = true := by simp [h2]
      go_enter Tryd.func114, Tryd.ntmps114
      go_wp2_with (first | (go_at_call 144; refine (size_any _ _ (by assumption)).mono ?_; rintro e w' ⟨rfl, rfl⟩) | (go_at_call 145; refine (mul64_at _ _ _ _ _ hx hy HM.out HM2.out).mono ?_; rintro e w' ⟨rfl, rfl⟩))
      go_ret2
      exact ⟨ret_ib HP.out, rfl⟩
    · have h3 : p = -(L : Int) := by have := hs.2.1 h1 h2; omega
      have h4 : (L : Int) ≤ 9223372036854775808 := by omega
      have h5 : wrap64 (IntKind.u64.wrap (-(L : Int))) = p := by rw [IntKind.wrap_u64, h3]; unfold wrap64; omega
      have HP := Lib.hid h5
      clear hs hL h3 hi' hi hp h5
      have hd1 : decide (a < 0) = true := by simp [h1]
      have hd2 : decide (b < 0) = false := by simp [h2]
      go_enter Tryd.func114, Tryd.ntmps114
      go_wp2_with (first | (go_at_call 144; refine (size_any _ _ (by assumption)).mono ?_; rintro e w' ⟨rfl, rfl⟩) | (go_at_call 145; refine (mul64_at _ _ _ _ _ hx hy HM.out HM2.out).mono ?_; rintro e w' ⟨rfl, rfl⟩))
      go_ret2
      exact ⟨ret_ib HP.out, rfl⟩
  · by_cases h2 : b < 0
    · have h3 : p = -(L : Int) := by have := hs.2.2.1 h1 h2; omega
      have h4 : (L : Int) ≤ 9223372036854775808 := by omega
      have h5 : wrap64 (IntKind.u64.wrap (-(L : Int))) = p := by rw [IntKind.wrap_u64, h3]; unfold wrap64; omega
      have HP := Lib.hid h5
      clear hs hL h3 hi' hi hp h5
      have hd1 : decide (a < 0) = false := by simp [h1]
      have hd2 : decide (b < 0) = true := by simp [h2]
      go_enter Tryd.func114, Tryd.ntmps114
      go_wp2_with (first | (go_at_call 144; refine (size_any _ _ (by assumption)).mono ?_; rintro e w' ⟨rfl, rfl⟩) | (go_at_call 145; refine (mul64_at _ _ _ _ _ hx hy HM.out HM2.out).mono ?_; rintro e w' ⟨rfl, rfl⟩))
      go_ret2
      exact ⟨ret_ib HP.out, rfl⟩
    · have h3 : p = (L : Int) := by have := hs.2.2.2 h1 h2; omega
      have h4 : (L : Int) ≤ 9223372036854775807 := by omega
      have HP := Lib.hid h3.symm
      clear hs hL h3 hi' hi hp
      have hd1 : decide (a < 0) = false := by simp [h1]
      have hd2 : decide (b < 0) = false := by simp [h2]
      go_enter Tryd.func114, Tryd.ntmps114
      go_wp2_with (first | (go_at_call 144; refine (size_any _ _ (by assumption)).mono ?_; rintro e w' ⟨rfl, rfl⟩) | (go_at_call 145; refine (mul64_at _ _ _ _ _ hx hy HM.out HM2.out).mono ?_; rintro e w' ⟨rfl, rfl⟩))
      go_ret2
      exact ⟨ret_ib HP.out, rfl⟩

theorem times_no (a b : Int) (w : World) (ha : I64 a) (hb : I64 b) (hi : ¬ I64 (a * b)) :
    Calls Tryd.prog 114 #[.int .i64 a, .int .i64 b] w fun e w' => e = .returned (.tuple #[.int .i64 0, .bool false]) ∧ w = w' := by
  have hs := times_sign a b
  have hf := times_facts a b
  obtain ⟨p, hp⟩ : ∃ p, p = a * b := ⟨_, rfl⟩
  rw [← hp] at hs hf hi
  unfold I64 at hi
  have hx : a.natAbs ≤ 18446744073709551615 := by unfold I64 at ha; omega
  have hy : b.natAbs ≤ 18446744073709551615 := by unfold I64 at hb; omega
  obtain ⟨K, hK⟩ : ∃ K : Nat, K = p.natAbs / 18446744073709551616 := ⟨_, rfl⟩
  obtain ⟨L, hL⟩ : ∃ L : Nat, L = p.natAbs % 18446744073709551616 := ⟨_, rfl⟩
  have HM := Lib.hid (show a.natAbs * b.natAbs / 18446744073709551616 = K by rw [hf, hK])
  have HM2 := Lib.hid (show a.natAbs * b.natAbs % 18446744073709551616 = L by rw [hf, hL])
  by_cases hk : K = 0
  · subst hk
    by_cases h1 : a < 0
    · by_cases h2 : b < 0
      · have h3 : ¬ (L : Int) ≤ 9223372036854775807 := by have := hs.1 h1 h2; omega
        clear hs hL hK hi hp hf
        have hd1 : decide (a < 0) = true := by simp [h1]
        have hd2 : decide (b < 0) = true := by simp [h2]
        go_enter Tryd.func114, Tryd.ntmps114
        go_wp2_with (first | (go_at_call 144; refine (size_any _ _ (by assumption)).mono ?_; rintro e w' ⟨rfl, rfl⟩) | (go_at_call 145; refine (mul64_at _ _ _ _ _ hx hy HM.out HM2.out).mono ?_; rintro e w' ⟨rfl, rfl⟩))
        go_ret2
        exact ⟨rfl, rfl⟩
      · have h3 : ¬ (L : Int) ≤ 9223372036854775808 := by have := hs.2.1 h1 h2; omega
        have h4 : ¬ (L : Int) ≤ 9223372036854775807 := by omega
        clear hs hL hK hi hp hf
        have hd1 : decide (a < 0) = true := by simp [h1]
        have hd2 : decide (b < 0) = false := by simp [h2]
        go_enter Tryd.func114, Tryd.ntmps114
        go_wp2_with (first | (go_at_call 144; refine (size_any _ _ (by assumption)).mono ?_; rintro e w' ⟨rfl, rfl⟩) | (go_at_call 145; refine (mul64_at _ _ _ _ _ hx hy HM.out HM2.out).mono ?_; rintro e w' ⟨rfl, rfl⟩))
        go_ret2
        exact ⟨rfl, rfl⟩
    · by_cases h2 : b < 0
      · have h3 : ¬ (L : Int) ≤ 9223372036854775808 := by have := hs.2.2.1 h1 h2; omega
        have h4 : ¬ (L : Int) ≤ 9223372036854775807 := by omega
        clear hs hL hK hi hp hf
        have hd1 : decide (a < 0) = false := by simp [h1]
        have hd2 : decide (b < 0) = true := by simp [h2]
        go_enter Tryd.func114, Tryd.ntmps114
        go_wp2_with (first | (go_at_call 144; refine (size_any _ _ (by assumption)).mono ?_; rintro e w' ⟨rfl, rfl⟩) | (go_at_call 145; refine (mul64_at _ _ _ _ _ hx hy HM.out HM2.out).mono ?_; rintro e w' ⟨rfl, rfl⟩))
        go_ret2
        exact ⟨rfl, rfl⟩
      · have h3 : ¬ (L : Int) ≤ 9223372036854775807 := by have := hs.2.2.2 h1 h2; omega
        clear hs hL hK hi hp hf
        have hd1 : decide (a < 0) = false := by simp [h1]
        have hd2 : decide (b < 0) = false := by simp [h2]
        go_enter Tryd.func114, Tryd.ntmps114
        go_wp2_with (first | (go_at_call 144; refine (size_any _ _ (by assumption)).mono ?_; rintro e w' ⟨rfl, rfl⟩) | (go_at_call 145; refine (mul64_at _ _ _ _ _ hx hy HM.out HM2.out).mono ?_; rintro e w' ⟨rfl, rfl⟩))
        go_ret2
        exact ⟨rfl, rfl⟩
  · have h3 : ((K : Int) != 0) = true := by simp; omega
    have h4 : ¬ (K : Int) = 0 := by omega
    clear hs hL hK hi hp hf
    by_cases h1 : a < 0
    · by_cases h2 : b < 0
      · have hd1 : decide (a < 0) = true := by simp [h1]
        have hd2 : decide (b < 0) = true := by simp [h2]
        go_enter Tryd.func114, Tryd.ntmps114
        go_wp2_with (first | (go_at_call 144; refine (size_any _ _ (by assumption)).mono ?_; rintro e w' ⟨rfl, rfl⟩) | (go_at_call 145; refine (mul64_at _ _ _ _ _ hx hy HM.out HM2.out).mono ?_; rintro e w' ⟨rfl, rfl⟩))
        go_ret2
        exact ⟨rfl, rfl⟩
      · have hd1 : decide (a < 0) = true := by simp [h1]
        have hd2 : decide (b < 0) = false := by simp [h2]
        go_enter Tryd.func114, Tryd.ntmps114
        go_wp2_with (first | (go_at_call 144; refine (size_any _ _ (by assumption)).mono ?_; rintro e w' ⟨rfl, rfl⟩) | (go_at_call 145; refine (mul64_at _ _ _ _ _ hx hy HM.out HM2.out).mono ?_; rintro e w' ⟨rfl, rfl⟩))
        go_ret2
        exact ⟨rfl, rfl⟩
    · by_cases h2 : b < 0
      · have hd1 : decide (a < 0) = false := by simp [h1]
        have hd2 : decide (b < 0) = true := by simp [h2]
        go_enter Tryd.func114, Tryd.ntmps114
        go_wp2_with (first | (go_at_call 144; refine (size_any _ _ (by assumption)).mono ?_; rintro e w' ⟨rfl, rfl⟩) | (go_at_call 145; refine (mul64_at _ _ _ _ _ hx hy HM.out HM2.out).mono ?_; rintro e w' ⟨rfl, rfl⟩))
        go_ret2
        exact ⟨rfl, rfl⟩
      · have hd1 : decide (a < 0) = false := by simp [h1]
        have hd2 : decide (b < 0) = false := by simp [h2]
        go_enter Tryd.func114, Tryd.ntmps114
        go_wp2_with (first | (go_at_call 144; refine (size_any _ _ (by assumption)).mono ?_; rintro e w' ⟨rfl, rfl⟩) | (go_at_call 145; refine (mul64_at _ _ _ _ _ hx hy HM.out HM2.out).mono ?_; rintro e w' ⟨rfl, rfl⟩))
        go_ret2
        exact ⟨rfl, rfl⟩
theorem rsize_any (n : Int) (w : World) (hn : I64 n) : Calls Tryd.prog 152 #[.int .i64 n] w fun e w' => e = .returned (.int .u64 n.natAbs) ∧ w = w' := by
  obtain ⟨h1, h2⟩ := hn
  by_cases h : n < 0
  · have e1 : -(n + 1) + 1 = (n.natAbs : Int) := by omega
    have HE := Lib.hid e1
    clear e1
    go_enter Tryd.func152, Tryd.ntmps152
    go_wp2
    go_ret
    exact ⟨ret_u64 HE.out, rfl⟩
  · have h0 : 0 ≤ n := by omega
    have e1 : n = (n.natAbs : Int) := by omega
    have HE := Lib.hid e1
    clear e1
    go_enter Tryd.func152, Tryd.ntmps152
    go_wp2
    go_ret
    exact ⟨ret_u64 HE.out, rfl⟩
theorem both_any (a b : Nat) (w : World) (ha : a ≤ 18446744073709551615) (hb : b ≤ 18446744073709551615) : Calls Tryd.prog 151 #[.int .u64 a, .int .u64 b] w fun e w' => e = .returned (.int .u64 (Nat.gcd a b)) ∧ w = w' := by
  go_enter Tryd.func151, Tryd.ntmps151
  go_wp2
  go_loop [0, 1] (fun x y => ∃ c d : Nat, x = .int .u64 c ∧ y = .int .u64 d ∧ c ≤ 18446744073709551615 ∧ d ≤ 18446744073709551615 ∧ Hid (Nat.gcd c d = Nat.gcd a b)) (fun _ y => (intOf y).toNat)
  case atStart => exact ⟨a, b, rfl, rfl, ha, hb, Lib.hid rfl⟩
  case round =>
    obtain ⟨c, d, rfl, rfl, hc, hd, HG⟩ := hrel
    by_cases h : d = 0
    · subst h
      go_wp2
      go_ret
      exact ⟨ret_u64 (by rw [← HG.out]; simp), rfl⟩
    · have hpos : 0 < d := by omega
      have hb0 : ((d : Int) != 0) = true := by simp; omega
      have h2 : ¬ (d : Int) = 0 := by omega
      have hm := Nat.mod_lt c hpos
      go_wp2
      go_round
      case rel => exact ⟨d, c % d, rfl, by simp, hd, by omega, Lib.hid (by rw [← HG.out, Nat.gcd_comm c d, Nat.gcd_rec d c, Nat.gcd_comm])⟩
      case measure => simp [intOf]; omega

theorem rgcd_any (A : Option Addr) (n : Nat) (zs : List Int) (c : Nat) (w : World) (hn : n = zs.length) (hl : zs.length ≤ 9223372036854775807) (hz : ∀ z ∈ zs, I64 z) (hc : Ints .i64 w A zs) :
    Calls Tryd.prog 117 #[.slice A n c] w fun e w' => e = .returned (.int .u64 (gcdL zs)) ∧ w = w' := by
  subst hn
  go_enter Tryd.func117, Tryd.ntmps117
  go_wp2
  go_loop [3, 4] (fun x i => ∃ (k : Nat), k ≤ zs.length ∧ i = .int .i64 k ∧ x = .int .u64 (gcdL (zs.take k))) (fun _ i => zs.length - (intOf i).toNat)
  case atStart => exact ⟨0, Nat.zero_le _, rfl, rfl⟩
  case round =>
    obtain ⟨k, hk, rfl, rfl⟩ := hrel
    by_cases hlt : k < zs.length
    · obtain ⟨b, off, rfl, hb, hcell⟩ := hc k hlt
      have hzk := getD_mem hz hlt
      have hg := gcdL_le (zs.take k) (fun z h => hz z (List.mem_of_mem_take h))
      have hs := gcdL_step zs k hlt
      obtain ⟨x, hx⟩ : ∃ x, x = zs[k]?.getD 0 := ⟨_, rfl⟩
      rw [← hx] at hzk hs hcell
      have hx' : x.natAbs ≤ 18446744073709551615 := by unfold I64 at hzk; omega
      have HS := Lib.hid hs
      clear hx hs hc hz
      go_wp2_with (first | (go_at_call 152; refine (rsize_any _ _ hzk).mono ?_; rintro e w' ⟨rfl, rfl⟩) | (go_at_call 151; refine (both_any _ _ _ hg hx').mono ?_; rintro e w' ⟨rfl, rfl⟩))
      go_round
      case rel => exact ⟨k + 1, by omega, by go_num, by rw [HS.out]⟩
      case measure => simp [intOf]; omega
    · have HK : Hid (zs.take k = zs) := Lib.hid (List.take_of_length_le (by omega))
      go_wp2
      go_ret
      exact ⟨ret_u64 (by rw [HK.out]), rfl⟩
end Go.Proofs.YtjdoknbmnokkdaaDoor.Nm
