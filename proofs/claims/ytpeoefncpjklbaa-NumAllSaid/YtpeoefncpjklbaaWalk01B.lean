/- The walks of the statements of layer 1: NumAll, NumParts, NumTimes. -/
import Derived.Test.YtpeoefncpjklbaaLives01
import Derived.Test.YtpeoefncpjklbaaRefNumB
import Derived.Test.YtpeoefncpjklbaaOpen
namespace Go.Proofs.Ytpeoefncpjklbaa
open Go.RowKit

theorem numAll_walk (A : Option Addr) (n c : Nat) (zs : List Int) (w : World) (hn : n = zs.length) (hl : zs.length ≤ 9223372036854775807) (hz0 : ∀ z ∈ zs, (Lit.int .i64 z).wf = true) (hi : Ints .i64 w A zs) :
    Calls Try.prog 5 #[.slice A n c] w fun e w' => e = .returned (.bool true) ∧ Below w.heap.size w w' := by
  have hz : ∀ z ∈ zs, I64 z := fun z h => wf_i64 (hz0 z h)
  have HN := Lib.hid hn
  have hn1 : n ≤ 9223372036854775807 := by omega
  by_cases h60 : 60 < n
  · clear hn hl hz0 hi hz
    go_enter Try.func5, Try.ntmps5
    go_wp2_with (go_at_call 15; refine (lives01_any _).mono ?_; rintro e w' ⟨rfl, hbel⟩)
    go_ret
    exact ⟨rfl, hbel⟩
  · have hgl := gcdL_le zs hz
    clear hn hz0
    rcases hs : sumO zs with _ | s
    · have HS := Lib.hid hs
      clear hs
      go_enter Try.func5, Try.ntmps5
      go_wp2_with (first | (go_at_call 15; refine (lives01_any _).mono ?_; rintro e w' ⟨rfl, hbel⟩) | (go_at_call 16; refine (sum_none _ _ _ _ _ HN.out hl hz hi HS.out).mono ?_; rintro e w' ⟨rfl, rfl⟩) | (go_at_call 17; refine (rsum_none _ _ _ _ _ HN.out hl hz hi HS.out).mono ?_; rintro e w' ⟨rfl, rfl⟩) | (go_at_call 18; refine (gcd_any _ _ _ _ _ HN.out hl hz hi).mono ?_; rintro e w' ⟨rfl, k1, rfl⟩) | (go_at_call 19; refine (rgcd_any _ _ _ _ _ HN.out hl hz (hi.drewN _)).mono ?_; rintro e w' ⟨rfl, rfl⟩))
      go_ret
      exact ⟨rfl, (below_draws _ _ _).trans hbel⟩
    · have HS := Lib.hid hs
      clear hs
      go_enter Try.func5, Try.ntmps5
      go_wp2_with (first | (go_at_call 15; refine (lives01_any _).mono ?_; rintro e w' ⟨rfl, hbel⟩) | (go_at_call 16; refine (sum_some _ _ _ _ _ _ HN.out hl hz hi HS.out).mono ?_; rintro e w' ⟨rfl, rfl⟩) | (go_at_call 17; refine (rsum_some _ _ _ _ _ _ HN.out hl hz hi HS.out).mono ?_; rintro e w' ⟨rfl, rfl⟩) | (go_at_call 18; refine (gcd_any _ _ _ _ _ HN.out hl hz hi).mono ?_; rintro e w' ⟨rfl, k1, rfl⟩) | (go_at_call 19; refine (rgcd_any _ _ _ _ _ HN.out hl hz (hi.drewN _)).mono ?_; rintro e w' ⟨rfl, rfl⟩))
      go_ret
      exact ⟨rfl, (below_draws _ _ _).trans hbel⟩

theorem two_list {zs : List Int} (h : zs.length = 2) : ∃ a b, zs = [a, b] := by
  match zs, h with
  | [a, b], _ => exact ⟨a, b, rfl⟩
theorem numParts_walk (a b : Int) (zs : List Int) (w : World) (wa : (Lit.int .i64 a).wf = true) (wb : (Lit.int .i64 b).wf = true) (hn : zs.length = 2) (hz : ∀ z ∈ zs, (Lit.int .i64 z).wf = true) :
    Calls Try.prog 3 #[.int .i64 a, .int .i64 b, .agg (zs.map (Value.int .i64)).toArray] w fun e w' => e = .returned (.bool true) ∧ Below w.heap.size w w' := by
  obtain ⟨lo, hi, rfl⟩ := two_list hn
  have ha := wf_i64 wa
  have hb := wf_i64 wb
  clear hn hz wa wb
  have h0 := cell_new w #[.int .i64 lo, .int .i64 hi] 22 0
  have h1 := cell_new w #[.int .i64 lo, .int .i64 hi] 22 1
  show Calls Try.prog 3 #[.int .i64 a, .int .i64 b, .agg #[.int .i64 lo, .int .i64 hi]] w _
  by_cases h2 : a < lo
  · by_cases h3 : hi < lo
    · have hh : heldI a lo hi = hi := by unfold heldI; rw [if_pos h2, if_pos h3]
      go_enter Try.func3, Try.ntmps3
      go_wp2_with (first | (go_at_call 10; refine (floor_any _ _ _ ha hb).mono ?_; rintro e w' ⟨rfl, rfl⟩) | (go_at_call 12; refine (mod_any _ _ _ ha hb).mono ?_; rintro e w' ⟨rfl, rfl⟩) | (go_at_call 11; refine (rfloor_any _ _ _ ha hb).mono ?_; rintro e w' ⟨rfl, rfl⟩) | (go_at_call 13; refine (rmod_any _ _ _ ha hb).mono ?_; rintro e w' ⟨rfl, rfl⟩) | (go_at_call 14; refine (held_any _ _ _ _).mono ?_; rintro e w' ⟨rfl, rfl⟩) | (go_at_call 15; refine (lives01_any _).mono ?_; rintro e w' ⟨rfl, hbel⟩))
      go_ret
      exact ⟨rfl, ((Below.refl _ _).alloc (Nat.le_refl _) _).trans (hbel.mono (by simp))⟩
    · have hh : heldI a lo hi = lo := by unfold heldI; rw [if_pos h2, if_neg h3]
      go_enter Try.func3, Try.ntmps3
      go_wp2_with (first | (go_at_call 10; refine (floor_any _ _ _ ha hb).mono ?_; rintro e w' ⟨rfl, rfl⟩) | (go_at_call 12; refine (mod_any _ _ _ ha hb).mono ?_; rintro e w' ⟨rfl, rfl⟩) | (go_at_call 11; refine (rfloor_any _ _ _ ha hb).mono ?_; rintro e w' ⟨rfl, rfl⟩) | (go_at_call 13; refine (rmod_any _ _ _ ha hb).mono ?_; rintro e w' ⟨rfl, rfl⟩) | (go_at_call 14; refine (held_any _ _ _ _).mono ?_; rintro e w' ⟨rfl, rfl⟩) | (go_at_call 15; refine (lives01_any _).mono ?_; rintro e w' ⟨rfl, hbel⟩))
      go_ret
      exact ⟨rfl, ((Below.refl _ _).alloc (Nat.le_refl _) _).trans (hbel.mono (by simp))⟩
  · by_cases h3 : hi < a
    · have hh : heldI a lo hi = hi := by unfold heldI; rw [if_neg h2, if_pos h3]
      go_enter Try.func3, Try.ntmps3
      go_wp2_with (first | (go_at_call 10; refine (floor_any _ _ _ ha hb).mono ?_; rintro e w' ⟨rfl, rfl⟩) | (go_at_call 12; refine (mod_any _ _ _ ha hb).mono ?_; rintro e w' ⟨rfl, rfl⟩) | (go_at_call 11; refine (rfloor_any _ _ _ ha hb).mono ?_; rintro e w' ⟨rfl, rfl⟩) | (go_at_call 13; refine (rmod_any _ _ _ ha hb).mono ?_; rintro e w' ⟨rfl, rfl⟩) | (go_at_call 14; refine (held_any _ _ _ _).mono ?_; rintro e w' ⟨rfl, rfl⟩) | (go_at_call 15; refine (lives01_any _).mono ?_; rintro e w' ⟨rfl, hbel⟩))
      go_ret
      exact ⟨rfl, ((Below.refl _ _).alloc (Nat.le_refl _) _).trans (hbel.mono (by simp))⟩
    · have hh : heldI a lo hi = a := by unfold heldI; rw [if_neg h2, if_neg h3]
      go_enter Try.func3, Try.ntmps3
      go_wp2_with (first | (go_at_call 10; refine (floor_any _ _ _ ha hb).mono ?_; rintro e w' ⟨rfl, rfl⟩) | (go_at_call 12; refine (mod_any _ _ _ ha hb).mono ?_; rintro e w' ⟨rfl, rfl⟩) | (go_at_call 11; refine (rfloor_any _ _ _ ha hb).mono ?_; rintro e w' ⟨rfl, rfl⟩) | (go_at_call 13; refine (rmod_any _ _ _ ha hb).mono ?_; rintro e w' ⟨rfl, rfl⟩) | (go_at_call 14; refine (held_any _ _ _ _).mono ?_; rintro e w' ⟨rfl, rfl⟩) | (go_at_call 15; refine (lives01_any _).mono ?_; rintro e w' ⟨rfl, hbel⟩))
      go_ret
      exact ⟨rfl, ((Below.refl _ _).alloc (Nat.le_refl _) _).trans (hbel.mono (by simp))⟩

theorem i64_zero : I64 0 := by unfold I64; omega
/-- with x, y the sizes: the product fits just if x is at most the greatest by y -/
theorem fits_iff (x y m : Nat) (hy : 0 < y) : (x : Int) ≤ (m : Int) / (y : Int) ↔ x * y ≤ m := by
  rw [← Int.natCast_ediv, Int.ofNat_le]
  exact Nat.le_div_iff_mul_le hy
theorem fits_a (x y : Nat) (hy : 0 < y) : (x : Int) ≤ 9223372036854775807 / (y : Int) ↔ x * y ≤ 9223372036854775807 := fits_iff x y 9223372036854775807 hy
theorem fits_b (x y : Nat) (hy : 0 < y) : (x : Int) ≤ 9223372036854775808 / (y : Int) ↔ x * y ≤ 9223372036854775808 := fits_iff x y 9223372036854775808 hy
theorem numTimes_walk (a b : Int) (w : World) (wa : (Lit.int .i64 a).wf = true) (wb : (Lit.int .i64 b).wf = true) :
    Calls Try.prog 6 #[.int .i64 a, .int .i64 b] w fun e w' => e = .returned (.bool true) ∧ Below w.heap.size w w' := by
  have ha := wf_i64 wa
  have hb := wf_i64 wb
  clear wa wb
  by_cases ha0 : a = 0
  · subst ha0
    have hi := i64_zero
    have HP := Lib.hid (show (0 : Int) = 0 * b by omega)
    go_enter Try.func6, Try.ntmps6
    go_wp2_with (first | (go_at_call 20; refine (times_ok _ _ _ _ ha hb HP.out hi).mono ?_; rintro e w' ⟨rfl, rfl⟩) | (go_at_call 21; refine (rsize_any _ _ (by assumption)).mono ?_; rintro e w' ⟨rfl, rfl⟩) | (go_at_call 15; refine (lives01_any _).mono ?_; rintro e w' ⟨rfl, hbel⟩))
    go_ret
    exact ⟨rfl, hbel⟩
  · have hab : (a == 0) = false := by simpa using ha0
    by_cases hb0 : b = 0
    · subst hb0
      have hi := i64_zero
      have HP := Lib.hid (show (0 : Int) = a * 0 by omega)
      clear ha0
      go_enter Try.func6, Try.ntmps6
      go_wp2_with (first | (go_at_call 20; refine (times_ok _ _ _ _ ha hb HP.out hi).mono ?_; rintro e w' ⟨rfl, rfl⟩) | (go_at_call 21; refine (rsize_any _ _ (by assumption)).mono ?_; rintro e w' ⟨rfl, rfl⟩) | (go_at_call 15; refine (lives01_any _).mono ?_; rintro e w' ⟨rfl, hbel⟩))
      go_ret
      exact ⟨rfl, hbel⟩
    · have hbb : (b == 0) = false := by simpa using hb0
      have hx : a.natAbs ≤ 9223372036854775808 := by unfold I64 at ha; omega
      have hy : b.natAbs ≤ 9223372036854775808 := by unfold I64 at hb; omega
      have hy0 : 0 < b.natAbs := by omega
      have hyn : ¬ (b.natAbs : Int) = 0 := by omega
      have hs := times_sign a b
      have hf := times_facts a b
      by_cases hi : I64 (a * b)
      · obtain ⟨p, hp⟩ : ∃ p, p = a * b := ⟨_, rfl⟩
        rw [← hp] at hs hf hi
        have HP := Lib.hid hp
        have hpz : p ≠ 0 := by rw [hp]; exact Int.mul_ne_zero ha0 hb0
        have hmul : ((p.natAbs : Int) == IntKind.u64.wrap ((a.natAbs : Int) * (b.natAbs : Int))) = true := by
          have h1 : (a.natAbs : Int) * (b.natAbs : Int) = (p.natAbs : Int) := by exact_mod_cast hf
          rw [h1, IntWalk.u64_in _ (by unfold I64 at hi; omega)]; simp
        by_cases h1 : a < 0
        · by_cases h2 : b < 0
          · have hd1 : decide (a < 0) = true := by simp [h1]
            have hd2 : decide (b < 0) = true := by simp [h2]
            have hpn : ¬ p < 0 := by have := hs.1 h1 h2; omega
            have hd3 : decide (p < 0) = false := by simp [hpn]
            have hfit : (a.natAbs : Int) ≤ 9223372036854775807 / (b.natAbs : Int) := (fits_a a.natAbs b.natAbs hy0).2 (by rw [hf]; unfold I64 at hi; omega)
            clear hs hf hp ha0 hb0 hpz hy hx
            go_enter Try.func6, Try.ntmps6
            go_wp2_with (first | (go_at_call 20; refine (times_ok _ _ _ _ ha hb HP.out hi).mono ?_; rintro e w' ⟨rfl, rfl⟩) | (go_at_call 21; refine (rsize_any _ _ (by assumption)).mono ?_; rintro e w' ⟨rfl, rfl⟩) | (go_at_call 15; refine (lives01_any _).mono ?_; rintro e w' ⟨rfl, hbel⟩))
            go_ret
            exact ⟨rfl, hbel⟩
          · have hd1 : decide (a < 0) = true := by simp [h1]
            have hd2 : decide (b < 0) = false := by simp [h2]
            have hpn : p < 0 := by have := hs.2.1 h1 h2; omega
            have hd3 : decide (p < 0) = true := by simp [hpn]
            have hfit : (a.natAbs : Int) ≤ 9223372036854775808 / (b.natAbs : Int) := (fits_b a.natAbs b.natAbs hy0).2 (by rw [hf]; unfold I64 at hi; omega)
            clear hs hf hp ha0 hb0 hpz hy hx
            go_enter Try.func6, Try.ntmps6
            go_wp2_with (first | (go_at_call 20; refine (times_ok _ _ _ _ ha hb HP.out hi).mono ?_; rintro e w' ⟨rfl, rfl⟩) | (go_at_call 21; refine (rsize_any _ _ (by assumption)).mono ?_; rintro e w' ⟨rfl, rfl⟩) | (go_at_call 15; refine (lives01_any _).mono ?_; rintro e w' ⟨rfl, hbel⟩))
            go_ret
            exact ⟨rfl, hbel⟩
        · by_cases h2 : b < 0
          · have hd1 : decide (a < 0) = false := by simp [h1]
            have hd2 : decide (b < 0) = true := by simp [h2]
            have hpn : p < 0 := by have := hs.2.2.1 h1 h2; omega
            have hd3 : decide (p < 0) = true := by simp [hpn]
            have hfit : (a.natAbs : Int) ≤ 9223372036854775808 / (b.natAbs : Int) := (fits_b a.natAbs b.natAbs hy0).2 (by rw [hf]; unfold I64 at hi; omega)
            clear hs hf hp ha0 hb0 hpz hy hx
            go_enter Try.func6, Try.ntmps6
            go_wp2_with (first | (go_at_call 20; refine (times_ok _ _ _ _ ha hb HP.out hi).mono ?_; rintro e w' ⟨rfl, rfl⟩) | (go_at_call 21; refine (rsize_any _ _ (by assumption)).mono ?_; rintro e w' ⟨rfl, rfl⟩) | (go_at_call 15; refine (lives01_any _).mono ?_; rintro e w' ⟨rfl, hbel⟩))
            go_ret
            exact ⟨rfl, hbel⟩
          · have hd1 : decide (a < 0) = false := by simp [h1]
            have hd2 : decide (b < 0) = false := by simp [h2]
            have hpn : ¬ p < 0 := by have := hs.2.2.2 h1 h2; omega
            have hd3 : decide (p < 0) = false := by simp [hpn]
            have hfit : (a.natAbs : Int) ≤ 9223372036854775807 / (b.natAbs : Int) := (fits_a a.natAbs b.natAbs hy0).2 (by rw [hf]; unfold I64 at hi; omega)
            clear hs hf hp ha0 hb0 hpz hy hx
            go_enter Try.func6, Try.ntmps6
            go_wp2_with (first | (go_at_call 20; refine (times_ok _ _ _ _ ha hb HP.out hi).mono ?_; rintro e w' ⟨rfl, rfl⟩) | (go_at_call 21; refine (rsize_any _ _ (by assumption)).mono ?_; rintro e w' ⟨rfl, rfl⟩) | (go_at_call 15; refine (lives01_any _).mono ?_; rintro e w' ⟨rfl, hbel⟩))
            go_ret
            exact ⟨rfl, hbel⟩
      · have HI := Lib.hid hi
        by_cases h1 : a < 0
        · by_cases h2 : b < 0
          · have hd1 : decide (a < 0) = true := by simp [h1]
            have hd2 : decide (b < 0) = true := by simp [h2]
            have hfd : decide ((a.natAbs : Int) ≤ 9223372036854775807 / (b.natAbs : Int)) = false := by
              rw [decide_eq_false_iff_not]
              intro h
              have := (fits_a a.natAbs b.natAbs hy0).1 h
              rw [hf] at this
              have := hs.1 h1 h2
              unfold I64 at hi; omega
            clear hs hf ha0 hb0 hi hy hx
            go_enter Try.func6, Try.ntmps6
            go_wp2_with (first | (go_at_call 20; refine (times_no _ _ _ ha hb HI.out).mono ?_; rintro e w' ⟨rfl, rfl⟩) | (go_at_call 21; refine (rsize_any _ _ (by assumption)).mono ?_; rintro e w' ⟨rfl, rfl⟩) | (go_at_call 15; refine (lives01_any _).mono ?_; rintro e w' ⟨rfl, hbel⟩))
            go_ret
            exact ⟨rfl, hbel⟩
          · have hd1 : decide (a < 0) = true := by simp [h1]
            have hd2 : decide (b < 0) = false := by simp [h2]
            have hfd : decide ((a.natAbs : Int) ≤ 9223372036854775808 / (b.natAbs : Int)) = false := by
              rw [decide_eq_false_iff_not]
              intro h
              have := (fits_b a.natAbs b.natAbs hy0).1 h
              rw [hf] at this
              have := hs.2.1 h1 h2
              unfold I64 at hi; omega
            clear hs hf ha0 hb0 hi hy hx
            go_enter Try.func6, Try.ntmps6
            go_wp2_with (first | (go_at_call 20; refine (times_no _ _ _ ha hb HI.out).mono ?_; rintro e w' ⟨rfl, rfl⟩) | (go_at_call 21; refine (rsize_any _ _ (by assumption)).mono ?_; rintro e w' ⟨rfl, rfl⟩) | (go_at_call 15; refine (lives01_any _).mono ?_; rintro e w' ⟨rfl, hbel⟩))
            go_ret
            exact ⟨rfl, hbel⟩
        · by_cases h2 : b < 0
          · have hd1 : decide (a < 0) = false := by simp [h1]
            have hd2 : decide (b < 0) = true := by simp [h2]
            have hfd : decide ((a.natAbs : Int) ≤ 9223372036854775808 / (b.natAbs : Int)) = false := by
              rw [decide_eq_false_iff_not]
              intro h
              have := (fits_b a.natAbs b.natAbs hy0).1 h
              rw [hf] at this
              have := hs.2.2.1 h1 h2
              unfold I64 at hi; omega
            clear hs hf ha0 hb0 hi hy hx
            go_enter Try.func6, Try.ntmps6
            go_wp2_with (first | (go_at_call 20; refine (times_no _ _ _ ha hb HI.out).mono ?_; rintro e w' ⟨rfl, rfl⟩) | (go_at_call 21; refine (rsize_any _ _ (by assumption)).mono ?_; rintro e w' ⟨rfl, rfl⟩) | (go_at_call 15; refine (lives01_any _).mono ?_; rintro e w' ⟨rfl, hbel⟩))
            go_ret
            exact ⟨rfl, hbel⟩
          · have hd1 : decide (a < 0) = false := by simp [h1]
            have hd2 : decide (b < 0) = false := by simp [h2]
            have hfd : decide ((a.natAbs : Int) ≤ 9223372036854775807 / (b.natAbs : Int)) = false := by
              rw [decide_eq_false_iff_not]
              intro h
              have := (fits_a a.natAbs b.natAbs hy0).1 h
              rw [hf] at this
              have := hs.2.2.2 h1 h2
              unfold I64 at hi; omega
            clear hs hf ha0 hb0 hi hy hx
            go_enter Try.func6, Try.ntmps6
            go_wp2_with (first | (go_at_call 20; refine (times_no _ _ _ ha hb HI.out).mono ?_; rintro e w' ⟨rfl, rfl⟩) | (go_at_call 21; refine (rsize_any _ _ (by assumption)).mono ?_; rintro e w' ⟨rfl, rfl⟩) | (go_at_call 15; refine (lives01_any _).mono ?_; rintro e w' ⟨rfl, hbel⟩))
            go_ret
            exact ⟨rfl, hbel⟩
end Go.Proofs.Ytpeoefncpjklbaa
