/- mask.Without; the least of a list above a number (layer 2). -/
import Derived.Test.YtjlieamjlelipaaDoorMaskI
import Derived.Test.YtjlieamjlelipaaDoorMaskQ
namespace Go.Proofs.YtjlieamjlelipaaDoor
open Go.RowKit
set_option linter.unusedVariables false

/-- the numbers of a span that a mask has not -/
def lack (m : Nat) (n t : Int) (i : Nat) : Bool := decide (n ≤ i) && decide ((i : Int) ≤ t) && !m.testBit i
theorem lack_key (m : Nat) (n t : Int) (hm : m < 18446744073709551616) : bits BinOp.andNot IntKind.u64 ((mk (inS (max n 0) t 1) : Nat) : Int) (m : Int) = ((mk (lack m n t) : Nat) : Int) := by
  rw [u64_andNot_nat _ m (mk_lt _) hm]
  refine congrArg (fun x : Nat => (x : Int)) ?_
  refine mk_eq _ (Nat.lt_of_le_of_lt Nat.and_le_left (mk_lt _)) fun i hi => ?_
  rw [Nat.testBit_and, mk_test, dec_t hi, show 18446744073709551615 - m = 2 ^ 64 - (m + 1) by omega, Nat.testBit_two_pow_sub_succ (show m < 2 ^ 64 from hm), dec_t hi]
  unfold lack
  have e : inS (max n 0) t 1 i = (decide (n ≤ i) && decide ((i : Int) ≤ t)) := by
    rw [Bool.eq_iff_iff, inS_iff]
    simp
    omega
  rw [e]
  simp
set_option maxHeartbeats 800000 in
theorem without_any (m : Nat) (n t : Int) (w : World) (hm : m < 18446744073709551616) (hn : I64 n) :
    Calls Tryd.prog 24 #[.int .u64 m, .int .i64 n, .int .i64 t] w fun e w' => e = .returned (.int .u64 (mk (lack m n t))) ∧ w = w' := by
  have K := span_any (max n 0) t 1 w ⟨by have := hn.1; omega, by have := hn.2; omega⟩ ⟨by omega, by omega⟩
  have hk := lack_key m n t hm
  generalize mk (inS (max n 0) t 1) = X at K hk
  by_cases h : n < 0
  · rw [show max n 0 = 0 by omega] at K
    have d : decide (n < 0) = true := dec_t h
    clear hn hm
    go_enter Tryd.func24, Tryd.ntmps24
    go_wp2_with fail
    refine K.mono ?_
    rintro e w' ⟨rfl, rfl⟩
    go_wp2
    go_ret
    exact ⟨rfl, rfl⟩
  · rw [show max n 0 = n by omega] at K
    have d : decide (n < 0) = false := dec_n h
    clear hn hm
    go_enter Tryd.func24, Tryd.ntmps24
    go_wp2_with fail
    refine K.mono ?_
    rintro e w' ⟨rfl, rfl⟩
    go_wp2
    go_ret
    exact ⟨rfl, rfl⟩
def wantL (n : Int) (d : Int) (xs : List Int) : Int := xs.foldr (fun x acc => if n < x then x else acc) d
theorem wantL_app (n d y : Int) (xs : List Int) : wantL n d (xs ++ [y]) = wantL n (if n < y then y else d) xs := by unfold wantL; rw [List.foldr_append]; rfl
theorem wantL_none (M : Nat → Bool) (n : Int) : ∀ k d, (∀ i, i < k → ¬ (M i = true ∧ n < (i : Int))) → wantL n d (numsP M k) = d
  | 0, d, _ => rfl
  | k + 1, d, h => by
    cases hM : M k
    · rw [numsP_no M k hM, wantL_none M n k d fun i hi => h i (by omega)]
    · have hk := h k (by omega)
      rw [numsP_yes M k hM, wantL_app, if_neg (fun hn => hk ⟨hM, hn⟩), wantL_none M n k d fun i hi => h i (by omega)]
theorem wantL_some (M : Nat → Bool) (n : Int) (a : Nat) (ha : M a = true) (hn : n < (a : Int)) (hl : ∀ i, i < a → ¬ (M i = true ∧ n < (i : Int))) : ∀ k d, a < k → wantL n d (numsP M k) = a
  | 0, d, h => by omega
  | k + 1, d, h => by
    by_cases e : a = k
    · subst e
      rw [numsP_yes M a ha, wantL_app, if_pos hn, wantL_none M n a _ hl]
    · cases hM : M k
      · rw [numsP_no M k hM, wantL_some M n a ha hn hl k d (by omega)]
      · rw [numsP_yes M k hM, wantL_app, wantL_some M n a ha hn hl k _ (by omega)]
theorem want_above (m : Nat) (n : Int) : (above m n = 0 → wantL n (-1) (numsP m.testBit 64) = -1) ∧ (above m n ≠ 0 → wantL n (-1) (numsP m.testBit 64) = ((lo (above m n) : Nat) : Int)) := by
  have hb := fun i => mk_test (fun i => m.testBit i && decide (n < (i : Int))) i
  constructor
  · intro h
    refine wantL_none _ n 64 (-1) fun i hi hh => ?_
    have e := hb i
    rw [show mk (fun i => m.testBit i && decide (n < (i : Int))) = above m n from rfl, h, Nat.zero_testBit, dec_t hi, hh.1, dec_t hh.2] at e
    simp at e
  · intro h
    obtain ⟨h1, h2, h3⟩ := lo_spec (above m n) (above_lt m n) h
    have e := hb (lo (above m n))
    rw [show mk (fun i => m.testBit i && decide (n < (i : Int))) = above m n from rfl, h2, dec_t h1] at e
    simp at e
    refine wantL_some _ n _ e.1 e.2 (fun i hi hh => ?_) 64 (-1) h1
    have e2 := hb i
    rw [show mk (fun i => m.testBit i && decide (n < (i : Int))) = above m n from rfl, h3 i hi, dec_t (show i < 64 by omega), hh.1, dec_t hh.2] at e2
    simp at e2
theorem drop_step (xs : List Int) (k : Nat) (h : k < xs.length) : xs.drop k = xs[k]?.getD 0 :: xs.drop (k + 1) := by
  rw [List.drop_eq_getElem_cons h, List.getElem?_eq_getElem h]; rfl
end Go.Proofs.YtjlieamjlelipaaDoor
