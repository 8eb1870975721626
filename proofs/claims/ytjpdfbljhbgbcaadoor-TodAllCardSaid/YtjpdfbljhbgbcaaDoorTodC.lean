/- Contracts of tod.held, first, Len and Last (layer 7). -/
import Derived.Test.YtjpdfbljhbgbcaaDoorTodM
import Derived.Test.YtjpdfbljhbgbcaaDoorShelf
namespace Go.Proofs.YtjpdfbljhbgbcaaDoor
open Go.RowKit
set_option linter.unusedVariables false

def hd (H : Nat) : Nat := H % 2 ^ 24
def hm (M : Nat) : Nat := M % 2 ^ 60
theorem hd_lt (H : Nat) : hd H < 18446744073709551616 := Nat.lt_trans (Nat.mod_lt _ (by decide)) (by decide)
theorem hm_lt (M : Nat) : hm M < 18446744073709551616 := Nat.lt_trans (Nat.mod_lt _ (by decide)) (by decide)
theorem hd_far {H i : Nat} (h : (hd H).testBit i = true) : i < 24 := mod_far h
theorem hm_far {M i : Nat} (h : (hm M).testBit i = true) : i < 60 := mod_far h
theorem hd_and (H : Nat) (h : H < 18446744073709551616) : bits BinOp.and IntKind.u64 (H : Int) 16777215 = ((hd H : Nat) : Int) := by
  have := u64_and_nat H 16777215 h (by decide)
  rw [show H &&& 16777215 = hd H from Nat.and_two_pow_sub_one_eq_mod H 24] at this
  exact this
theorem hm_and (M : Nat) (h : M < 18446744073709551616) : bits BinOp.and IntKind.u64 (M : Int) 1152921504606846975 = ((hm M : Nat) : Int) := by
  have := u64_and_nat M 1152921504606846975 h (by decide)
  rw [show M &&& 1152921504606846975 = hm M from Nat.and_two_pow_sub_one_eq_mod M 60] at this
  exact this
def okT (h m s : Nat) : Bool := h != 0 && (m != 0 && s != 0)
set_option maxRecDepth 20000 in
theorem held_any (H M S : Nat) (hH : H < 18446744073709551616) (hM : M < 18446744073709551616) (hS : S < 18446744073709551616) (w : World) :
    Calls Tryd.prog 34 #[.int .u64 H, .int .u64 M, .int .u64 S] w fun e w' => e = .returned (.tuple #[.int .u64 (hd H), .int .u64 (hm M), .int .u64 (hm S), .bool (okT (hd H) (hm M) (hm S))]) ∧ w = w' := by
  have b1 := hd_and H hH
  have b2 := hm_and M hM
  have b3 := hm_and S hS
  generalize hd H = h at b1 ⊢
  generalize hm M = m at b2 ⊢
  generalize hm S = s at b3 ⊢
  clear hH hM hS
  by_cases e1 : h = 0
  · have d1 : ((h : Int) != 0) = false := by rw [bne_eq_false_iff_eq]; omega
    have HX := Lib.hid (show okT h m s = false by unfold okT; rw [e1]; rfl)
    clear e1
    go_enter Tryd.func34, Tryd.ntmps34
    go_wp2
    rw [HX.out]
    exact bodyPost_ret (v := .tuple #[.int .u64 h, .int .u64 m, .int .u64 s, .bool false]) (by simp [results, Tryd.results34, go_sem]) rfl ⟨rfl, rfl⟩
  · have d1 : ((h : Int) != 0) = true := by rw [bne_iff_ne]; omega
    by_cases e2 : m = 0
    · have d2 : ((m : Int) != 0) = false := by rw [bne_eq_false_iff_eq]; omega
      have HX := Lib.hid (show okT h m s = false by unfold okT; rw [e2]; simp)
      clear e1 e2
      go_enter Tryd.func34, Tryd.ntmps34
      go_wp2
      rw [HX.out]
      exact bodyPost_ret (v := .tuple #[.int .u64 h, .int .u64 m, .int .u64 s, .bool false]) (by simp [results, Tryd.results34, go_sem]) rfl ⟨rfl, rfl⟩
    · have d2 : ((m : Int) != 0) = true := by rw [bne_iff_ne]; omega
      by_cases e3 : s = 0
      · have d3 : ((s : Int) != 0) = false := by rw [bne_eq_false_iff_eq]; omega
        have HX := Lib.hid (show okT h m s = false by unfold okT; rw [e3]; simp)
        clear e1 e2 e3
        go_enter Tryd.func34, Tryd.ntmps34
        go_wp2
        rw [HX.out]
        exact bodyPost_ret (v := .tuple #[.int .u64 h, .int .u64 m, .int .u64 s, .bool false]) (by simp [results, Tryd.results34, go_sem]) rfl ⟨rfl, rfl⟩
      · have d3 : ((s : Int) != 0) = true := by rw [bne_iff_ne]; omega
        have HX := Lib.hid (show okT h m s = true by unfold okT; simp [e1, e2, e3])
        clear e1 e2 e3
        go_enter Tryd.func34, Tryd.ntmps34
        go_wp2
        rw [HX.out]
        exact bodyPost_ret (v := .tuple #[.int .u64 h, .int .u64 m, .int .u64 s, .bool true]) (by simp [results, Tryd.results34, go_sem]) rfl ⟨rfl, rfl⟩
theorem first_no (h m s : Nat) (k : Int) (w : World) (hh : h < 18446744073709551616) (hk : I64 k) (h0 : above h k = 0) (hT : Tab w) :
    Calls Tryd.prog 62 #[.int .u64 h, .int .u64 m, .int .u64 s, .int .i64 k] w fun e w' => e = .returned (.tuple #[.int .i64 0, .bool false]) ∧ w = w' := by
  have K := next_any h k w hh hk hT
  rw [h0, show leastV 0 = .tuple #[.int .i64 0, .bool false] from rfl] at K
  clear h0 hT
  go_enter Tryd.func62, Tryd.ntmps62
  go_wp2_with fail
  refine K.mono ?_
  rintro e w' ⟨rfl, rfl⟩
  go_wp2
  go_ret2
  exact ⟨rfl, rfl⟩
theorem leastV_some {x : Nat} (h : x ≠ 0) : leastV x = .tuple #[.int .i64 (lo x), .bool true] := by unfold leastV; rw [if_neg h]
theorem first_yes (h m s : Nat) (k : Int) (w : World) (hh : h < 18446744073709551616) (hmm : m < 18446744073709551616) (hss : s < 18446744073709551616) (hk : I64 k) (h0 : above h k ≠ 0) (m0 : m ≠ 0) (s0 : s ≠ 0) (hi : IsTod (lo (above h k)) (lo m) (lo s)) (hT : Tab w) :
    Calls Tryd.prog 62 #[.int .u64 h, .int .u64 m, .int .u64 s, .int .i64 k] w fun e w' => e = .returned (.tuple #[.int .i64 (3600 * (lo (above h k) : Int) + 60 * (lo m : Int) + (lo s : Int)), .bool true]) ∧ w = w' := by
  have K := next_any h k w hh hk hT
  rw [leastV_some h0] at K
  have KM := least_yes m w hmm m0 hT
  have KS := least_yes s w hss s0 hT
  have KJ := tjoin_any _ _ _ w hi
  generalize lo (above h k) = x at K KJ ⊢
  generalize lo m = y at KM KJ ⊢
  generalize lo s = z at KS KJ ⊢
  clear h0 hT hi m0 s0
  go_enter Tryd.func62, Tryd.ntmps62
  go_wp2_with fail
  refine K.mono ?_
  rintro e w' ⟨rfl, rfl⟩
  go_wp2_with fail
  refine KM.mono ?_
  rintro e w' ⟨rfl, rfl⟩
  go_wp2_with fail
  refine KS.mono ?_
  rintro e w' ⟨rfl, rfl⟩
  go_wp2_with fail
  refine KJ.mono ?_
  rintro e w' ⟨rfl, rfl⟩
  go_wp2
  go_ret2
  exact ⟨rfl, rfl⟩
/-- the seconds of masks -/
def pM (H M S : Nat) : Nat → Bool := pT (hd H).testBit (hm M).testBit (hm S).testBit
theorem count_hd (H : Nat) : (numsP (hd H).testBit 64).length = (numsP (hd H).testBit 24).length :=
  numsP_far _ 24 (fun i hi => by
    cases h : (hd H).testBit i
    · rfl
    · have := hd_far h; omega) 40
theorem count_hm (M : Nat) : (numsP (hm M).testBit 64).length = (numsP (hm M).testBit 60).length :=
  numsP_far _ 60 (fun i hi => by
    cases h : (hm M).testBit i
    · rfl
    · have := hm_far h; omega) 4
theorem ok_parts {h m s : Nat} (ho : okT h m s = true) : h ≠ 0 ∧ m ≠ 0 ∧ s ≠ 0 := by
  unfold okT at ho
  simpa using ho
end Go.Proofs.YtjpdfbljhbgbcaaDoor
