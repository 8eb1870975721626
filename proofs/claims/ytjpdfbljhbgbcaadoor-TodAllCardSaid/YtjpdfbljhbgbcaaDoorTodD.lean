/- The contract of tod.Next (layer 7). -/
import Derived.Test.YtjpdfbljhbgbcaaDoorTodC
namespace Go.Proofs.YtjpdfbljhbgbcaaDoor
open Go.RowKit
set_option linter.unusedVariables false

/-- a call that tells a value and leaves the world as it is -/
def Tell (f : FuncId) (args : Array Value) (v : Value) (w : World) : Prop := Calls Tryd.prog f args w fun e w' => e = .returned v ∧ w = w'
/-- what Next tells -/
def NextIs (s : Int) (H M S : Nat) (t : Int) (b : Bool) : Prop := ∀ w, Tab w → Calls Tryd.prog 39 #[.int .i64 s, .int .u64 H, .int .u64 M, .int .u64 S] w fun e w' => e = .returned (.tuple #[.int .i64 t, .bool b]) ∧ w = w'
set_option maxRecDepth 20000 in
theorem nx_held (s n : Int) (dm : max s 0 = n) (H M S h m x a b c : Int) (w : World) (K : Tell 34 #[.int .u64 H, .int .u64 M, .int .u64 S] (.tuple #[.int .u64 h, .int .u64 m, .int .u64 x, .bool false]) w)
    (KP : Tell 60 #[.int .i64 n] (.tuple #[.int .i64 a, .int .i64 b, .int .i64 c, .bool true]) w)
     :
    Calls Tryd.prog 39 #[.int .i64 s, .int .u64 H, .int .u64 M, .int .u64 S] w fun e w' => e = .returned (.tuple #[.int .i64 0, .bool false]) ∧ w = w' := by
  unfold Tell at *
  go_enter Tryd.func39, Tryd.ntmps39
  go_wp2_with fail
  refine K.mono ?_
  rintro e w' ⟨rfl, rfl⟩
  clear K
  go_wp2_with fail
  refine KP.mono ?_
  rintro e w' ⟨rfl, rfl⟩
  clear KP
  go_wp2
  go_ret2
  exact ⟨rfl, rfl⟩
set_option maxRecDepth 20000 in
theorem nx_held_far (s n : Int) (dm : max s 0 = n) (H M S h m x a b c : Int) (w : World) (K : Tell 34 #[.int .u64 H, .int .u64 M, .int .u64 S] (.tuple #[.int .u64 h, .int .u64 m, .int .u64 x, .bool false]) w)
    (KP : Tell 60 #[.int .i64 n] (.tuple #[.int .i64 a, .int .i64 b, .int .i64 c, .bool false]) w)
     :
    Calls Tryd.prog 39 #[.int .i64 s, .int .u64 H, .int .u64 M, .int .u64 S] w fun e w' => e = .returned (.tuple #[.int .i64 0, .bool false]) ∧ w = w' := by
  unfold Tell at *
  go_enter Tryd.func39, Tryd.ntmps39
  go_wp2_with fail
  refine K.mono ?_
  rintro e w' ⟨rfl, rfl⟩
  clear K
  go_wp2_with fail
  refine KP.mono ?_
  rintro e w' ⟨rfl, rfl⟩
  clear KP
  go_wp2
  go_ret2
  exact ⟨rfl, rfl⟩
set_option maxRecDepth 20000 in
theorem nx_far (s n : Int) (dm : max s 0 = n) (H M S h m x a b c : Int) (w : World) (K : Tell 34 #[.int .u64 H, .int .u64 M, .int .u64 S] (.tuple #[.int .u64 h, .int .u64 m, .int .u64 x, .bool true]) w)
    (KP : Tell 60 #[.int .i64 n] (.tuple #[.int .i64 a, .int .i64 b, .int .i64 c, .bool false]) w)
     :
    Calls Tryd.prog 39 #[.int .i64 s, .int .u64 H, .int .u64 M, .int .u64 S] w fun e w' => e = .returned (.tuple #[.int .i64 0, .bool false]) ∧ w = w' := by
  unfold Tell at *
  go_enter Tryd.func39, Tryd.ntmps39
  go_wp2_with fail
  refine K.mono ?_
  rintro e w' ⟨rfl, rfl⟩
  clear K
  go_wp2_with fail
  refine KP.mono ?_
  rintro e w' ⟨rfl, rfl⟩
  clear KP
  go_wp2
  go_ret2
  exact ⟨rfl, rfl⟩
set_option maxRecDepth 20000 in
theorem nx_1 (s n : Int) (dm : max s 0 = n) (H M S h m x a b c : Int) (w : World) (K : Tell 34 #[.int .u64 H, .int .u64 M, .int .u64 S] (.tuple #[.int .u64 h, .int .u64 m, .int .u64 x, .bool true]) w)
    (KP : Tell 60 #[.int .i64 n] (.tuple #[.int .i64 a, .int .i64 b, .int .i64 c, .bool true]) w)
    (KH : Tell 61 #[.int .u64 h, .int .i64 a] (.bool false) w) (t : Int) (ok : Bool) (KF : Tell 62 #[.int .u64 h, .int .u64 m, .int .u64 x, .int .i64 a] (.tuple #[.int .i64 t, .bool ok]) w) :
    Calls Tryd.prog 39 #[.int .i64 s, .int .u64 H, .int .u64 M, .int .u64 S] w fun e w' => e = .returned (.tuple #[.int .i64 t, .bool ok]) ∧ w = w' := by
  unfold Tell at *
  go_enter Tryd.func39, Tryd.ntmps39
  go_wp2_with fail
  refine K.mono ?_
  rintro e w' ⟨rfl, rfl⟩
  clear K
  go_wp2_with fail
  refine KP.mono ?_
  rintro e w' ⟨rfl, rfl⟩
  clear KP
  go_wp2_with fail
  refine KH.mono ?_
  rintro e w' ⟨rfl, rfl⟩
  clear KH
  go_wp2_with fail
  refine KF.mono ?_
  rintro e w' ⟨rfl, rfl⟩
  clear KF
  go_wp2
  go_ret2
  exact ⟨rfl, rfl⟩
set_option maxRecDepth 20000 in
theorem nx_2 (s n : Int) (dm : max s 0 = n) (H M S h m x a b c : Int) (w : World) (K : Tell 34 #[.int .u64 H, .int .u64 M, .int .u64 S] (.tuple #[.int .u64 h, .int .u64 m, .int .u64 x, .bool true]) w)
    (KP : Tell 60 #[.int .i64 n] (.tuple #[.int .i64 a, .int .i64 b, .int .i64 c, .bool true]) w)
    (KH : Tell 61 #[.int .u64 h, .int .i64 a] (.bool true) w) (KM : Tell 61 #[.int .u64 m, .int .i64 b] (.bool true) w) (z : Int) (hc : 0 ≤ c ∧ c < 60) (KC : Tell 63 #[.int .u64 x, .int .i64 (c - 1)] (.tuple #[.int .i64 z, .bool true]) w) (t : Int) (KJ : Tell 37 #[.int .i64 a, .int .i64 b, .int .i64 z] (.int .i64 t) w) :
    Calls Tryd.prog 39 #[.int .i64 s, .int .u64 H, .int .u64 M, .int .u64 S] w fun e w' => e = .returned (.tuple #[.int .i64 t, .bool true]) ∧ w = w' := by
  unfold Tell at *
  go_enter Tryd.func39, Tryd.ntmps39
  go_wp2_with fail
  refine K.mono ?_
  rintro e w' ⟨rfl, rfl⟩
  clear K
  go_wp2_with fail
  refine KP.mono ?_
  rintro e w' ⟨rfl, rfl⟩
  clear KP
  go_wp2_with fail
  refine KH.mono ?_
  rintro e w' ⟨rfl, rfl⟩
  clear KH
  go_wp2_with fail
  refine KM.mono ?_
  rintro e w' ⟨rfl, rfl⟩
  clear KM
  go_wp2_with fail
  refine KC.mono ?_
  rintro e w' ⟨rfl, rfl⟩
  clear KC
  go_wp2_with fail
  refine KJ.mono ?_
  rintro e w' ⟨rfl, rfl⟩
  clear KJ
  go_wp2
  go_ret2
  exact ⟨rfl, rfl⟩
set_option maxRecDepth 20000 in
theorem nx_3 (s n : Int) (dm : max s 0 = n) (H M S h m x a b c : Int) (w : World) (K : Tell 34 #[.int .u64 H, .int .u64 M, .int .u64 S] (.tuple #[.int .u64 h, .int .u64 m, .int .u64 x, .bool true]) w)
    (KP : Tell 60 #[.int .i64 n] (.tuple #[.int .i64 a, .int .i64 b, .int .i64 c, .bool true]) w)
    (KH : Tell 61 #[.int .u64 h, .int .i64 a] (.bool true) w) (KM : Tell 61 #[.int .u64 m, .int .i64 b] (.bool true) w) (hc : 0 ≤ c ∧ c < 60) (KC : Tell 63 #[.int .u64 x, .int .i64 (c - 1)] (.tuple #[.int .i64 0, .bool false]) w) (y : Int) (KB : Tell 63 #[.int .u64 m, .int .i64 b] (.tuple #[.int .i64 y, .bool true]) w) (z : Int) (KL : Tell 42 #[.int .u64 x] (.tuple #[.int .i64 z, .bool true]) w) (t : Int) (KJ : Tell 37 #[.int .i64 a, .int .i64 y, .int .i64 z] (.int .i64 t) w) :
    Calls Tryd.prog 39 #[.int .i64 s, .int .u64 H, .int .u64 M, .int .u64 S] w fun e w' => e = .returned (.tuple #[.int .i64 t, .bool true]) ∧ w = w' := by
  unfold Tell at *
  go_enter Tryd.func39, Tryd.ntmps39
  go_wp2_with fail
  refine K.mono ?_
  rintro e w' ⟨rfl, rfl⟩
  clear K
  go_wp2_with fail
  refine KP.mono ?_
  rintro e w' ⟨rfl, rfl⟩
  clear KP
  go_wp2_with fail
  refine KH.mono ?_
  rintro e w' ⟨rfl, rfl⟩
  clear KH
  go_wp2_with fail
  refine KM.mono ?_
  rintro e w' ⟨rfl, rfl⟩
  clear KM
  go_wp2_with fail
  refine KC.mono ?_
  rintro e w' ⟨rfl, rfl⟩
  clear KC
  go_wp2_with fail
  refine KB.mono ?_
  rintro e w' ⟨rfl, rfl⟩
  clear KB
  go_wp2_with fail
  refine KL.mono ?_
  rintro e w' ⟨rfl, rfl⟩
  clear KL
  go_wp2_with fail
  refine KJ.mono ?_
  rintro e w' ⟨rfl, rfl⟩
  clear KJ
  go_wp2
  go_ret2
  exact ⟨rfl, rfl⟩
set_option maxRecDepth 20000 in
theorem nx_3b (s n : Int) (dm : max s 0 = n) (H M S h m x a b c : Int) (w : World) (K : Tell 34 #[.int .u64 H, .int .u64 M, .int .u64 S] (.tuple #[.int .u64 h, .int .u64 m, .int .u64 x, .bool true]) w)
    (KP : Tell 60 #[.int .i64 n] (.tuple #[.int .i64 a, .int .i64 b, .int .i64 c, .bool true]) w)
    (KH : Tell 61 #[.int .u64 h, .int .i64 a] (.bool true) w) (KM : Tell 61 #[.int .u64 m, .int .i64 b] (.bool false) w) (y : Int) (KB : Tell 63 #[.int .u64 m, .int .i64 b] (.tuple #[.int .i64 y, .bool true]) w) (z : Int) (KL : Tell 42 #[.int .u64 x] (.tuple #[.int .i64 z, .bool true]) w) (t : Int) (KJ : Tell 37 #[.int .i64 a, .int .i64 y, .int .i64 z] (.int .i64 t) w) :
    Calls Tryd.prog 39 #[.int .i64 s, .int .u64 H, .int .u64 M, .int .u64 S] w fun e w' => e = .returned (.tuple #[.int .i64 t, .bool true]) ∧ w = w' := by
  unfold Tell at *
  go_enter Tryd.func39, Tryd.ntmps39
  go_wp2_with fail
  refine K.mono ?_
  rintro e w' ⟨rfl, rfl⟩
  clear K
  go_wp2_with fail
  refine KP.mono ?_
  rintro e w' ⟨rfl, rfl⟩
  clear KP
  go_wp2_with fail
  refine KH.mono ?_
  rintro e w' ⟨rfl, rfl⟩
  clear KH
  go_wp2_with fail
  refine KM.mono ?_
  rintro e w' ⟨rfl, rfl⟩
  clear KM
  go_wp2_with fail
  refine KB.mono ?_
  rintro e w' ⟨rfl, rfl⟩
  clear KB
  go_wp2_with fail
  refine KL.mono ?_
  rintro e w' ⟨rfl, rfl⟩
  clear KL
  go_wp2_with fail
  refine KJ.mono ?_
  rintro e w' ⟨rfl, rfl⟩
  clear KJ
  go_wp2
  go_ret2
  exact ⟨rfl, rfl⟩
set_option maxRecDepth 20000 in
theorem nx_4 (s n : Int) (dm : max s 0 = n) (H M S h m x a b c : Int) (w : World) (K : Tell 34 #[.int .u64 H, .int .u64 M, .int .u64 S] (.tuple #[.int .u64 h, .int .u64 m, .int .u64 x, .bool true]) w)
    (KP : Tell 60 #[.int .i64 n] (.tuple #[.int .i64 a, .int .i64 b, .int .i64 c, .bool true]) w)
    (KH : Tell 61 #[.int .u64 h, .int .i64 a] (.bool true) w) (KM : Tell 61 #[.int .u64 m, .int .i64 b] (.bool true) w) (hc : 0 ≤ c ∧ c < 60) (KC : Tell 63 #[.int .u64 x, .int .i64 (c - 1)] (.tuple #[.int .i64 0, .bool false]) w) (KB : Tell 63 #[.int .u64 m, .int .i64 b] (.tuple #[.int .i64 0, .bool false]) w) (t : Int) (ok : Bool) (KF : Tell 62 #[.int .u64 h, .int .u64 m, .int .u64 x, .int .i64 a] (.tuple #[.int .i64 t, .bool ok]) w) :
    Calls Tryd.prog 39 #[.int .i64 s, .int .u64 H, .int .u64 M, .int .u64 S] w fun e w' => e = .returned (.tuple #[.int .i64 t, .bool ok]) ∧ w = w' := by
  unfold Tell at *
  go_enter Tryd.func39, Tryd.ntmps39
  go_wp2_with fail
  refine K.mono ?_
  rintro e w' ⟨rfl, rfl⟩
  clear K
  go_wp2_with fail
  refine KP.mono ?_
  rintro e w' ⟨rfl, rfl⟩
  clear KP
  go_wp2_with fail
  refine KH.mono ?_
  rintro e w' ⟨rfl, rfl⟩
  clear KH
  go_wp2_with fail
  refine KM.mono ?_
  rintro e w' ⟨rfl, rfl⟩
  clear KM
  go_wp2_with fail
  refine KC.mono ?_
  rintro e w' ⟨rfl, rfl⟩
  clear KC
  go_wp2_with fail
  refine KB.mono ?_
  rintro e w' ⟨rfl, rfl⟩
  clear KB
  go_wp2_with fail
  refine KF.mono ?_
  rintro e w' ⟨rfl, rfl⟩
  clear KF
  go_wp2
  go_ret2
  exact ⟨rfl, rfl⟩
set_option maxRecDepth 20000 in
theorem nx_4b (s n : Int) (dm : max s 0 = n) (H M S h m x a b c : Int) (w : World) (K : Tell 34 #[.int .u64 H, .int .u64 M, .int .u64 S] (.tuple #[.int .u64 h, .int .u64 m, .int .u64 x, .bool true]) w)
    (KP : Tell 60 #[.int .i64 n] (.tuple #[.int .i64 a, .int .i64 b, .int .i64 c, .bool true]) w)
    (KH : Tell 61 #[.int .u64 h, .int .i64 a] (.bool true) w) (KM : Tell 61 #[.int .u64 m, .int .i64 b] (.bool false) w) (KB : Tell 63 #[.int .u64 m, .int .i64 b] (.tuple #[.int .i64 0, .bool false]) w) (t : Int) (ok : Bool) (KF : Tell 62 #[.int .u64 h, .int .u64 m, .int .u64 x, .int .i64 a] (.tuple #[.int .i64 t, .bool ok]) w) :
    Calls Tryd.prog 39 #[.int .i64 s, .int .u64 H, .int .u64 M, .int .u64 S] w fun e w' => e = .returned (.tuple #[.int .i64 t, .bool ok]) ∧ w = w' := by
  unfold Tell at *
  go_enter Tryd.func39, Tryd.ntmps39
  go_wp2_with fail
  refine K.mono ?_
  rintro e w' ⟨rfl, rfl⟩
  clear K
  go_wp2_with fail
  refine KP.mono ?_
  rintro e w' ⟨rfl, rfl⟩
  clear KP
  go_wp2_with fail
  refine KH.mono ?_
  rintro e w' ⟨rfl, rfl⟩
  clear KH
  go_wp2_with fail
  refine KM.mono ?_
  rintro e w' ⟨rfl, rfl⟩
  clear KM
  go_wp2_with fail
  refine KB.mono ?_
  rintro e w' ⟨rfl, rfl⟩
  clear KB
  go_wp2_with fail
  refine KF.mono ?_
  rintro e w' ⟨rfl, rfl⟩
  clear KF
  go_wp2
  go_ret2
  exact ⟨rfl, rfl⟩
/-- the next one, or none -/
def NextOr (s : Int) (n : Nat) (H M S : Nat) : Prop := (∃ t : Nat, IsNext (pM H M S) n t ∧ NextIs s H M S t true) ∨ (NoNext (pM H M S) n ∧ NextIs s H M S 0 false)
theorem no_mask {H M S : Nat} (ho : okT (hd H) (hm M) (hm S) = false) (t : Nat) : pM H M S t = false := by
  unfold pM
  by_cases e1 : hd H = 0
  · exact pT_no_a (by rw [e1]; exact Nat.zero_testBit _)
  · by_cases e2 : hm M = 0
    · exact pT_no_b (by rw [e2]; exact Nat.zero_testBit _)
    · by_cases e3 : hm S = 0
      · exact pT_no_c (by rw [e3]; exact Nat.zero_testBit _)
      · unfold okT at ho; simp [e1, e2, e3] at ho
theorem first_or (H M S n : Nat) (hn : n < 86400) (hH : H < 18446744073709551616) (hM : M < 18446744073709551616) (hS : S < 18446744073709551616) (ho : okT (hd H) (hm M) (hm S) = true) (hr : ∀ u, n ≤ u → u / 3600 = n / 3600 → pM H M S u = false) :
    (∃ t : Nat, IsNext (pM H M S) n t ∧ ∀ w, Tab w → Tell 62 #[.int .u64 (hd H), .int .u64 (hm M), .int .u64 (hm S), .int .i64 (n / 3600 : Nat)] (.tuple #[.int .i64 t, .bool true]) w) ∨
    (NoNext (pM H M S) n ∧ ∀ w, Tab w → Tell 62 #[.int .u64 (hd H), .int .u64 (hm M), .int .u64 (hm S), .int .i64 (n / 3600 : Nat)] (.tuple #[.int .i64 0, .bool false]) w) := by
  obtain ⟨n1, n2, n3⟩ := ok_parts ho
  have hi : I64 ((n / 3600 : Nat) : Int) := ⟨by omega, by omega⟩
  by_cases h0 : above (hd H) ((n / 3600 : Nat) : Int) = 0
  · refine .inr ⟨next_none (fun i h1 h2 => above_no h0 i (by omega) (by omega)) hr, fun w hT => first_no _ _ _ _ w (hd_lt H) hi h0 hT⟩
  · obtain ⟨a1, a2, a3, a4⟩ := above_yes h0
    obtain ⟨b1, b2, b3⟩ := lo_spec (hm M) (hm_lt M) n2
    obtain ⟨c1, c2, c3⟩ := lo_spec (hm S) (hm_lt S) n3
    have ba := hd_far a3
    have bb := hm_far b2
    have bc := hm_far c2
    refine .inl ⟨3600 * lo (above (hd H) ((n / 3600 : Nat) : Int)) + 60 * lo (hm M) + lo (hm S), next_a ba a3 bb b2 bc c2 (by omega) (fun i h1 h2 => a4 i (by omega) h2) b3 c3 hr, fun w hT => ?_⟩
    have K := first_yes (hd H) (hm M) (hm S) _ w (hd_lt H) (hm_lt M) (hm_lt S) hi h0 n2 n3 ⟨by omega, by omega, by omega, by omega, by omega, by omega⟩ hT
    have he : (3600 * (lo (above (hd H) ((n / 3600 : Nat) : Int)) : Int) + 60 * (lo (hm M) : Int) + (lo (hm S) : Int)) = ((3600 * lo (above (hd H) ((n / 3600 : Nat) : Int)) + 60 * lo (hm M) + lo (hm S) : Nat) : Int) := by omega
    rw [he] at K
    exact K
theorem bit_has (m i : Nat) (w : World) (hm : m < 18446744073709551616) (hi : i < 64) : Tell 61 #[.int .u64 m, .int .i64 i] (.bool (m.testBit i)) w := by
  have := has_any m i w hm
  rw [inM_in m i hi] at this
  exact this
theorem next_some {m : Nat} {n : Int} {w : World} (hm : m < 18446744073709551616) (hn : I64 n) (hT : Tab w) (h : above m n ≠ 0) : Tell 63 #[.int .u64 m, .int .i64 n] (.tuple #[.int .i64 (lo (above m n)), .bool true]) w := by
  have := next_any m n w hm hn hT
  rw [leastV_some h] at this
  exact this
theorem next_nil {m : Nat} {n : Int} {w : World} (hm : m < 18446744073709551616) (hn : I64 n) (hT : Tab w) (h : above m n = 0) : Tell 63 #[.int .u64 m, .int .i64 n] (.tuple #[.int .i64 0, .bool false]) w := by
  have := next_any m n w hm hn hT
  rw [h] at this
  exact this
theorem tnext_or (s : Int) (n : Nat) (dm : max s 0 = (n : Int)) (H M S : Nat) (hH : H < 18446744073709551616) (hM : M < 18446744073709551616) (hS : S < 18446744073709551616) : NextOr s n H M S := by
  have KH0 : ∀ w, Tell 34 #[.int .u64 H, .int .u64 M, .int .u64 S] (.tuple #[.int .u64 (hd H), .int .u64 (hm M), .int .u64 (hm S), .bool (okT (hd H) (hm M) (hm S))]) w := fun w => held_any H M S hH hM hS w
  by_cases hs : 86400 ≤ n
  · refine .inr ⟨fun u h1 h2 => absurd h2 (by omega), fun w hT => ?_⟩
    have KP : Tell 60 #[.int .i64 n] (.tuple #[.int .i64 0, .int .i64 0, .int .i64 0, .bool false]) w := tparts_no n w (by omega)
    have K := KH0 w
    cases hb : okT (hd H) (hm M) (hm S)
    · rw [hb] at K
      exact nx_held_far s n dm H M S _ _ _ 0 0 0 w K KP
    · rw [hb] at K
      exact nx_far s n dm H M S _ _ _ 0 0 0 w K KP
  · have hn : n < 86400 := by omega
    have KP : ∀ w, Tell 60 #[.int .i64 n] (.tuple #[.int .i64 (n / 3600 : Nat), .int .i64 (n / 60 % 60 : Nat), .int .i64 (n % 60 : Nat), .bool true]) w := fun w => tparts_yes n w (by omega) (by omega)
    cases hb : okT (hd H) (hm M) (hm S)
    · rw [hb] at KH0
      exact .inr ⟨fun u _ _ => no_mask hb u, fun w _ => nx_held s n dm H M S _ _ _ _ _ _ w (KH0 w) (KP w)⟩
    · rw [hb] at KH0
      obtain ⟨n1, n2, n3⟩ := ok_parts hb
      have ic : I64 (((n % 60 : Nat) : Int) - 1) := ⟨by omega, by omega⟩
      have ib : I64 ((n / 60 % 60 : Nat) : Int) := ⟨by omega, by omega⟩
      have hcc : 0 ≤ ((n % 60 : Nat) : Int) ∧ ((n % 60 : Nat) : Int) < 60 := ⟨by omega, by omega⟩
      have GH := fun w => bit_has (hd H) (n / 3600) w (hd_lt H) (by omega)
      have GM := fun w => bit_has (hm M) (n / 60 % 60) w (hm_lt M) (by omega)
      cases hbh : (hd H).testBit (n / 3600)
      · rw [hbh] at GH
        rcases first_or H M S n hn hH hM hS hb (hour_a hbh) with ⟨t, ht, KF⟩ | ⟨hno, KF⟩
        · exact .inl ⟨t, ht, fun w hT => nx_1 s n dm H M S _ _ _ _ _ _ w (KH0 w) (KP w) (GH w) t true (KF w hT)⟩
        · exact .inr ⟨hno, fun w hT => nx_1 s n dm H M S _ _ _ _ _ _ w (KH0 w) (KP w) (GH w) 0 false (KF w hT)⟩
      · rw [hbh] at GH
        cases hbm : (hm M).testBit (n / 60 % 60)
        · rw [hbm] at GM
          have hrc : (hm M).testBit (n / 60 % 60) = true → ∀ i, n % 60 ≤ i → i < 60 → (hm S).testBit i = false := fun h => by rw [hbm] at h; cases h
          by_cases hy : above (hm M) ((n / 60 % 60 : Nat) : Int) = 0
          · have hou := hour_b (a := (hd H).testBit) (fun i h1 h2 => above_no hy i (by omega) (by omega)) hrc
            rcases first_or H M S n hn hH hM hS hb hou with ⟨t, ht, KF⟩ | ⟨hno, KF⟩
            · exact .inl ⟨t, ht, fun w hT => nx_4b s n dm H M S _ _ _ _ _ _ w (KH0 w) (KP w) (GH w) (GM w) (next_nil (hm_lt M) ib hT hy) t true (KF w hT)⟩
            · exact .inr ⟨hno, fun w hT => nx_4b s n dm H M S _ _ _ _ _ _ w (KH0 w) (KP w) (GH w) (GM w) (next_nil (hm_lt M) ib hT hy) 0 false (KF w hT)⟩
          · obtain ⟨y1, y2, y3, y4⟩ := above_yes hy
            obtain ⟨z1, z2, z3⟩ := lo_spec (hm S) (hm_lt S) n3
            have by' := hm_far y3
            have bz := hm_far z2
            refine .inl ⟨_, next_b hn hbh by' y3 bz z2 (by omega) (fun i h1 h2 => y4 i (by omega) h2) z3 hrc, fun w hT => ?_⟩
            refine nx_3b s n dm H M S _ _ _ _ _ _ w (KH0 w) (KP w) (GH w) (GM w) _ (next_some (hm_lt M) ib hT hy) _ (least_yes (hm S) w (hm_lt S) n3 hT) _ ?_
            have KJ := tjoin_any ((n / 3600 : Nat) : Int) (lo (above (hm M) ((n / 60 % 60 : Nat) : Int)) : Nat) (lo (hm S) : Nat) w ⟨by omega, by omega, by omega, by omega, by omega, by omega⟩
            have he : (3600 * ((n / 3600 : Nat) : Int) + 60 * ((lo (above (hm M) ((n / 60 % 60 : Nat) : Int)) : Nat) : Int) + ((lo (hm S) : Nat) : Int)) = ((3600 * (n / 3600) + 60 * lo (above (hm M) ((n / 60 % 60 : Nat) : Int)) + lo (hm S) : Nat) : Int) := by omega
            rw [he] at KJ
            exact KJ
        · rw [hbm] at GM
          by_cases hz : above (hm S) (((n % 60 : Nat) : Int) - 1) = 0
          · have hrc : (hm M).testBit (n / 60 % 60) = true → ∀ i, n % 60 ≤ i → i < 60 → (hm S).testBit i = false := fun _ i h1 h2 => above_no hz i (by omega) (by omega)
            by_cases hy : above (hm M) ((n / 60 % 60 : Nat) : Int) = 0
            · have hou := hour_b (a := (hd H).testBit) (fun i h1 h2 => above_no hy i (by omega) (by omega)) hrc
              rcases first_or H M S n hn hH hM hS hb hou with ⟨t, ht, KF⟩ | ⟨hno, KF⟩
              · exact .inl ⟨t, ht, fun w hT => nx_4 s n dm H M S _ _ _ _ _ _ w (KH0 w) (KP w) (GH w) (GM w) hcc (next_nil (hm_lt S) ic hT hz) (next_nil (hm_lt M) ib hT hy) t true (KF w hT)⟩
              · exact .inr ⟨hno, fun w hT => nx_4 s n dm H M S _ _ _ _ _ _ w (KH0 w) (KP w) (GH w) (GM w) hcc (next_nil (hm_lt S) ic hT hz) (next_nil (hm_lt M) ib hT hy) 0 false (KF w hT)⟩
            · obtain ⟨y1, y2, y3, y4⟩ := above_yes hy
              obtain ⟨z1, z2, z3⟩ := lo_spec (hm S) (hm_lt S) n3
              have by' := hm_far y3
              have bz := hm_far z2
              refine .inl ⟨_, next_b hn hbh by' y3 bz z2 (by omega) (fun i h1 h2 => y4 i (by omega) h2) z3 hrc, fun w hT => ?_⟩
              refine nx_3 s n dm H M S _ _ _ _ _ _ w (KH0 w) (KP w) (GH w) (GM w) hcc (next_nil (hm_lt S) ic hT hz) _ (next_some (hm_lt M) ib hT hy) _ (least_yes (hm S) w (hm_lt S) n3 hT) _ ?_
              have KJ := tjoin_any ((n / 3600 : Nat) : Int) (lo (above (hm M) ((n / 60 % 60 : Nat) : Int)) : Nat) (lo (hm S) : Nat) w ⟨by omega, by omega, by omega, by omega, by omega, by omega⟩
              have he : (3600 * ((n / 3600 : Nat) : Int) + 60 * ((lo (above (hm M) ((n / 60 % 60 : Nat) : Int)) : Nat) : Int) + ((lo (hm S) : Nat) : Int)) = ((3600 * (n / 3600) + 60 * lo (above (hm M) ((n / 60 % 60 : Nat) : Int)) + lo (hm S) : Nat) : Int) := by omega
              rw [he] at KJ
              exact KJ
          · obtain ⟨z1, z2, z3, z4⟩ := above_yes hz
            have bz := hm_far z3
            refine .inl ⟨_, next_c hn hbh hbm bz z3 (by omega) (fun i h1 h2 => z4 i (by omega) h2), fun w hT => ?_⟩
            refine nx_2 s n dm H M S _ _ _ _ _ _ w (KH0 w) (KP w) (GH w) (GM w) _ hcc (next_some (hm_lt S) ic hT hz) _ ?_
            have KJ := tjoin_any ((n / 3600 : Nat) : Int) ((n / 60 % 60 : Nat) : Int) (lo (above (hm S) (((n % 60 : Nat) : Int) - 1)) : Nat) w ⟨by omega, by omega, by omega, by omega, by omega, by omega⟩
            have he : (3600 * ((n / 3600 : Nat) : Int) + 60 * ((n / 60 % 60 : Nat) : Int) + ((lo (above (hm S) (((n % 60 : Nat) : Int) - 1)) : Nat) : Int)) = ((3600 * (n / 3600) + 60 * (n / 60 % 60) + lo (above (hm S) (((n % 60 : Nat) : Int) - 1)) : Nat) : Int) := by omega
            rw [he] at KJ
            exact KJ
end Go.Proofs.YtjpdfbljhbgbcaaDoor
