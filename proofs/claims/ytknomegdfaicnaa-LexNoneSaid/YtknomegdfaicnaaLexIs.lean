/- The reader of layer 11: contracts of New, one, Is, Word, Blanks, Number at the chapter's example; the walk of lives. -/
import Derived.Test.YtknomegdfaicnaaLexTake
namespace Go.Proofs.Ytknomegdfaicnaa
open Go.RowKit
set_option linter.unusedVariables false

theorem new_ok (s : ByteArray) (w : World) (hs : s.size ≤ 8192) : Calls Try.prog 35 #[.string s] w fun e w' => e = .returned (.pointer (some ⟨w.heap.size, 0, none⟩)) ∧ Rd w' w.heap.size s 0 0 0 ∧ Below w.heap.size w w' := by
  have d : decide ((8192 : Int) < (s.size : Int)) = false := decide_eq_false (by omega)
  go_enter Try.func35, Try.ntmps35
  go_wp2
  go_ret
  exact ⟨rfl, blk_new _ _, (Below.refl _ _).alloc (Nat.le_refl _) _⟩
set_option maxHeartbeats 800000 in
theorem one_yes (R C cap : Nat) (s : ByteArray) (a : Nat) (wh : Int) (w : World) (h : Rd w R s a wh 0) (ha : a < s.size) (hs : s.size ≤ 10000) (hc : w.cell? ⟨C, 0, none⟩ = some (.int .u8 (s[a]'ha).toNat)) :
    Calls Try.prog 62 #[.pointer (some ⟨R, 0, none⟩), .slice (some ⟨C, 0, none⟩) 1 cap] w fun e w' => e = .returned (.tuple #[.int .u8 (s[a]'ha).toNat, .bool true]) ∧ Rd w' R s (a + 1) wh 0 ∧ But (fun b => b = R) w w' := by
  have k := done_no R s a wh w h ha
  have H := Lib.hid h
  have HC := Lib.hid hc
  clear h hc
  go_enter Try.func62, Try.ntmps62
  go_wp2_with fail
  refine k.mono ?_
  rintro e w1 ⟨rfl, q⟩
  have h1 := H.out.quiet q
  have c0 := h1.c0
  have c1 := h1.c1
  have fz := h1.fz 1
  have hc1 : w1.cell? ⟨C, 0, none⟩ = some (.int .u8 (s[a]'ha).toNat) := by obtain ⟨n, rfl⟩ := q; exact HC.out
  have i0 : (0 : Int) ≤ (a : Int) := by omega
  have i1 : (a : Int) < (s.size : Int) := by omega
  have H1 := Lib.hid h1
  clear k h1
  go_wp2
  refine wp_loop_rounds 1 ?_
  rw [rounds_succ]
  go_wp2
  go_quiet (fail)
  go_wp2
  go_ret2
  exact ⟨rfl, (H1.out.quiet (Quiet.of _ _)).set (a + 1), ((q.but (fun b => b = R)).drewN _).setCell (.inr rfl) _⟩
theorem is_yes (R C cap : Nat) (s : ByteArray) (a : Nat) (wh : Int) (w : World) (h : Rd w R s a wh 0) (ha : a < s.size) (hs : s.size ≤ 10000) (hc : w.cell? ⟨C, 0, none⟩ = some (.int .u8 (s[a]'ha).toNat)) :
    Calls Try.prog 30 #[.pointer (some ⟨R, 0, none⟩), .slice (some ⟨C, 0, none⟩) 1 cap] w fun e w' => e = .returned (.bool true) ∧ Rd w' R s (a + 1) wh 0 ∧ But (fun b => b = R) w w' := by
  have k := one_yes R C cap s a wh w h ha hs hc
  clear h hc
  go_enter Try.func30, Try.ntmps30
  go_wp2_with fail
  refine k.mono ?_
  rintro e w1 ⟨rfl, hr, hb⟩
  go_wp2
  go_ret
  exact ⟨rfl, hr, hb⟩
def letB (c : UInt8) : Bool := decide (65 ≤ c.toNat ∧ c.toNat ≤ 90 ∨ 97 ≤ c.toNat ∧ c.toNat ≤ 122)
def blaB (c : UInt8) : Bool := decide (c.toNat = 32 ∨ c.toNat = 9)
def digB (c : UInt8) : Bool := decide (48 ≤ c.toNat ∧ c.toNat ≤ 57)
theorem dec_t {p : Prop} [Decidable p] (h : p) : decide p = true := decide_eq_true h
theorem dec_n {p : Prop} [Decidable p] (h : ¬ p) : decide p = false := decide_eq_false h
theorem let_any (c : UInt8) (w : World) : Calls Try.prog 65 #[.int .u8 c.toNat] w fun e w' => e = .returned (.bool (letB c)) ∧ w' = w := by
  generalize hn : c.toNat = n
  have hl : letB c = decide (65 ≤ n ∧ n ≤ 90 ∨ 97 ≤ n ∧ n ≤ 122) := by unfold letB; rw [hn]
  rw [hl]
  clear hl hn
  by_cases h1 : 65 ≤ n
  · have d1 := dec_t (show (65 : Int) ≤ (n : Int) by omega)
    by_cases h2 : n ≤ 90
    · rw [dec_t (show 65 ≤ n ∧ n ≤ 90 ∨ 97 ≤ n ∧ n ≤ 122 by omega)]
      have d2 := dec_t (show (n : Int) ≤ 90 by omega)
      go_enter Try.func65, Try.ntmps65
      go_wp2
      go_ret
      exact ⟨rfl, rfl⟩
    · have d2 := dec_n (show ¬ (n : Int) ≤ 90 by omega)
      by_cases h3 : 97 ≤ n
      · have d3 := dec_t (show (97 : Int) ≤ (n : Int) by omega)
        by_cases h4 : n ≤ 122
        · rw [dec_t (show 65 ≤ n ∧ n ≤ 90 ∨ 97 ≤ n ∧ n ≤ 122 by omega)]
          have d4 := dec_t (show (n : Int) ≤ 122 by omega)
          go_enter Try.func65, Try.ntmps65
          go_wp2
          go_ret
          exact ⟨rfl, rfl⟩
        · rw [dec_n (show ¬ (65 ≤ n ∧ n ≤ 90 ∨ 97 ≤ n ∧ n ≤ 122) by omega)]
          have d4 := dec_n (show ¬ (n : Int) ≤ 122 by omega)
          go_enter Try.func65, Try.ntmps65
          go_wp2
          go_ret
          exact ⟨rfl, rfl⟩
      · rw [dec_n (show ¬ (65 ≤ n ∧ n ≤ 90 ∨ 97 ≤ n ∧ n ≤ 122) by omega)]
        have d3 := dec_n (show ¬ (97 : Int) ≤ (n : Int) by omega)
        go_enter Try.func65, Try.ntmps65
        go_wp2
        go_ret
        exact ⟨rfl, rfl⟩
  · rw [dec_n (show ¬ (65 ≤ n ∧ n ≤ 90 ∨ 97 ≤ n ∧ n ≤ 122) by omega)]
    have d1 := dec_n (show ¬ (65 : Int) ≤ (n : Int) by omega)
    have d3 := dec_n (show ¬ (97 : Int) ≤ (n : Int) by omega)
    go_enter Try.func65, Try.ntmps65
    go_wp2
    go_ret
    exact ⟨rfl, rfl⟩
theorem bla_any (c : UInt8) (w : World) : Calls Try.prog 64 #[.int .u8 c.toNat] w fun e w' => e = .returned (.bool (blaB c)) ∧ w' = w := by
  generalize hn : c.toNat = n
  have hl : blaB c = decide (n = 32 ∨ n = 9) := by unfold blaB; rw [hn]
  rw [hl]
  clear hl hn
  by_cases h1 : n = 32
  · rw [dec_t (show n = 32 ∨ n = 9 by omega)]
    subst h1
    go_enter Try.func64, Try.ntmps64
    go_wp2
    go_ret
    exact ⟨rfl, rfl⟩
  · have d1 : ((n : Int) == 32) = false := by rw [beq_eq_false_iff_ne]; omega
    by_cases h2 : n = 9
    · rw [dec_t (show n = 32 ∨ n = 9 by omega)]
      subst h2
      clear h1
      go_enter Try.func64, Try.ntmps64
      go_wp2
      go_ret
      exact ⟨rfl, rfl⟩
    · rw [dec_n (show ¬ (n = 32 ∨ n = 9) by omega)]
      have d2 : ((n : Int) == 9) = false := by rw [beq_eq_false_iff_ne]; omega
      clear h1 h2
      go_enter Try.func64, Try.ntmps64
      go_wp2
      go_ret
      exact ⟨rfl, rfl⟩
theorem dig_any (c : UInt8) (w : World) : Calls Try.prog 60 #[.int .u8 c.toNat] w fun e w' => e = .returned (.bool (digB c)) ∧ w' = w := by
  generalize hn : c.toNat = n
  have hl : digB c = decide (48 ≤ n ∧ n ≤ 57) := by unfold digB; rw [hn]
  rw [hl]
  clear hl hn
  by_cases h1 : 48 ≤ n
  · have d1 := dec_t (show (48 : Int) ≤ (n : Int) by omega)
    by_cases h2 : n ≤ 57
    · rw [dec_t (show 48 ≤ n ∧ n ≤ 57 by omega)]
      have d2 := dec_t (show (n : Int) ≤ 57 by omega)
      go_enter Try.func60, Try.ntmps60
      go_wp2
      go_ret
      exact ⟨rfl, rfl⟩
    · rw [dec_n (show ¬ (48 ≤ n ∧ n ≤ 57) by omega)]
      have d2 := dec_n (show ¬ (n : Int) ≤ 57 by omega)
      go_enter Try.func60, Try.ntmps60
      go_wp2
      go_ret
      exact ⟨rfl, rfl⟩
  · rw [dec_n (show ¬ (48 ≤ n ∧ n ≤ 57) by omega)]
    have d1 := dec_n (show ¬ (48 : Int) ≤ (n : Int) by omega)
    go_enter Try.func60, Try.ntmps60
    go_wp2
    go_ret
    exact ⟨rfl, rfl⟩
theorem enters {P : Program} {f : FuncId} {fn : Func} {c : Code} (hf : P.funcs[f]? = some fn) (hname : (fn.name == "runtime.NumGoroutine") = false) (hb : fn.body = some c) (args : Array Value) (w : World) :
    Sem.run P (callFunc f args) w = .ok (.enter f args) w := by
  have h1 : fn.name ≠ "runtime.NumGoroutine" := by simpa using hname
  simp [callFunc, hf, h1, hb]
theorem word_any (R : Nat) (s : ByteArray) (a : Nat) (wh : Int) (w : World) (h : Rd w R s a wh 0) (ha : a ≤ s.size) (hs : s.size ≤ 10000) :
    Calls Try.prog 34 #[.pointer (some ⟨R, 0, none⟩)] w fun e w' => e = .returned (.string (s.extract a (endOf letB s a))) ∧ Rd w' R s (endOf letB s a) wh 0 ∧ But (fun b => b = R) w w' := by
  have k := take_any 65 letB let_any (enters Try.func65 (by kernel_rfl) rfl) R s a wh w h ha hs
  clear h
  go_enter Try.func34, Try.ntmps34
  go_wp2_with fail
  refine k.mono ?_
  rintro e w1 ⟨rfl, hr, hb⟩
  go_wp2
  go_ret
  exact ⟨rfl, hr, hb⟩
theorem blanks_any (R : Nat) (s : ByteArray) (a : Nat) (wh : Int) (w : World) (h : Rd w R s a wh 0) (ha : a ≤ s.size) (hs : s.size ≤ 10000) :
    Calls Try.prog 33 #[.pointer (some ⟨R, 0, none⟩)] w fun e w' => e = .returned (.int .i64 (endOf blaB s a - a : Nat)) ∧ Rd w' R s (endOf blaB s a) wh 0 ∧ But (fun b => b = R) w w' := by
  have k := take_any 64 blaB bla_any (enters Try.func64 (by kernel_rfl) rfl) R s a wh w h ha hs
  have hz : (s.extract a (endOf blaB s a)).size = endOf blaB s a - a := cut_size s a _ (endOf_ge _ _ _) (endOf_le _ _ _ ha)
  clear h
  generalize hX : s.extract a (endOf blaB s a) = X at k hz
  clear hX
  have HZ := Lib.hid hz
  clear hz
  go_enter Try.func33, Try.ntmps33
  go_wp2_with fail
  refine k.mono ?_
  rintro e w1 ⟨rfl, hr, hb⟩
  go_wp2
  go_ret
  exact ⟨by rw [← HZ.out]; rfl, hr, hb⟩
/-- the chapter's example -/
def exS : ByteArray := ⟨#[49, 50, 32, 97, 98]⟩
set_option maxHeartbeats 800000 in
theorem number_ex (R : Nat) (wh : Int) (w : World) (h : Rd w R exS 0 wh 0) :
    Calls Try.prog 26 #[.pointer (some ⟨R, 0, none⟩), .int .i64 3] w fun e w' => e = .returned (.tuple #[.int .i64 12, .bool true]) ∧ Rd w' R exS 2 wh 0 ∧ But (fun b => b = R) w w' := by
  have k0 := at_any R exS 0 wh 0 w h
  have k := take_any 60 digB dig_any (enters Try.func60 (by kernel_rfl) rfl) R exS 0 wh w h (Nat.zero_le _) (by decide)
  rw [show endOf digB exS 0 = 2 by decide, show exS.extract 0 2 = ⟨#[49, 50]⟩ by decide] at k
  clear h
  go_enter Try.func26, Try.ntmps26
  go_wp2_with fail
  refine k0.mono ?_
  rintro e w1 ⟨rfl, rfl⟩
  go_wp2_with fail
  refine k.mono ?_
  rintro e w1 ⟨rfl, hr, hb⟩
  go_wp2
  refine wp_loop_rounds 3 ?_
  rw [rounds_succ]
  go_wp2
  rw [rounds_succ]
  go_wp2
  rw [rounds_succ]
  go_wp2
  go_ret2
  exact ⟨rfl, hr, hb⟩
theorem not_lt {R n : Nat} (h : n ≤ R) : ∀ k, k < n → ¬ k = R := fun k hk e => by omega
theorem blanks_ex (R : Nat) (w : World) (h : Rd w R exS 2 0 0) : Calls Try.prog 33 #[.pointer (some ⟨R, 0, none⟩)] w fun e w' => e = .returned (.int .i64 1) ∧ Rd w' R exS 3 0 0 ∧ But (fun b => b = R) w w' := by
  have := blanks_any R exS 2 0 w h (by decide) (by decide)
  rwa [show endOf blaB exS 2 = 3 by decide] at this
theorem word_ex (R : Nat) (w : World) (h : Rd w R exS 3 0 0) : Calls Try.prog 34 #[.pointer (some ⟨R, 0, none⟩)] w fun e w' => e = .returned (.string ⟨#[97, 98]⟩) ∧ Rd w' R exS 5 0 0 ∧ But (fun b => b = R) w w' := by
  have := word_any R exS 3 0 w h (by decide) (by decide)
  rwa [show endOf letB exS 3 = 5 by decide, show exS.extract 3 5 = ⟨#[97, 98]⟩ by decide] at this
theorem lives11_any (w : World) : Calls Try.prog 36 #[] w fun e w' => e = .returned (.bool true) ∧ Below w.heap.size w w' := by
  have k0 : Calls Try.prog 35 #[.string ⟨#[49, 50, 32, 97, 98]⟩] w fun e w' => e = .returned (.pointer (some ⟨w.heap.size, 0, none⟩)) ∧ Rd w' w.heap.size exS 0 0 0 ∧ Below w.heap.size w w' := new_ok exS w (by decide)
  go_enter Try.func36, Try.ntmps36
  go_wp2_with fail
  refine k0.mono ?_
  rintro e w1 ⟨rfl, hr, hb⟩
  go_wp2_with fail
  refine (number_ex _ 0 _ hr).mono ?_
  rintro e w2 ⟨rfl, hr2, hb2⟩
  clear hr
  go_wp2_with fail
  refine (blanks_ex _ _ hr2).mono ?_
  rintro e w3 ⟨rfl, hr3, hb3⟩
  clear hr2
  go_wp2_with fail
  refine (word_ex _ _ hr3).mono ?_
  rintro e w4 ⟨rfl, hr4, hb4⟩
  clear hr3
  go_wp2_with fail
  refine (done_yes _ exS 5 0 _ hr4 (by decide)).mono ?_
  rintro e w5 ⟨rfl, q⟩
  clear hr4
  go_wp2
  go_ret
  exact ⟨rfl, Below.but hb (((hb2.trans hb3).trans hb4).trans (q.but _)) (not_lt (Nat.le_refl _))⟩
end Go.Proofs.Ytknomegdfaicnaa
