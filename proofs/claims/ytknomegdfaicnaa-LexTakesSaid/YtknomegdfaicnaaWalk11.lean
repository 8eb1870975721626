/- The walk of LexTakes (layer 11). -/
import Derived.Test.YtknomegdfaicnaaLexIs
namespace Go.Proofs.Ytknomegdfaicnaa
open Go.RowKit
set_option linter.unusedVariables false

def TakesAt (s : ByteArray) (R : Nat) (w : World) (g : Nat) (from' i : Value) (wr : World) : Prop :=
  ∃ k j : Nat, j ≤ k ∧ k ≤ s.size ∧ g = s.size - k ∧ from' = .int .i64 k ∧ i = .int .i64 j ∧ Rd wr R s k 0 0 ∧ But (fun b => b = R) w wr
set_option maxHeartbeats 1600000 in
set_option maxRecDepth 20000 in
theorem takes_in (s : ByteArray) (w : World) (hs : s.size ≤ 2000) : Calls Try.prog 7 #[.string s] w fun e w' => e = .returned (.bool true) ∧ Below w.heap.size w w' := by
  have d2 := dec_n (show ¬ (2000 : Int) < (s.size : Int) by omega)
  have k0 := new_ok s w (by omega)
  go_enter Try.func7, Try.ntmps7
  go_wp2_with fail
  refine k0.mono ?_
  rintro e w1 ⟨rfl, hr1, hb1⟩
  clear k0 d2
  have HB1 := Lib.hid hb1
  have HR1 := Lib.hid hr1
  clear hb1 hr1
  go_wp2
  go_loopg [4, 5] s.size (fun g f i wr => TakesAt s w.heap.size w1 g f i wr)
  case atStart => exact ⟨0, 0, Nat.le_refl _, Nat.zero_le _, rfl, rfl, rfl, HR1.out, But.refl _ _⟩
  case round =>
    obtain ⟨k, j, hjk, hk, hg, rfl, rfl, hr, hb⟩ := hrel
    have HB := Lib.hid hb
    have HG := Lib.hid hg
    clear hb hg HR1
    have j0 : (0 : Int) ≤ (j : Int) := by omega
    have k0 : (0 : Int) ≤ (k : Int) := by omega
    by_cases hlt : k < s.size
    · have dj := dec_t (show (j : Int) < (s.size : Int) by omega)
      have kd := done_no _ s k 0 wr hr hlt
      go_wp2_with fail
      refine kd.mono ?_
      rintro e w2 ⟨rfl, q2⟩
      replace hr := hr.quiet q2
      have HB2 := Lib.hid (HB.out.trans (q2.but _))
      clear kd HB q2
      obtain ⟨k1, ek1⟩ : ∃ k1, k1 = endOf letB s k := ⟨_, rfl⟩
      have kw := word_any _ s k 0 w2 hr hk (by omega)
      have l1 : k ≤ k1 := by rw [ek1]; exact endOf_ge _ _ _
      have l2 : k1 ≤ s.size := by rw [ek1]; exact endOf_le _ _ _ hk
      rw [← ek1] at kw
      clear ek1 hr
      obtain ⟨X, hX⟩ : ∃ X, s.extract k k1 = X := ⟨_, rfl⟩
      have hz := cut_size s k k1 l1 l2
      rw [hX] at kw hz
      have hz' : (X.size : Int) = (k1 : Int) - (k : Int) := by omega
      have HX := Lib.hid hX
      clear hz hX
      go_wp2_with fail
      refine kw.mono ?_
      rintro e w3 ⟨rfl, hr, hb3⟩
      have HB3 := Lib.hid (HB2.out.trans hb3)
      clear kw HB2 hb3
      have ka := at_any _ s k1 0 0 w3 hr
      have hX := HX.out
      have m1 : (k : Int) ≤ (k1 : Int) := by omega
      have m2 : (k1 : Int) ≤ (s.size : Int) := by omega
      go_wp2_with fail
      refine ka.mono ?_
      rintro e w' ⟨rfl, rfl⟩
      go_wp2_with fail
      refine ka.mono ?_
      rintro e w' ⟨rfl, rfl⟩
      go_wp2_with fail
      clear hX m1 m2 ka HX
      obtain ⟨k2, ek2⟩ : ∃ k2, k2 = endOf blaB s k1 := ⟨_, rfl⟩
      have kb := blanks_any _ s k1 0 w3 hr l2 (by omega)
      have l3 : k1 ≤ k2 := by rw [ek2]; exact endOf_ge _ _ _
      have l4 : k2 ≤ s.size := by rw [ek2]; exact endOf_le _ _ _ l2
      rw [← ek2] at kb
      clear ek2 hr
      refine kb.mono ?_
      rintro e w4 ⟨rfl, hr, hb4⟩
      have HB4 := Lib.hid (HB3.out.trans hb4)
      clear kb HB3 hb4
      have ka := at_any _ s k2 0 0 w4 hr
      have hq : ((k2 - k1 : Nat) : Int) = (k2 : Int) - (k1 : Int) := by omega
      have e1 : ((k2 : Int) - (k : Int) == (k1 : Int) - (k : Int) + ((k2 : Int) - (k1 : Int))) = true := by rw [beq_iff_eq]; omega
      have e2 : ((k2 : Int) - (k : Int) != (k1 : Int) - (k : Int) + ((k2 : Int) - (k1 : Int))) = false := by rw [bne_eq_false_iff_eq]; omega
      go_wp2_with fail
      refine ka.mono ?_
      rintro e w' ⟨rfl, rfl⟩
      go_wp2_with fail
      clear e1 e2 hq hz' ka
      have r0 : (0 : Int) ≤ (k2 : Int) := by omega
      have d1 : decide (k2 + 1 ≤ k) = false := decide_eq_false (by omega)
      have d2 : decide (k2 < k) = false := decide_eq_false (by omega)
      have d3 : decide ((k2 : Int) + 1 ≤ (k : Int)) = false := decide_eq_false (by omega)
      have jb : (j : Int) ≤ 2000 := by omega
      by_cases hk2 : k2 < s.size
      · have kp := peek_no _ s k2 0 w4 hr hk2
        refine kp.mono ?_
        rintro e w5 ⟨rfl, q5⟩
        replace hr := hr.quiet q5
        have HB5 := Lib.hid (HB4.out.trans (q5.but _))
        have kd := done_no _ s k2 0 w5 hr hk2
        clear kp HB4 q5
        go_wp2_with fail
        refine kd.mono ?_
        rintro e w6 ⟨rfl, q6⟩
        replace hr := hr.quiet q6
        have HB6 := Lib.hid (HB5.out.trans (q6.but _))
        clear kd HB5 q6
        have ki := is_yes _ w6.heap.size 1 s k2 0 (w6.alloc (.cells #[.int .u8 (s[k2]'hk2).toNat] 5)) (blk_more hr _) hk2 (by omega) (cell_new _ _ _ _)
        have HB7 := Lib.hid (HB6.out.alloc (.cells #[.int .u8 (s[k2]'hk2).toNat] 5))
        clear hr HB6
        go_wp2_with fail
        refine ki.mono ?_
        rintro e w7 ⟨rfl, hr, hb7⟩
        have HB8 := Lib.hid (HB7.out.trans hb7)
        clear ki HB7 hb7
        have ka := at_any _ s (k2 + 1) 0 0 w7 hr
        go_wp2_with fail
        refine ka.mono ?_
        rintro e w' ⟨rfl, rfl⟩
        go_wp2_with fail
        refine ka.mono ?_
        rintro e w' ⟨rfl, rfl⟩
        go_wp2_with fail
        go_roundg (s.size - (k2 + 1))
        case measure => rw [HG.out]; omega
        case rel => exact ⟨k2 + 1, j + 1, by omega, by omega, rfl, rfl, by go_num, hr, HB8.out⟩
      · have d4 : decide (k2 ≤ k) = false := decide_eq_false (by omega)
        have kp := peek_done _ s k2 0 w4 hr (by omega)
        refine kp.mono ?_
        rintro e w5 ⟨rfl, q5⟩
        replace hr := hr.quiet q5
        have HB5 := Lib.hid (HB4.out.trans (q5.but _))
        have kd := done_yes _ s k2 0 w5 hr (by omega)
        clear kp HB4 q5
        go_wp2_with fail
        refine kd.mono ?_
        rintro e w6 ⟨rfl, q6⟩
        replace hr := hr.quiet q6
        have HB6 := Lib.hid (HB5.out.trans (q6.but _))
        clear kd HB5 q6
        have ka := at_any _ s k2 0 0 w6 hr
        go_wp2_with fail
        refine ka.mono ?_
        rintro e w' ⟨rfl, rfl⟩
        go_wp2_with fail
        refine ka.mono ?_
        rintro e w' ⟨rfl, rfl⟩
        go_wp2_with fail
        go_roundg (s.size - k2)
        case measure => rw [HG.out]; omega
        case rel => exact ⟨k2, j + 1, by omega, by omega, rfl, rfl, by go_num, hr, HB6.out⟩
    · obtain rfl : k = s.size := by omega
      have HF : ∀ (wx : World), But (fun b => b = w.heap.size) w1 wx → ∀ wz, Below wx.heap.size wx wz → Below w.heap.size w wz := fun wx hx wz hz => Below.but HB1.out (hx.trans (But.of_below hz)) (not_lt (Nat.le_refl _))
      have HFF := Lib.hid HF
      clear HF
      by_cases hj : j < s.size
      · have dj := dec_t (show (j : Int) < (s.size : Int) by omega)
        have kd := done_yes _ s s.size 0 wr hr (Nat.le_refl _)
        go_wp2_with fail
        refine kd.mono ?_
        rintro e w2 ⟨rfl, q2⟩
        replace hr := hr.quiet q2
        have HB2 := Lib.hid (HB.out.trans (q2.but _))
        have kw := wrong_any _ s s.size 0 0 w2 hr
        clear kd HB q2
        go_wp2_with fail
        refine kw.mono ?_
        rintro e w3 ⟨rfl, q3⟩
        have HB3 := Lib.hid (HB2.out.trans (q3.but _))
        clear kw HB2 q3
        go_wp2_with fail
        refine (lives11_any _).mono ?_
        rintro e w4 ⟨rfl, hb4⟩
        go_wp2
        go_ret
        exact ⟨rfl, HFF.out _ HB3.out _ hb4⟩
      · have dj : decide (j < s.size) = false := decide_eq_false hj
        have dj2 : decide ((j : Int) < (s.size : Int)) = false := decide_eq_false (by omega)
        clear hj
        have kw := wrong_any _ s s.size 0 0 wr hr
        go_wp2_with fail
        refine kw.mono ?_
        rintro e w3 ⟨rfl, q3⟩
        have HB3 := Lib.hid (HB.out.trans (q3.but _))
        clear kw HB q3
        go_wp2_with fail
        refine (lives11_any _).mono ?_
        rintro e w4 ⟨rfl, hb4⟩
        go_wp2
        go_ret
        exact ⟨rfl, HFF.out _ HB3.out _ hb4⟩
theorem lexTakes_walk (s : ByteArray) (w : World) (ws : s.size ≤ maxLen) : Calls Try.prog 7 #[.string s] w fun e w' => e = .returned (.bool true) ∧ Below w.heap.size w w' := by
  unfold maxLen at ws
  by_cases hl : 2000 < s.size
  · have d := decide_eq_true (show (2000 : Int) < (s.size : Int) by omega)
    go_enter Try.func7, Try.ntmps7
    go_wp2_with fail
    refine (lives11_any _).mono ?_
    rintro e w1 ⟨rfl, hb⟩
    go_wp2
    go_ret
    exact ⟨rfl, hb⟩
  · exact takes_in s w (by omega)
end Go.Proofs.Ytknomegdfaicnaa
