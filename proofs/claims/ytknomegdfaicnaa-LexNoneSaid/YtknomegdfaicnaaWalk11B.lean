/- The walk of LexNone (layer 11). -/
import Derived.Test.YtknomegdfaicnaaLexNil
namespace Go.Proofs.Ytknomegdfaicnaa
open Go.RowKit
set_option linter.unusedVariables false

set_option maxHeartbeats 1600000 in
set_option maxRecDepth 100000 in
theorem lexNone_long (n k : Nat) (w : World) (hn : n ≤ 65535) (hM : 8180 + (n : Int) % 30 = (k : Int)) (hk : 8192 < k ∧ k ≤ 8209) : Calls Try.prog 6 #[.int .u16 n] w fun e w' => e = .returned (.bool true) ∧ Below w.heap.size w w' := by
  have hmk := make_zeros k (by omega)
  have hcv := conv_zeros k
  have HZ := Lib.hid (zeroS_size k)
  obtain ⟨hk1, hk2⟩ := hk
  have i1 : (n : Int) ≤ 65535 := by omega
  go_enter Try.func6, Try.ntmps6
  have b0 := Below.refl w.heap.size w
  go_wp2_with fail
  refine (fail_nil _).mono ?_
  rintro e x0 ⟨rfl, rfl⟩
  go_wp2_with fail
  refine (end_nil _).mono ?_
  rintro e x1 ⟨rfl, q1⟩
  have b1 := Below.but b0 (q1.but (fun _ => False)) (fun _ _ h => h)
  clear b0 q1
  go_wp2_with fail
  refine (wrong_nil _).mono ?_
  rintro e x2 ⟨rfl, rfl⟩
  go_wp2_with fail
  refine (number_nil _).mono ?_
  rintro e x3 ⟨rfl, q3⟩
  have b2 := Below.but b1 (q3.but (fun _ => False)) (fun _ _ h => h)
  clear b1 q3
  go_wp2_with fail
  refine (at_nil _).mono ?_
  rintro e x4 ⟨rfl, rfl⟩
  go_wp2_with fail
  refine (done_nil _).mono ?_
  rintro e x5 ⟨rfl, q5⟩
  have b3 := Below.but b2 (q5.but (fun _ => False)) (fun _ _ h => h)
  clear b2 q5
  go_wp2_with fail
  refine (peek_nil _).mono ?_
  rintro e x6 ⟨rfl, q6⟩
  have b4 := Below.but b3 (q6.but (fun _ => False)) (fun _ _ h => h)
  clear b3 q6
  go_wp2_with fail
  refine (is_nil _ _).mono ?_
  rintro e x7 ⟨rfl, q7⟩
  have b5 := Below.but ((b4).alloc b4.size _) (q7.but (fun _ => False)) (fun _ _ h => h)
  clear b4 q7
  go_wp2_with fail
  refine (must_nil _ _).mono ?_
  rintro e x8 ⟨rfl, q8⟩
  have b6 := Below.but ((b5).alloc b5.size _) (q8.but (fun _ => False)) (fun _ _ h => h)
  clear b5 q8
  go_wp2_with fail
  refine (text_nil _).mono ?_
  rintro e x9 ⟨rfl, q9⟩
  have b7 := Below.but b6 (q9.but (fun _ => False)) (fun _ _ h => h)
  clear b6 q9
  go_wp2_with fail
  refine (blanks_nil _).mono ?_
  rintro e x10 ⟨rfl, q10⟩
  have b8 := Below.but b7 (q10.but (fun _ => False)) (fun _ _ h => h)
  clear b7 q10
  go_wp2_with fail
  refine (word_nil _).mono ?_
  rintro e x11 ⟨rfl, q11⟩
  have b9 := Below.but b8 (q11.but (fun _ => False)) (fun _ _ h => h)
  clear b8 q11
  go_wp2_with fail
  have bz := b9.alloc b9.size (.cells (zeroC k) 5)
  refine (new_long (zeroS k) _ (by rw [HZ.out]; omega) (by rw [HZ.out]; omega)).mono ?_
  rintro e y0 ⟨rfl, hr, hb⟩
  replace bz := below_cut' bz hb
  rw [show (x11.alloc (.cells (zeroC k) 5)).heap.size = x11.heap.size + 1 by simp] at hr
  clear hmk hcv hb
  go_wp2_with fail
  refine (wrong_any _ _ _ _ _ _ hr).mono ?_
  rintro e y1 ⟨rfl, q1⟩
  replace hr := hr.quiet q1
  replace bz := Below.but bz (q1.but (fun _ => False)) (fun _ _ h => h)
  clear q1
  have dk : decide ((8192 : Int) < (k : Int)) = true := decide_eq_true (by omega)
  go_wp2_with fail
  refine (done_bad _ _ _ _ _ hr).mono ?_
  rintro e y2 ⟨rfl, q2⟩
  replace hr := hr.quiet q2
  replace bz := Below.but bz (q2.but (fun _ => False)) (fun _ _ h => h)
  clear q2
  go_wp2_with fail
  refine (is_bad _ _ _ _ _ _ (blk_more hr _)).mono ?_
  rintro e y3 ⟨rfl, q3⟩
  have bq := Below.but (bz.alloc bz.size _) (q3.but (fun _ => False)) (fun _ _ h => h)
  clear q3 bz hr
  go_wp2_with fail
  refine (lives11_any _).mono ?_
  rintro e y4 ⟨rfl, h4⟩
  go_wp2
  go_ret
  exact ⟨rfl, below_cut' bq h4⟩
set_option maxHeartbeats 1600000 in
set_option maxRecDepth 100000 in
theorem lexNone_fits (n k : Nat) (w : World) (hn : n ≤ 65535) (hM : 8180 + (n : Int) % 30 = (k : Int)) (hk : 8180 ≤ k ∧ k ≤ 8192) : Calls Try.prog 6 #[.int .u16 n] w fun e w' => e = .returned (.bool true) ∧ Below w.heap.size w w' := by
  have hmk := make_zeros k (by omega)
  have hcv := conv_zeros k
  have HZ := Lib.hid (zeroS_size k)
  obtain ⟨hk1, hk2⟩ := hk
  have i1 : (n : Int) ≤ 65535 := by omega
  go_enter Try.func6, Try.ntmps6
  have b0 := Below.refl w.heap.size w
  go_wp2_with fail
  refine (fail_nil _).mono ?_
  rintro e x0 ⟨rfl, rfl⟩
  go_wp2_with fail
  refine (end_nil _).mono ?_
  rintro e x1 ⟨rfl, q1⟩
  have b1 := Below.but b0 (q1.but (fun _ => False)) (fun _ _ h => h)
  clear b0 q1
  go_wp2_with fail
  refine (wrong_nil _).mono ?_
  rintro e x2 ⟨rfl, rfl⟩
  go_wp2_with fail
  refine (number_nil _).mono ?_
  rintro e x3 ⟨rfl, q3⟩
  have b2 := Below.but b1 (q3.but (fun _ => False)) (fun _ _ h => h)
  clear b1 q3
  go_wp2_with fail
  refine (at_nil _).mono ?_
  rintro e x4 ⟨rfl, rfl⟩
  go_wp2_with fail
  refine (done_nil _).mono ?_
  rintro e x5 ⟨rfl, q5⟩
  have b3 := Below.but b2 (q5.but (fun _ => False)) (fun _ _ h => h)
  clear b2 q5
  go_wp2_with fail
  refine (peek_nil _).mono ?_
  rintro e x6 ⟨rfl, q6⟩
  have b4 := Below.but b3 (q6.but (fun _ => False)) (fun _ _ h => h)
  clear b3 q6
  go_wp2_with fail
  refine (is_nil _ _).mono ?_
  rintro e x7 ⟨rfl, q7⟩
  have b5 := Below.but ((b4).alloc b4.size _) (q7.but (fun _ => False)) (fun _ _ h => h)
  clear b4 q7
  go_wp2_with fail
  refine (must_nil _ _).mono ?_
  rintro e x8 ⟨rfl, q8⟩
  have b6 := Below.but ((b5).alloc b5.size _) (q8.but (fun _ => False)) (fun _ _ h => h)
  clear b5 q8
  go_wp2_with fail
  refine (text_nil _).mono ?_
  rintro e x9 ⟨rfl, q9⟩
  have b7 := Below.but b6 (q9.but (fun _ => False)) (fun _ _ h => h)
  clear b6 q9
  go_wp2_with fail
  refine (blanks_nil _).mono ?_
  rintro e x10 ⟨rfl, q10⟩
  have b8 := Below.but b7 (q10.but (fun _ => False)) (fun _ _ h => h)
  clear b7 q10
  go_wp2_with fail
  refine (word_nil _).mono ?_
  rintro e x11 ⟨rfl, q11⟩
  have b9 := Below.but b8 (q11.but (fun _ => False)) (fun _ _ h => h)
  clear b8 q11
  go_wp2_with fail
  have bz := b9.alloc b9.size (.cells (zeroC k) 5)
  have hz0 : 0 < (zeroS k).size := by rw [HZ.out]; omega
  have HB := Lib.hid (zeroS_at k 0 hz0)
  refine (new_ok (zeroS k) _ (by rw [HZ.out]; omega)).mono ?_
  rintro e y0 ⟨rfl, hr, hb⟩
  replace bz := below_cut' bz hb
  rw [show (x11.alloc (.cells (zeroC k) 5)).heap.size = x11.heap.size + 1 by simp] at hr
  have hlt := lt_of_block hr
  have hge : w.heap.size ≤ x11.heap.size := b9.size
  clear hmk hcv hb
  go_wp2_with fail
  refine (wrong_any _ _ _ _ _ _ hr).mono ?_
  rintro e y1 ⟨rfl, q1⟩
  replace hr := hr.quiet q1
  replace bz := Below.but bz (q1.but (fun _ => False)) (fun _ _ h => h)
  clear q1
  have dk : decide ((8192 : Int) < (k : Int)) = false := decide_eq_false (by omega)
  go_wp2_with fail
  have ki := is_yes _ y1.heap.size 1 (zeroS k) 0 0 (y1.alloc (.cells #[.int .u8 0] 5)) (blk_more hr _) hz0 (by rw [HZ.out]; omega) (by rw [HB.out]; exact cell_new _ _ _ _)
  refine ki.mono ?_
  rintro e y3 ⟨rfl, hr3, hb3⟩
  have bq := Below.but (bz.alloc bz.size _) hb3 (not_lt (by omega))
  clear hb3 bz hr ki
  go_wp2_with fail
  refine (at_any _ _ _ _ _ _ hr3).mono ?_
  rintro e y4 ⟨rfl, rfl⟩
  go_wp2_with fail
  refine (lives11_any _).mono ?_
  rintro e y5 ⟨rfl, h4⟩
  go_wp2
  go_ret
  exact ⟨rfl, below_cut' bq h4⟩
theorem lexNone_walk (n : Int) (w : World) (wn : (Lit.int .u16 n).wf = true) : Calls Try.prog 6 #[.int .u16 n] w fun e w' => e = .returned (.bool true) ∧ Below w.heap.size w w' := by
  obtain ⟨m, rfl, hm⟩ := wf_u16' wn
  obtain ⟨k, hk⟩ : ∃ k : Nat, 8180 + (m : Int) % 30 = (k : Int) := ⟨8180 + m % 30, by omega⟩
  by_cases h : 8192 < k
  · exact lexNone_long m k w hm hk ⟨h, by omega⟩
  · exact lexNone_fits m k w hm hk ⟨by omega, by omega⟩
end Go.Proofs.Ytknomegdfaicnaa
