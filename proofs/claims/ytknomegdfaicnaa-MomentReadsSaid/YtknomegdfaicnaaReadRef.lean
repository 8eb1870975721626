/- Contracts of the document's reading of an instant's text, case by case (layer 8). -/
import Derived.Test.YtknomegdfaicnaaReadMain
import Derived.Deep.RegionHeld3
namespace Go.Proofs.Ytknomegdfaicnaa
open Go.RowKit Civ
set_option linter.unusedVariables false

set_option maxHeartbeats 1600000 in
set_option maxRecDepth 20000 in
theorem rread_err (s : ByteArray) (w : World) (hs : s.size ≤ 1000) (he : (scan s.data.toList 0 15).2 = 2 ∨ (scan s.data.toList 0 15).2 = 3) :
    Calls Try.prog 15 #[.string s] w fun e' w' => e' = .returned (.tuple #[.int .i64 0, .int .i64 (scan s.data.toList 0 15).1, .int .i64 (scan s.data.toList 0 15).2]) ∧ w = w' := by
  go_enter Try.func15, Try.ntmps15
  go_wp2
  go_loop [5] (fun i => ∃ k : Nat, k ≤ 15 ∧ k ≤ s.size ∧ i = .int .i64 k ∧ Hid (scan s.data.toList k (15 - k) = scan s.data.toList 0 15)) (fun i => (15 - intOf i).toNat)
  case atStart => exact ⟨0, by omega, by omega, rfl, Lib.hid rfl⟩
  case round =>
    obtain ⟨k, hk, hks, rfl, HP⟩ := hrel
    have hlen := size_list s
    by_cases h15 : k < 15
    · have d15 : decide ((k : Int) < 15) = true := decide_eq_true (by omega)
      by_cases hz : k < s.size
      · have hb := byte_at s k hz
        have d0 : decide ((k : Int) < (s.size : Int)) = true := decide_eq_true (by omega)
        by_cases h8 : k = 8
        · subst h8
          by_cases ht : (s[8]'hz).toNat = 84
          · have HQ := Lib.hid (show scan s.data.toList (8 + 1) (15 - (8 + 1)) = scan s.data.toList 0 15 by
              rw [← HP.out]; exact (scan_go _ 8 6 (by omega) (fit_T.2 (by rw [hb]; exact ht))).symm)
            have e1 : (((s[8]'hz).toNat : Int) == 84) = true := by rw [beq_iff_eq]; omega
            have e2 : (((s[8]'hz).toNat : Int) != 84) = false := by rw [bne_eq_false_iff_eq]; omega
            have e3 : decide (48 ≤ ((s[8]'hz).toNat : Int)) = true := decide_eq_true (by omega)
            have e4 : decide (((s[8]'hz).toNat : Int) ≤ 57) = false := decide_eq_false (by omega)
            clear hb hlen ht HP
            go_wp2
            all_goals
              go_round
              case rel => exact ⟨9, by omega, by omega, rfl, HQ⟩
              case measure => simp [intOf]
          · have HQ := Lib.hid (show scan s.data.toList 0 15 = (((8 : Nat) : Int), 3) by
              rw [← HP.out]; exact scan_bad _ 8 6 (by omega) (by rw [hb]; exact fit_not ht))
            have e1 : (((s[8]'hz).toNat : Int) == 84) = false := by rw [beq_eq_false_iff_ne]; omega
            have e2 : (((s[8]'hz).toNat : Int) != 84) = true := by rw [bne_iff_ne]; omega
            clear hb hlen ht HP
            go_wp2
            all_goals
              go_ret3
              exact ⟨by rw [HQ.out]; rfl, rfl⟩
        · have e8 : ((k : Int) == 8) = false := by rw [beq_eq_false_iff_ne]; omega
          have e9 : ((k : Int) != 8) = true := by rw [bne_iff_ne]; omega
          by_cases hlo : (s[k]'hz).toNat < 48
          · have HQ := Lib.hid (show scan s.data.toList 0 15 = ((k : Int), 3) by
              rw [← HP.out, show 15 - k = 14 - k + 1 by omega]; exact scan_bad _ k (14 - k) (by omega) (by rw [hb]; exact fit_no8 h8 (by omega)))
            have e1 : decide (48 ≤ ((s[k]'hz).toNat : Int)) = false := decide_eq_false (by omega)
            clear hb hlen HP
            go_wp2
            all_goals
              go_ret3
              exact ⟨by rw [HQ.out]; rfl, rfl⟩
          · have n1 : decide (48 ≤ ((s[k]'hz).toNat : Int)) = true := decide_eq_true (by omega)
            by_cases hhi : 57 < (s[k]'hz).toNat
            · have HQ := Lib.hid (show scan s.data.toList 0 15 = ((k : Int), 3) by
                rw [← HP.out, show 15 - k = 14 - k + 1 by omega]; exact scan_bad _ k (14 - k) (by omega) (by rw [hb]; exact fit_no8 h8 (by omega)))
              have e1 : decide (((s[k]'hz).toNat : Int) ≤ 57) = false := decide_eq_false (by omega)
              clear hb hlen HP hlo
              go_wp2
              all_goals
                go_ret3
                exact ⟨by rw [HQ.out]; rfl, rfl⟩
            · have n2 : decide (((s[k]'hz).toNat : Int) ≤ 57) = true := decide_eq_true (by omega)
              have HQ := Lib.hid (show scan s.data.toList (k + 1) (15 - (k + 1)) = scan s.data.toList 0 15 by
                rw [← HP.out, show 15 - k = 15 - (k + 1) + 1 by omega]; exact (scan_go _ k _ (by omega) ((fit_dig h8).2 (by rw [hb]; omega))).symm)
              clear hb hlen HP hlo hhi
              go_wp2
              go_round
              case rel => exact ⟨k + 1, by omega, by omega, by go_num, HQ⟩
              case measure => simp [intOf]; omega
      · have HQ := Lib.hid (show scan s.data.toList 0 15 = ((k : Int), 2) by
          rw [← HP.out, show 15 - k = 14 - k + 1 by omega]; exact scan_end _ k (14 - k) (by omega))
        have d0 : decide ((k : Int) < (s.size : Int)) = false := decide_eq_false (by omega)
        obtain rfl : k = s.size := by omega
        have d1 : decide ((s.size : Int) < 15) = true := decide_eq_true (by omega)
        clear HP hlen hz
        go_wp2
        go_ret3
        exact ⟨by rw [HQ.out]; rfl, rfl⟩
    · obtain rfl : k = 15 := by omega
      have HQ := Lib.hid (show scan s.data.toList 0 15 = (15, 0) by rw [← HP.out]; rfl)
      rcases he with he | he <;> rw [HQ.out] at he <;> simp at he
/-- what the walk of the document's reading needs of a text whose places fit -/
structure RParts (s : ByteArray) (p0 p1 p2 p3 p4 p5 : Int) : Prop where
  c0 : ∀ w, Calls Try.prog 54 #[.string (s.extract 0 4)] w fun e w' => e = .returned (.int .i64 p0) ∧ w = w'
  c1 : ∀ w, Calls Try.prog 54 #[.string (s.extract 4 6)] w fun e w' => e = .returned (.int .i64 p1) ∧ w = w'
  c2 : ∀ w, Calls Try.prog 54 #[.string (s.extract 6 8)] w fun e w' => e = .returned (.int .i64 p2) ∧ w = w'
  c3 : ∀ w, Calls Try.prog 54 #[.string (s.extract 9 11)] w fun e w' => e = .returned (.int .i64 p3) ∧ w = w'
  c4 : ∀ w, Calls Try.prog 54 #[.string (s.extract 11 13)] w fun e w' => e = .returned (.int .i64 p4) ∧ w = w'
  c5 : ∀ w, Calls Try.prog 54 #[.string (s.extract 13 15)] w fun e w' => e = .returned (.int .i64 p5) ∧ w = w'
theorem rparts_of (s : ByteArray) (h : scan s.data.toList 0 15 = (15, 0)) : RParts s (partI s.data.toList 0 4) (partI s.data.toList 4 6) (partI s.data.toList 6 8) (partI s.data.toList 9 11) (partI s.data.toList 11 13) (partI s.data.toList 13 15) := by
  have h15 := ok_sizes s h
  have k : ∀ a b, a ≤ b → b ≤ 15 → b ≤ a + 4 → (b ≤ 8 ∨ 9 ≤ a) → ∀ w, Calls Try.prog 54 #[.string (s.extract a b)] w fun e w' => e = .returned (.int .i64 (partI s.data.toList a b)) ∧ w = w' := by
    intro a b h1 h2 h3 h4 w
    rw [← part_sub]
    exact number_any _ w (digs_sub s h a b h4 h2) (by rw [sub_size s a b h1 (by omega)]; omega)
  exact ⟨k 0 4 (by omega) (by omega) (by omega) (by omega), k 4 6 (by omega) (by omega) (by omega) (by omega), k 6 8 (by omega) (by omega) (by omega) (by omega), k 9 11 (by omega) (by omega) (by omega) (by omega), k 11 13 (by omega) (by omega) (by omega) (by omega), k 13 15 (by omega) (by omega) (by omega) (by omega)⟩
set_option maxHeartbeats 1600000 in
set_option maxRecDepth 20000 in
theorem rread_out (s : ByteArray) (p0 p1 p2 p3 p4 p5 : Int) (w : World) (hok : scan s.data.toList 0 15 = (15, 0)) (P : RParts s p0 p1 p2 p3 p4 p5) (k7 : ∀ w, Calls Try.prog 53 #[.agg #[.int .i64 p0, .int .i64 p1, .int .i64 p2, .int .i64 p3, .int .i64 p4, .int .i64 p5]] w fun e w' => e = .returned (.int .i64 (-1)) ∧ Below w.heap.size w w')  :
    Calls Try.prog 15 #[.string s] w fun e' w' => e' = .returned (.tuple #[.int .i64 0, .int .i64 0, .int .i64 4]) ∧ Below w.heap.size w w' := by
  go_enter Try.func15, Try.ntmps15
  go_wp2
  go_loop [5] (fun i => ∃ k : Nat, k ≤ 15 ∧ k ≤ s.size ∧ i = .int .i64 k ∧ Hid (scan s.data.toList k (15 - k) = scan s.data.toList 0 15)) (fun i => (15 - intOf i).toNat)
  case atStart => exact ⟨0, by omega, by omega, rfl, Lib.hid rfl⟩
  case round =>
    obtain ⟨k, hk, hks, rfl, HP⟩ := hrel
    have hlen := size_list s
    by_cases h15 : k < 15
    · have d15 : decide ((k : Int) < 15) = true := decide_eq_true (by omega)
      by_cases hz : k < s.size
      · have hb := byte_at s k hz
        have d0 : decide ((k : Int) < (s.size : Int)) = true := decide_eq_true (by omega)
        by_cases h8 : k = 8
        · subst h8
          by_cases ht : (s[8]'hz).toNat = 84
          · have HQ := Lib.hid (show scan s.data.toList (8 + 1) (15 - (8 + 1)) = scan s.data.toList 0 15 by
              rw [← HP.out]; exact (scan_go _ 8 6 (by omega) (fit_T.2 (by rw [hb]; exact ht))).symm)
            have e1 : (((s[8]'hz).toNat : Int) == 84) = true := by rw [beq_iff_eq]; omega
            have e2 : (((s[8]'hz).toNat : Int) != 84) = false := by rw [bne_eq_false_iff_eq]; omega
            have e3 : decide (48 ≤ ((s[8]'hz).toNat : Int)) = true := decide_eq_true (by omega)
            have e4 : decide (((s[8]'hz).toNat : Int) ≤ 57) = false := decide_eq_false (by omega)
            clear hb hlen ht HP
            go_wp2
            all_goals
              go_round
              case rel => exact ⟨9, by omega, by omega, rfl, HQ⟩
              case measure => simp [intOf]
          · have HQ := Lib.hid (show scan s.data.toList 0 15 = (((8 : Nat) : Int), 3) by
              rw [← HP.out]; exact scan_bad _ 8 6 (by omega) (by rw [hb]; exact fit_not ht))
            have e1 : (((s[8]'hz).toNat : Int) == 84) = false := by rw [beq_eq_false_iff_ne]; omega
            have e2 : (((s[8]'hz).toNat : Int) != 84) = true := by rw [bne_iff_ne]; omega
            clear hb hlen ht HP
            exact absurd (hok.symm.trans HQ.out) (by simp)
        · have e8 : ((k : Int) == 8) = false := by rw [beq_eq_false_iff_ne]; omega
          have e9 : ((k : Int) != 8) = true := by rw [bne_iff_ne]; omega
          by_cases hlo : (s[k]'hz).toNat < 48
          · have HQ := Lib.hid (show scan s.data.toList 0 15 = ((k : Int), 3) by
              rw [← HP.out, show 15 - k = 14 - k + 1 by omega]; exact scan_bad _ k (14 - k) (by omega) (by rw [hb]; exact fit_no8 h8 (by omega)))
            have e1 : decide (48 ≤ ((s[k]'hz).toNat : Int)) = false := decide_eq_false (by omega)
            clear hb hlen HP
            exact absurd (hok.symm.trans HQ.out) (by simp)
          · have n1 : decide (48 ≤ ((s[k]'hz).toNat : Int)) = true := decide_eq_true (by omega)
            by_cases hhi : 57 < (s[k]'hz).toNat
            · have HQ := Lib.hid (show scan s.data.toList 0 15 = ((k : Int), 3) by
                rw [← HP.out, show 15 - k = 14 - k + 1 by omega]; exact scan_bad _ k (14 - k) (by omega) (by rw [hb]; exact fit_no8 h8 (by omega)))
              have e1 : decide (((s[k]'hz).toNat : Int) ≤ 57) = false := decide_eq_false (by omega)
              clear hb hlen HP hlo
              exact absurd (hok.symm.trans HQ.out) (by simp)
            · have n2 : decide (((s[k]'hz).toNat : Int) ≤ 57) = true := decide_eq_true (by omega)
              have HQ := Lib.hid (show scan s.data.toList (k + 1) (15 - (k + 1)) = scan s.data.toList 0 15 by
                rw [← HP.out, show 15 - k = 15 - (k + 1) + 1 by omega]; exact (scan_go _ k _ (by omega) ((fit_dig h8).2 (by rw [hb]; omega))).symm)
              clear hb hlen HP hlo hhi
              go_wp2
              go_round
              case rel => exact ⟨k + 1, by omega, by omega, by go_num, HQ⟩
              case measure => simp [intOf]; omega
      · have HQ := Lib.hid (show scan s.data.toList 0 15 = ((k : Int), 2) by
          rw [← HP.out, show 15 - k = 14 - k + 1 by omega]; exact scan_end _ k (14 - k) (by omega))
        have d0 : decide ((k : Int) < (s.size : Int)) = false := decide_eq_false (by omega)
        exact absurd (hok.symm.trans HQ.out) (by simp)
    · obtain rfl : k = 15 := by omega
      have HQ := Lib.hid (show scan s.data.toList 0 15 = (15, 0) by rw [← HP.out]; rfl)
      have d1 : decide ((s.size : Int) < 15) = false := decide_eq_false (by omega)
      have i4 : (4 : Int) ≤ (s.size : Int) := by omega
      have i6 : (6 : Int) ≤ (s.size : Int) := by omega
      have i8 : (8 : Int) ≤ (s.size : Int) := by omega
      have i11 : (11 : Int) ≤ (s.size : Int) := by omega
      have i13 : (13 : Int) ≤ (s.size : Int) := by omega
      have i15 : (15 : Int) ≤ (s.size : Int) := by omega
      have HK := Lib.hid hok
      clear HP HQ hok hlen h15 hks
      obtain ⟨n0, n1, n2, n3, n4, n5⟩ := P
      go_wp2_with fail
      go_region_held3 (fun w' => Below w.heap.size w w') (first | exact (Below.refl w.heap.size w).drew | exact Below.drew (by assumption) | exact below_cut (by assumption) (by assumption) | assumption) (first | (go_at_call 53; with_reducible refine (k7 _).mono ?_; rintro e w2 ⟨rfl, hb⟩) | (with_reducible refine (n0 _).mono ?_; rintro e w2 ⟨rfl, rfl⟩) | (with_reducible refine (n1 _).mono ?_; rintro e w2 ⟨rfl, rfl⟩) | (with_reducible refine (n2 _).mono ?_; rintro e w2 ⟨rfl, rfl⟩) | (with_reducible refine (n3 _).mono ?_; rintro e w2 ⟨rfl, rfl⟩) | (with_reducible refine (n4 _).mono ?_; rintro e w2 ⟨rfl, rfl⟩) | (with_reducible refine (n5 _).mono ?_; rintro e w2 ⟨rfl, rfl⟩))
      have hH : Below w.heap.size w w2 := by assumption
      go_wp2
      go_ret3
      exact ⟨rfl, hH⟩
end Go.Proofs.Ytknomegdfaicnaa
