/- Contracts of the document's reading of an instant's text, case by case (layer 8). -/
import Derived.Test.YtknomegdfaicnaaReadRef
import Derived.Deep.RegionHeld3
namespace Go.Proofs.Ytknomegdfaicnaa
open Go.RowKit Civ
set_option linter.unusedVariables false

set_option maxHeartbeats 1600000 in
set_option maxRecDepth 20000 in
theorem rread_15 (s : ByteArray) (p0 p1 p2 p3 p4 p5 N : Int) (w : World) (hok : scan s.data.toList 0 15 = (15, 0)) (P : RParts s p0 p1 p2 p3 p4 p5) (k7 : ∀ w, Calls Try.prog 53 #[.agg #[.int .i64 p0, .int .i64 p1, .int .i64 p2, .int .i64 p3, .int .i64 p4, .int .i64 p5]] w fun e w' => e = .returned (.int .i64 N) ∧ Below w.heap.size w w') (hN : 0 ≤ N) (hz : s.size = 15) :
    Calls Try.prog 15 #[.string s] w fun e' w' => e' = .returned (.tuple #[.int .i64 0, .int .i64 15, .int .i64 7]) ∧ Below w.heap.size w w' := by
  go_enter Try.func15, Try.ntmps15
  go_wp2
  go_loop [5] (fun i => ∃ k : Nat, k ≤ 15 ∧ k ≤ s.size ∧ i = .int .i64 k ∧ Hid (scan s.data.toList k (15 - k) = scan s.data.toList 0 15)) (fun i => (15 - intOf i).toNat)
  case atStart => exact ⟨0, by omega, by omega, rfl, Lib.hid rfl⟩
  case round =>
    obtain ⟨k, hk, hks, rfl, HP⟩ := hrel
    have hlen := size_list s
    by_cases h15 : k < 15
    · have d15 : decide ((k : Int) < 15) = true := decide_eq_true (by omega)
      by_cases hz : k < s.size
      · have hb := byte_at s k hz
        have d0 : decide ((k : Int) < (s.size : Int)) = true := decide_eq_true (by omega)
        by_cases h8 : k = 8
        · subst h8
          by_cases ht : (s[8]'hz).toNat = 84
          · have HQ := Lib.hid (show scan s.data.toList (8 + 1) (15 - (8 + 1)) = scan s.data.toList 0 15 by
              rw [← HP.out]; exact (scan_go _ 8 6 (by omega) (fit_T.2 (by rw [hb]; exact ht))).symm)
            have e1 : (((s[8]'hz).toNat : Int) == 84) = true := by rw [beq_iff_eq]; omega
            have e2 : (((s[8]'hz).toNat : Int) != 84) = false := by rw [bne_eq_false_iff_eq]; omega
            have e3 : decide (48 ≤ ((s[8]'hz).toNat : Int)) = true := decide_eq_true (by omega)
            have e4 : decide (((s[8]'hz).toNat : Int) ≤ 57) = false := decide_eq_false (by omega)
            clear hb hlen ht HP
            go_wp2
            all_goals
              go_round
              case rel => exact ⟨9, by omega, by omega, rfl, HQ⟩
              case measure => simp [intOf]
          · have HQ := Lib.hid (show scan s.data.toList 0 15 = (((8 : Nat) : Int), 3) by
              rw [← HP.out]; exact scan_bad _ 8 6 (by omega) (by rw [hb]; exact fit_not ht))
            have e1 : (((s[8]'hz).toNat : Int) == 84) = false := by rw [beq_eq_false_iff_ne]; omega
            have e2 : (((s[8]'hz).toNat : Int) != 84) = true := by rw [bne_iff_ne]; omega
            clear hb hlen ht HP
            exact absurd (hok.symm.trans HQ.out) (by simp)
        · have e8 : ((k : Int) == 8) = false := by rw [beq_eq_false_iff_ne]; omega
          have e9 : ((k : Int) != 8) = true := by rw [bne_iff_ne]; omega
          by_cases hlo : (s[k]'hz).toNat < 48
          · have HQ := Lib.hid (show scan s.data.toList 0 15 = ((k : Int), 3) by
              rw [← HP.out, show 15 - k = 14 - k + 1 by omega]; exact scan_bad _ k (14 - k) (by omega) (by rw [hb]; exact fit_no8 h8 (by omega)))
            have e1 : decide (48 ≤ ((s[k]'hz).toNat : Int)) = false := decide_eq_false (by omega)
            clear hb hlen HP
            exact absurd (hok.symm.trans HQ.out) (by simp)
          · have n1 : decide (48 ≤ ((s[k]'hz).toNat : Int)) = true := decide_eq_true (by omega)
            by_cases hhi : 57 < (s[k]'hz).toNat
            · have HQ := Lib.hid (show scan s.data.toList 0 15 = ((k : Int), 3) by
                rw [← HP.out, show 15 - k = 14 - k + 1 by omega]; exact scan_bad _ k (14 - k) (by omega) (by rw [hb]; exact fit_no8 h8 (by omega)))
              have e1 : decide (((s[k]'hz).toNat : Int) ≤ 57) = false := decide_eq_false (by omega)
              clear hb hlen HP hlo
              exact absurd (hok.symm.trans HQ.out) (by simp)
            · have n2 : decide (((s[k]'hz).toNat : Int) ≤ 57) = true := decide_eq_true (by omega)
              have HQ := Lib.hid (show scan s.data.toList (k + 1) (15 - (k + 1)) = scan s.data.toList 0 15 by
                rw [← HP.out, show 15 - k = 15 - (k + 1) + 1 by omega]; exact (scan_go _ k _ (by omega) ((fit_dig h8).2 (by rw [hb]; omega))).symm)
              clear hb hlen HP hlo hhi
              go_wp2
              go_round
              case rel => exact ⟨k + 1, by omega, by omega, by go_num, HQ⟩
              case measure => simp [intOf]; omega
      · have HQ := Lib.hid (show scan s.data.toList 0 15 = ((k : Int), 2) by
          rw [← HP.out, show 15 - k = 14 - k + 1 by omega]; exact scan_end _ k (14 - k) (by omega))
        have d0 : decide ((k : Int) < (s.size : Int)) = false := decide_eq_false (by omega)
        exact absurd (hok.symm.trans HQ.out) (by simp)
    · obtain rfl : k = 15 := by omega
      have HQ := Lib.hid (show scan s.data.toList 0 15 = (15, 0) by rw [← HP.out]; rfl)
      have d1 : decide ((s.size : Int) < 15) = false := decide_eq_false (by omega)
      have i4 : (4 : Int) ≤ (s.size : Int) := by omega
      have i6 : (6 : Int) ≤ (s.size : Int) := by omega
      have i8 : (8 : Int) ≤ (s.size : Int) := by omega
      have i11 : (11 : Int) ≤ (s.size : Int) := by omega
      have i13 : (13 : Int) ≤ (s.size : Int) := by omega
      have i15 : (15 : Int) ≤ (s.size : Int) := by omega
      have HK := Lib.hid hok
      clear HP HQ hok hlen h15 hks
      obtain ⟨n0, n1, n2, n3, n4, n5⟩ := P
      go_wp2_with fail
      go_region_held3 (fun w' => Below w.heap.size w w') (first | exact (Below.refl w.heap.size w).drew | exact Below.drew (by assumption) | exact below_cut (by assumption) (by assumption) | assumption) (first | (go_at_call 53; with_reducible refine (k7 _).mono ?_; rintro e w2 ⟨rfl, hb⟩) | (with_reducible refine (n0 _).mono ?_; rintro e w2 ⟨rfl, rfl⟩) | (with_reducible refine (n1 _).mono ?_; rintro e w2 ⟨rfl, rfl⟩) | (with_reducible refine (n2 _).mono ?_; rintro e w2 ⟨rfl, rfl⟩) | (with_reducible refine (n3 _).mono ?_; rintro e w2 ⟨rfl, rfl⟩) | (with_reducible refine (n4 _).mono ?_; rintro e w2 ⟨rfl, rfl⟩) | (with_reducible refine (n5 _).mono ?_; rintro e w2 ⟨rfl, rfl⟩))
      have hH : Below w.heap.size w w2 := by assumption
      have e1 : ((s.size : Int) == 15) = true := by rw [beq_iff_eq]; omega
      clear hz
      go_wp2
      go_ret3
      exact ⟨rfl, hH⟩
set_option maxHeartbeats 1600000 in
set_option maxRecDepth 20000 in
theorem rread_noZ (s : ByteArray) (p0 p1 p2 p3 p4 p5 N : Int) (w : World) (hok : scan s.data.toList 0 15 = (15, 0)) (P : RParts s p0 p1 p2 p3 p4 p5) (k7 : ∀ w, Calls Try.prog 53 #[.agg #[.int .i64 p0, .int .i64 p1, .int .i64 p2, .int .i64 p3, .int .i64 p4, .int .i64 p5]] w fun e w' => e = .returned (.int .i64 N) ∧ Below w.heap.size w w') (hN : 0 ≤ N) (hz : 15 < s.size) (hb : (s[15]'hz).toNat ≠ 90) :
    Calls Try.prog 15 #[.string s] w fun e' w' => e' = .returned (.tuple #[.int .i64 0, .int .i64 15, .int .i64 7]) ∧ Below w.heap.size w w' := by
  go_enter Try.func15, Try.ntmps15
  go_wp2
  go_loop [5] (fun i => ∃ k : Nat, k ≤ 15 ∧ k ≤ s.size ∧ i = .int .i64 k ∧ Hid (scan s.data.toList k (15 - k) = scan s.data.toList 0 15)) (fun i => (15 - intOf i).toNat)
  case atStart => exact ⟨0, by omega, by omega, rfl, Lib.hid rfl⟩
  case round =>
    obtain ⟨k, hk, hks, rfl, HP⟩ := hrel
    have hlen := size_list s
    by_cases h15 : k < 15
    · have d15 : decide ((k : Int) < 15) = true := decide_eq_true (by omega)
      by_cases hz : k < s.size
      · have hb := byte_at s k hz
        have d0 : decide ((k : Int) < (s.size : Int)) = true := decide_eq_true (by omega)
        by_cases h8 : k = 8
        · subst h8
          by_cases ht : (s[8]'hz).toNat = 84
          · have HQ := Lib.hid (show scan s.data.toList (8 + 1) (15 - (8 + 1)) = scan s.data.toList 0 15 by
              rw [← HP.out]; exact (scan_go _ 8 6 (by omega) (fit_T.2 (by rw [hb]; exact ht))).symm)
            have e1 : (((s[8]'hz).toNat : Int) == 84) = true := by rw [beq_iff_eq]; omega
            have e2 : (((s[8]'hz).toNat : Int) != 84) = false := by rw [bne_eq_false_iff_eq]; omega
            have e3 : decide (48 ≤ ((s[8]'hz).toNat : Int)) = true := decide_eq_true (by omega)
            have e4 : decide (((s[8]'hz).toNat : Int) ≤ 57) = false := decide_eq_false (by omega)
            clear hb hlen ht HP
            go_wp2
            all_goals
              go_round
              case rel => exact ⟨9, by omega, by omega, rfl, HQ⟩
              case measure => simp [intOf]
          · have HQ := Lib.hid (show scan s.data.toList 0 15 = (((8 : Nat) : Int), 3) by
              rw [← HP.out]; exact scan_bad _ 8 6 (by omega) (by rw [hb]; exact fit_not ht))
            have e1 : (((s[8]'hz).toNat : Int) == 84) = false := by rw [beq_eq_false_iff_ne]; omega
            have e2 : (((s[8]'hz).toNat : Int) != 84) = true := by rw [bne_iff_ne]; omega
            clear hb hlen ht HP
            exact absurd (hok.symm.trans HQ.out) (by simp)
        · have e8 : ((k : Int) == 8) = false := by rw [beq_eq_false_iff_ne]; omega
          have e9 : ((k : Int) != 8) = true := by rw [bne_iff_ne]; omega
          by_cases hlo : (s[k]'hz).toNat < 48
          · have HQ := Lib.hid (show scan s.data.toList 0 15 = ((k : Int), 3) by
              rw [← HP.out, show 15 - k = 14 - k + 1 by omega]; exact scan_bad _ k (14 - k) (by omega) (by rw [hb]; exact fit_no8 h8 (by omega)))
            have e1 : decide (48 ≤ ((s[k]'hz).toNat : Int)) = false := decide_eq_false (by omega)
            clear hb hlen HP
            exact absurd (hok.symm.trans HQ.out) (by simp)
          · have n1 : decide (48 ≤ ((s[k]'hz).toNat : Int)) = true := decide_eq_true (by omega)
            by_cases hhi : 57 < (s[k]'hz).toNat
            · have HQ := Lib.hid (show scan s.data.toList 0 15 = ((k : Int), 3) by
                rw [← HP.out, show 15 - k = 14 - k + 1 by omega]; exact scan_bad _ k (14 - k) (by omega) (by rw [hb]; exact fit_no8 h8 (by omega)))
              have e1 : decide (((s[k]'hz).toNat : Int) ≤ 57) = false := decide_eq_false (by omega)
              clear hb hlen HP hlo
              exact absurd (hok.symm.trans HQ.out) (by simp)
            · have n2 : decide (((s[k]'hz).toNat : Int) ≤ 57) = true := decide_eq_true (by omega)
              have HQ := Lib.hid (show scan s.data.toList (k + 1) (15 - (k + 1)) = scan s.data.toList 0 15 by
                rw [← HP.out, show 15 - k = 15 - (k + 1) + 1 by omega]; exact (scan_go _ k _ (by omega) ((fit_dig h8).2 (by rw [hb]; omega))).symm)
              clear hb hlen HP hlo hhi
              go_wp2
              go_round
              case rel => exact ⟨k + 1, by omega, by omega, by go_num, HQ⟩
              case measure => simp [intOf]; omega
      · have HQ := Lib.hid (show scan s.data.toList 0 15 = ((k : Int), 2) by
          rw [← HP.out, show 15 - k = 14 - k + 1 by omega]; exact scan_end _ k (14 - k) (by omega))
        have d0 : decide ((k : Int) < (s.size : Int)) = false := decide_eq_false (by omega)
        exact absurd (hok.symm.trans HQ.out) (by simp)
    · obtain rfl : k = 15 := by omega
      have HQ := Lib.hid (show scan s.data.toList 0 15 = (15, 0) by rw [← HP.out]; rfl)
      have d1 : decide ((s.size : Int) < 15) = false := decide_eq_false (by omega)
      have i4 : (4 : Int) ≤ (s.size : Int) := by omega
      have i6 : (6 : Int) ≤ (s.size : Int) := by omega
      have i8 : (8 : Int) ≤ (s.size : Int) := by omega
      have i11 : (11 : Int) ≤ (s.size : Int) := by omega
      have i13 : (13 : Int) ≤ (s.size : Int) := by omega
      have i15 : (15 : Int) ≤ (s.size : Int) := by omega
      have HK := Lib.hid hok
      clear HP HQ hok hlen h15 hks
      obtain ⟨n0, n1, n2, n3, n4, n5⟩ := P
      go_wp2_with fail
      go_region_held3 (fun w' => Below w.heap.size w w') (first | exact (Below.refl w.heap.size w).drew | exact Below.drew (by assumption) | exact below_cut (by assumption) (by assumption) | assumption) (first | (go_at_call 53; with_reducible refine (k7 _).mono ?_; rintro e w2 ⟨rfl, hb⟩) | (with_reducible refine (n0 _).mono ?_; rintro e w2 ⟨rfl, rfl⟩) | (with_reducible refine (n1 _).mono ?_; rintro e w2 ⟨rfl, rfl⟩) | (with_reducible refine (n2 _).mono ?_; rintro e w2 ⟨rfl, rfl⟩) | (with_reducible refine (n3 _).mono ?_; rintro e w2 ⟨rfl, rfl⟩) | (with_reducible refine (n4 _).mono ?_; rintro e w2 ⟨rfl, rfl⟩) | (with_reducible refine (n5 _).mono ?_; rintro e w2 ⟨rfl, rfl⟩))
      have hH : Below w.heap.size w w2 := by assumption
      have e1 : ((s.size : Int) == 15) = false := by rw [beq_eq_false_iff_ne]; omega
      have e2 : (((s[15]'hz).toNat : Int) == 90) = false := by rw [beq_eq_false_iff_ne]; omega
      have e3 : (((s[15]'hz).toNat : Int) != 90) = true := by rw [bne_iff_ne]; omega
      clear hb
      go_wp2
      go_ret3
      exact ⟨rfl, hH⟩
set_option maxHeartbeats 1600000 in
set_option maxRecDepth 20000 in
theorem rread_long (s : ByteArray) (p0 p1 p2 p3 p4 p5 N : Int) (w : World) (hok : scan s.data.toList 0 15 = (15, 0)) (P : RParts s p0 p1 p2 p3 p4 p5) (k7 : ∀ w, Calls Try.prog 53 #[.agg #[.int .i64 p0, .int .i64 p1, .int .i64 p2, .int .i64 p3, .int .i64 p4, .int .i64 p5]] w fun e w' => e = .returned (.int .i64 N) ∧ Below w.heap.size w w') (hN : 0 ≤ N) (hz : 15 < s.size) (h16 : 16 < s.size) (hb : (s[15]'hz).toNat = 90) :
    Calls Try.prog 15 #[.string s] w fun e' w' => e' = .returned (.tuple #[.int .i64 0, .int .i64 16, .int .i64 7]) ∧ Below w.heap.size w w' := by
  go_enter Try.func15, Try.ntmps15
  go_wp2
  go_loop [5] (fun i => ∃ k : Nat, k ≤ 15 ∧ k ≤ s.size ∧ i = .int .i64 k ∧ Hid (scan s.data.toList k (15 - k) = scan s.data.toList 0 15)) (fun i => (15 - intOf i).toNat)
  case atStart => exact ⟨0, by omega, by omega, rfl, Lib.hid rfl⟩
  case round =>
    obtain ⟨k, hk, hks, rfl, HP⟩ := hrel
    have hlen := size_list s
    by_cases h15 : k < 15
    · have d15 : decide ((k : Int) < 15) = true := decide_eq_true (by omega)
      by_cases hz : k < s.size
      · have hb := byte_at s k hz
        have d0 : decide ((k : Int) < (s.size : Int)) = true := decide_eq_true (by omega)
        by_cases h8 : k = 8
        · subst h8
          by_cases ht : (s[8]'hz).toNat = 84
          · have HQ := Lib.hid (show scan s.data.toList (8 + 1) (15 - (8 + 1)) = scan s.data.toList 0 15 by
              rw [← HP.out]; exact (scan_go _ 8 6 (by omega) (fit_T.2 (by rw [hb]; exact ht))).symm)
            have e1 : (((s[8]'hz).toNat : Int) == 84) = true := by rw [beq_iff_eq]; omega
            have e2 : (((s[8]'hz).toNat : Int) != 84) = false := by rw [bne_eq_false_iff_eq]; omega
            have e3 : decide (48 ≤ ((s[8]'hz).toNat : Int)) = true := decide_eq_true (by omega)
            have e4 : decide (((s[8]'hz).toNat : Int) ≤ 57) = false := decide_eq_false (by omega)
            clear hb hlen ht HP
            go_wp2
            all_goals
              go_round
              case rel => exact ⟨9, by omega, by omega, rfl, HQ⟩
              case measure => simp [intOf]
          · have HQ := Lib.hid (show scan s.data.toList 0 15 = (((8 : Nat) : Int), 3) by
              rw [← HP.out]; exact scan_bad _ 8 6 (by omega) (by rw [hb]; exact fit_not ht))
            have e1 : (((s[8]'hz).toNat : Int) == 84) = false := by rw [beq_eq_false_iff_ne]; omega
            have e2 : (((s[8]'hz).toNat : Int) != 84) = true := by rw [bne_iff_ne]; omega
            clear hb hlen ht HP
            exact absurd (hok.symm.trans HQ.out) (by simp)
        · have e8 : ((k : Int) == 8) = false := by rw [beq_eq_false_iff_ne]; omega
          have e9 : ((k : Int) != 8) = true := by rw [bne_iff_ne]; omega
          by_cases hlo : (s[k]'hz).toNat < 48
          · have HQ := Lib.hid (show scan s.data.toList 0 15 = ((k : Int), 3) by
              rw [← HP.out, show 15 - k = 14 - k + 1 by omega]; exact scan_bad _ k (14 - k) (by omega) (by rw [hb]; exact fit_no8 h8 (by omega)))
            have e1 : decide (48 ≤ ((s[k]'hz).toNat : Int)) = false := decide_eq_false (by omega)
            clear hb hlen HP
            exact absurd (hok.symm.trans HQ.out) (by simp)
          · have n1 : decide (48 ≤ ((s[k]'hz).toNat : Int)) = true := decide_eq_true (by omega)
            by_cases hhi : 57 < (s[k]'hz).toNat
            · have HQ := Lib.hid (show scan s.data.toList 0 15 = ((k : Int), 3) by
                rw [← HP.out, show 15 - k = 14 - k + 1 by omega]; exact scan_bad _ k (14 - k) (by omega) (by rw [hb]; exact fit_no8 h8 (by omega)))
              have e1 : decide (((s[k]'hz).toNat : Int) ≤ 57) = false := decide_eq_false (by omega)
              clear hb hlen HP hlo
              exact absurd (hok.symm.trans HQ.out) (by simp)
            · have n2 : decide (((s[k]'hz).toNat : Int) ≤ 57) = true := decide_eq_true (by omega)
              have HQ := Lib.hid (show scan s.data.toList (k + 1) (15 - (k + 1)) = scan s.data.toList 0 15 by
                rw [← HP.out, show 15 - k = 15 - (k + 1) + 1 by omega]; exact (scan_go _ k _ (by omega) ((fit_dig h8).2 (by rw [hb]; omega))).symm)
              clear hb hlen HP hlo hhi
              go_wp2
              go_round
              case rel => exact ⟨k + 1, by omega, by omega, by go_num, HQ⟩
              case measure => simp [intOf]; omega
      · have HQ := Lib.hid (show scan s.data.toList 0 15 = ((k : Int), 2) by
          rw [← HP.out, show 15 - k = 14 - k + 1 by omega]; exact scan_end _ k (14 - k) (by omega))
        have d0 : decide ((k : Int) < (s.size : Int)) = false := decide_eq_false (by omega)
        exact absurd (hok.symm.trans HQ.out) (by simp)
    · obtain rfl : k = 15 := by omega
      have HQ := Lib.hid (show scan s.data.toList 0 15 = (15, 0) by rw [← HP.out]; rfl)
      have d1 : decide ((s.size : Int) < 15) = false := decide_eq_false (by omega)
      have i4 : (4 : Int) ≤ (s.size : Int) := by omega
      have i6 : (6 : Int) ≤ (s.size : Int) := by omega
      have i8 : (8 : Int) ≤ (s.size : Int) := by omega
      have i11 : (11 : Int) ≤ (s.size : Int) := by omega
      have i13 : (13 : Int) ≤ (s.size : Int) := by omega
      have i15 : (15 : Int) ≤ (s.size : Int) := by omega
      have HK := Lib.hid hok
      clear HP HQ hok hlen h15 hks
      obtain ⟨n0, n1, n2, n3, n4, n5⟩ := P
      go_wp2_with fail
      go_region_held3 (fun w' => Below w.heap.size w w') (first | exact (Below.refl w.heap.size w).drew | exact Below.drew (by assumption) | exact below_cut (by assumption) (by assumption) | assumption) (first | (go_at_call 53; with_reducible refine (k7 _).mono ?_; rintro e w2 ⟨rfl, hb⟩) | (with_reducible refine (n0 _).mono ?_; rintro e w2 ⟨rfl, rfl⟩) | (with_reducible refine (n1 _).mono ?_; rintro e w2 ⟨rfl, rfl⟩) | (with_reducible refine (n2 _).mono ?_; rintro e w2 ⟨rfl, rfl⟩) | (with_reducible refine (n3 _).mono ?_; rintro e w2 ⟨rfl, rfl⟩) | (with_reducible refine (n4 _).mono ?_; rintro e w2 ⟨rfl, rfl⟩) | (with_reducible refine (n5 _).mono ?_; rintro e w2 ⟨rfl, rfl⟩))
      have hH : Below w.heap.size w w2 := by assumption
      have e1 : ((s.size : Int) == 15) = false := by rw [beq_eq_false_iff_ne]; omega
      have e2 : (((s[15]'hz).toNat : Int) == 90) = true := by rw [beq_iff_eq]; omega
      have e3 : (((s[15]'hz).toNat : Int) != 90) = false := by rw [bne_eq_false_iff_eq]; omega
      clear hb
      go_wp2
      go_ret3
      exact ⟨rfl, hH⟩
set_option maxHeartbeats 1600000 in
set_option maxRecDepth 20000 in
theorem rread_yes (s : ByteArray) (p0 p1 p2 p3 p4 p5 N : Int) (w : World) (hok : scan s.data.toList 0 15 = (15, 0)) (P : RParts s p0 p1 p2 p3 p4 p5) (k7 : ∀ w, Calls Try.prog 53 #[.agg #[.int .i64 p0, .int .i64 p1, .int .i64 p2, .int .i64 p3, .int .i64 p4, .int .i64 p5]] w fun e w' => e = .returned (.int .i64 N) ∧ Below w.heap.size w w') (hN : 0 ≤ N) (hz : 15 < s.size) (h16 : s.size ≤ 16) (hb : (s[15]'hz).toNat = 90) :
    Calls Try.prog 15 #[.string s] w fun e' w' => e' = .returned (.tuple #[.int .i64 N, .int .i64 16, .int .i64 0]) ∧ Below w.heap.size w w' := by
  go_enter Try.func15, Try.ntmps15
  go_wp2
  go_loop [5] (fun i => ∃ k : Nat, k ≤ 15 ∧ k ≤ s.size ∧ i = .int .i64 k ∧ Hid (scan s.data.toList k (15 - k) = scan s.data.toList 0 15)) (fun i => (15 - intOf i).toNat)
  case atStart => exact ⟨0, by omega, by omega, rfl, Lib.hid rfl⟩
  case round =>
    obtain ⟨k, hk, hks, rfl, HP⟩ := hrel
    have hlen := size_list s
    by_cases h15 : k < 15
    · have d15 : decide ((k : Int) < 15) = true := decide_eq_true (by omega)
      by_cases hz : k < s.size
      · have hb := byte_at s k hz
        have d0 : decide ((k : Int) < (s.size : Int)) = true := decide_eq_true (by omega)
        by_cases h8 : k = 8
        · subst h8
          by_cases ht : (s[8]'hz).toNat = 84
          · have HQ := Lib.hid (show scan s.data.toList (8 + 1) (15 - (8 + 1)) = scan s.data.toList 0 15 by
              rw [← HP.out]; exact (scan_go _ 8 6 (by omega) (fit_T.2 (by rw [hb]; exact ht))).symm)
            have e1 : (((s[8]'hz).toNat : Int) == 84) = true := by rw [beq_iff_eq]; omega
            have e2 : (((s[8]'hz).toNat : Int) != 84) = false := by rw [bne_eq_false_iff_eq]; omega
            have e3 : decide (48 ≤ ((s[8]'hz).toNat : Int)) = true := decide_eq_true (by omega)
            have e4 : decide (((s[8]'hz).toNat : Int) ≤ 57) = false := decide_eq_false (by omega)
            clear hb hlen ht HP
            go_wp2
            all_goals
              go_round
              case rel => exact ⟨9, by omega, by omega, rfl, HQ⟩
              case measure => simp [intOf]
          · have HQ := Lib.hid (show scan s.data.toList 0 15 = (((8 : Nat) : Int), 3) by
              rw [← HP.out]; exact scan_bad _ 8 6 (by omega) (by rw [hb]; exact fit_not ht))
            have e1 : (((s[8]'hz).toNat : Int) == 84) = false := by rw [beq_eq_false_iff_ne]; omega
            have e2 : (((s[8]'hz).toNat : Int) != 84) = true := by rw [bne_iff_ne]; omega
            clear hb hlen ht HP
            exact absurd (hok.symm.trans HQ.out) (by simp)
        · have e8 : ((k : Int) == 8) = false := by rw [beq_eq_false_iff_ne]; omega
          have e9 : ((k : Int) != 8) = true := by rw [bne_iff_ne]; omega
          by_cases hlo : (s[k]'hz).toNat < 48
          · have HQ := Lib.hid (show scan s.data.toList 0 15 = ((k : Int), 3) by
              rw [← HP.out, show 15 - k = 14 - k + 1 by omega]; exact scan_bad _ k (14 - k) (by omega) (by rw [hb]; exact fit_no8 h8 (by omega)))
            have e1 : decide (48 ≤ ((s[k]'hz).toNat : Int)) = false := decide_eq_false (by omega)
            clear hb hlen HP
            exact absurd (hok.symm.trans HQ.out) (by simp)
          · have n1 : decide (48 ≤ ((s[k]'hz).toNat : Int)) = true := decide_eq_true (by omega)
            by_cases hhi : 57 < (s[k]'hz).toNat
            · have HQ := Lib.hid (show scan s.data.toList 0 15 = ((k : Int), 3) by
                rw [← HP.out, show 15 - k = 14 - k + 1 by omega]; exact scan_bad _ k (14 - k) (by omega) (by rw [hb]; exact fit_no8 h8 (by omega)))
              have e1 : decide (((s[k]'hz).toNat : Int) ≤ 57) = false := decide_eq_false (by omega)
              clear hb hlen HP hlo
              exact absurd (hok.symm.trans HQ.out) (by simp)
            · have n2 : decide (((s[k]'hz).toNat : Int) ≤ 57) = true := decide_eq_true (by omega)
              have HQ := Lib.hid (show scan s.data.toList (k + 1) (15 - (k + 1)) = scan s.data.toList 0 15 by
                rw [← HP.out, show 15 - k = 15 - (k + 1) + 1 by omega]; exact (scan_go _ k _ (by omega) ((fit_dig h8).2 (by rw [hb]; omega))).symm)
              clear hb hlen HP hlo hhi
              go_wp2
              go_round
              case rel => exact ⟨k + 1, by omega, by omega, by go_num, HQ⟩
              case measure => simp [intOf]; omega
      · have HQ := Lib.hid (show scan s.data.toList 0 15 = ((k : Int), 2) by
          rw [← HP.out, show 15 - k = 14 - k + 1 by omega]; exact scan_end _ k (14 - k) (by omega))
        have d0 : decide ((k : Int) < (s.size : Int)) = false := decide_eq_false (by omega)
        exact absurd (hok.symm.trans HQ.out) (by simp)
    · obtain rfl : k = 15 := by omega
      have HQ := Lib.hid (show scan s.data.toList 0 15 = (15, 0) by rw [← HP.out]; rfl)
      have d1 : decide ((s.size : Int) < 15) = false := decide_eq_false (by omega)
      have i4 : (4 : Int) ≤ (s.size : Int) := by omega
      have i6 : (6 : Int) ≤ (s.size : Int) := by omega
      have i8 : (8 : Int) ≤ (s.size : Int) := by omega
      have i11 : (11 : Int) ≤ (s.size : Int) := by omega
      have i13 : (13 : Int) ≤ (s.size : Int) := by omega
      have i15 : (15 : Int) ≤ (s.size : Int) := by omega
      have HK := Lib.hid hok
      clear HP HQ hok hlen h15 hks
      obtain ⟨n0, n1, n2, n3, n4, n5⟩ := P
      go_wp2_with fail
      go_region_held3 (fun w' => Below w.heap.size w w') (first | exact (Below.refl w.heap.size w).drew | exact Below.drew (by assumption) | exact below_cut (by assumption) (by assumption) | assumption) (first | (go_at_call 53; with_reducible refine (k7 _).mono ?_; rintro e w2 ⟨rfl, hb⟩) | (with_reducible refine (n0 _).mono ?_; rintro e w2 ⟨rfl, rfl⟩) | (with_reducible refine (n1 _).mono ?_; rintro e w2 ⟨rfl, rfl⟩) | (with_reducible refine (n2 _).mono ?_; rintro e w2 ⟨rfl, rfl⟩) | (with_reducible refine (n3 _).mono ?_; rintro e w2 ⟨rfl, rfl⟩) | (with_reducible refine (n4 _).mono ?_; rintro e w2 ⟨rfl, rfl⟩) | (with_reducible refine (n5 _).mono ?_; rintro e w2 ⟨rfl, rfl⟩))
      have hH : Below w.heap.size w w2 := by assumption
      have e1 : ((s.size : Int) == 15) = false := by rw [beq_eq_false_iff_ne]; omega
      have e2 : (((s[15]'hz).toNat : Int) == 90) = true := by rw [beq_iff_eq]; omega
      have e3 : (((s[15]'hz).toNat : Int) != 90) = false := by rw [bne_eq_false_iff_eq]; omega
      have e4 : decide (16 < (s.size : Int)) = false := decide_eq_false (by omega)
      clear hb
      go_wp2
      go_ret3
      exact ⟨rfl, hH⟩
end Go.Proofs.Ytknomegdfaicnaa
