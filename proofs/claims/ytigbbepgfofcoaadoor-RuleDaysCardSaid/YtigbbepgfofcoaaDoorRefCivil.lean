/- Contracts of the document's answers for layer 5 (civil); each leaves the world as it was. -/
import Derived.Test.YtigbbepgfofcoaaDoorCivilB
import Derived.Test.YtigbbepgfofcoaaDoorRefFloor
namespace Go.Proofs.YtigbbepgfofcoaaDoor
open Go.RowKit Civ

theorem rleap_yes (y : Int) (w : World) (h : lp y = 1) : Calls Tryd.prog 96 #[.int .i64 y] w fun e w' => e = .returned (.bool true) ∧ w = w' := by
  have h' : y % 4 = 0 ∧ (y % 100 ≠ 0 ∨ y % 400 = 0) := by unfold lp at h; by_cases c : y % 4 = 0 ∧ (y % 100 ≠ 0 ∨ y % 400 = 0); exact c; rw [if_neg c] at h; omega
  clear h
  have h4 := tmod_t h'.1
  by_cases h400 : y % 400 = 0
  · have h2 := tmod_t h400
    clear h' h400
    go_enter Tryd.func96, Tryd.ntmps96
    go_wp2
    go_ret
    exact ⟨rfl, rfl⟩
  · have h1 := tmod_nt (show ¬ y % 100 = 0 by omega)
    have h2 := tmod_f h400
    clear h' h400
    go_enter Tryd.func96, Tryd.ntmps96
    go_wp2
    go_ret
    exact ⟨rfl, rfl⟩
theorem rleap_no (y : Int) (w : World) (h : lp y = 0) : Calls Tryd.prog 96 #[.int .i64 y] w fun e w' => e = .returned (.bool false) ∧ w = w' := by
  have h' : ¬ (y % 4 = 0 ∧ (y % 100 ≠ 0 ∨ y % 400 = 0)) := by unfold lp at h; by_cases c : y % 4 = 0 ∧ (y % 100 ≠ 0 ∨ y % 400 = 0); rw [if_pos c] at h; omega; exact c
  clear h
  have h2 := tmod_f (show ¬ y % 400 = 0 by omega)
  by_cases h4 : y % 4 = 0
  · have h1 := tmod_nf (show y % 100 = 0 by omega)
    have h5 := tmod_t h4
    clear h' h4
    go_enter Tryd.func96, Tryd.ntmps96
    go_wp2
    go_ret
    exact ⟨rfl, rfl⟩
  · have h5 := tmod_f h4
    clear h' h4
    go_enter Tryd.func96, Tryd.ntmps96
    go_wp2
    go_ret
    exact ⟨rfl, rfl⟩
theorem rlength_any (y m : Int) (w : World) : Calls Tryd.prog 73 #[.int .i64 y, .int .i64 m] w fun e w' => e = .returned (.int .i64 (len y m)) ∧ w = w' := by
  by_cases hm : 1 ≤ m ∧ m ≤ 12
  · obtain ⟨h1, h2⟩ := hm
    refine months (P := fun m => Calls Tryd.prog 73 #[.int .i64 y, .int .i64 m] w fun e w' => e = .returned (.int .i64 (len y m)) ∧ w = w') m h1 h2 ?_
    have h01 := lp_01 y
    have HL : Hid (∀ m, m ≠ 2 → len y m = len 0 m) := Lib.hid (by intro m h; unfold len; rw [if_neg h, if_neg h])
    refine ⟨?_, ?_, ?_, ?_, ?_, ?_, ?_, ?_, ?_, ?_, ?_, ?_⟩
    rotate_left
    · by_cases hl : lp y = 1
      · have HE := Lib.hid (show (29 : Int) = len y 2 by simp [len]; omega)
        go_enter Tryd.func73, Tryd.ntmps73
        go_wp2_with (go_at_call 96; refine (rleap_yes _ _ hl).mono ?_; rintro e w' ⟨rfl, rfl⟩)
        go_ret
        exact ⟨ret_i64 HE.out, rfl⟩
      · have hl : lp y = 0 := by omega
        have HE := Lib.hid (show (28 : Int) = len y 2 by simp [len]; omega)
        go_enter Tryd.func73, Tryd.ntmps73
        go_wp2_with (go_at_call 96; refine (rleap_no _ _ hl).mono ?_; rintro e w' ⟨rfl, rfl⟩)
        go_ret
        exact ⟨ret_i64 HE.out, rfl⟩
    all_goals
      clear h01
      go_enter Tryd.func73, Tryd.ntmps73
      go_wp2
      go_ret
      exact ⟨ret_i64 (by rw [HL.out _ (by decide)]; rfl), rfl⟩
  · have HE := Lib.hid (len_no y m hm).symm
    have n1 : (m == 1) = false := by rw [beq_eq_false_iff_ne]; omega
    have n2 : (m == 2) = false := by rw [beq_eq_false_iff_ne]; omega
    have n3 : (m == 3) = false := by rw [beq_eq_false_iff_ne]; omega
    have n4 : (m == 4) = false := by rw [beq_eq_false_iff_ne]; omega
    have n5 : (m == 5) = false := by rw [beq_eq_false_iff_ne]; omega
    have n6 : (m == 6) = false := by rw [beq_eq_false_iff_ne]; omega
    have n7 : (m == 7) = false := by rw [beq_eq_false_iff_ne]; omega
    have n8 : (m == 8) = false := by rw [beq_eq_false_iff_ne]; omega
    have n9 : (m == 9) = false := by rw [beq_eq_false_iff_ne]; omega
    have n10 : (m == 10) = false := by rw [beq_eq_false_iff_ne]; omega
    have n11 : (m == 11) = false := by rw [beq_eq_false_iff_ne]; omega
    have n12 : (m == 12) = false := by rw [beq_eq_false_iff_ne]; omega
    clear hm
    go_enter Tryd.func73, Tryd.ntmps73
    go_wp2
    go_ret
    exact ⟨ret_i64 HE.out, rfl⟩
theorem ryear_any (y : Int) (w : World) : Calls Tryd.prog 76 #[.int .i64 y] w fun e w' => e = .returned (.int .i64 (365 + lp y)) ∧ w = w' := by
  have h01 := lp_01 y
  by_cases hl : lp y = 1
  · have HE := Lib.hid (show (366 : Int) = 365 + lp y by omega)
    go_enter Tryd.func76, Tryd.ntmps76
    go_wp2_with (go_at_call 96; refine (rleap_yes _ _ hl).mono ?_; rintro e w' ⟨rfl, rfl⟩)
    go_ret
    exact ⟨ret_i64 HE.out, rfl⟩
  · have hl : lp y = 0 := by omega
    have HE := Lib.hid (show (365 : Int) = 365 + lp y by omega)
    go_enter Tryd.func76, Tryd.ntmps76
    go_wp2_with (go_at_call 96; refine (rleap_no _ _ hl).mono ?_; rintro e w' ⟨rfl, rfl⟩)
    go_ret
    exact ⟨ret_i64 HE.out, rfl⟩
/-- a day that there is -/
def Is (y m d : Int) : Prop := -1000000000 ≤ y ∧ y ≤ 1000000000 ∧ 1 ≤ m ∧ m ≤ 12 ∧ 1 ≤ d ∧ d ≤ len y m
theorem dec_f {p : Prop} [Decidable p] (h : ¬ p) : decide p = false := decide_eq_false h
theorem rordinal_any (y m d : Int) (w : World) (h1 : 1 ≤ m) (h2 : m ≤ 12) (hd1 : 1 ≤ d) (hd2 : d ≤ 31) : Calls Tryd.prog 75 #[.int .i64 y, .int .i64 m, .int .i64 d] w fun e w' => e = .returned (.int .i64 (cum y m + d)) ∧ w = w' := by
  have h01 := lp_01 y
  go_enter Tryd.func75, Tryd.ntmps75
  go_wp2
  go_loop [7, 8] (fun x i => ∃ k : Int, 1 ≤ k ∧ k ≤ m ∧ i = .int .i64 k ∧ x = .int .i64 (d + cum y k)) (fun _ i => (m - intOf i).toNat)
  case atStart => exact ⟨1, by omega, h1, rfl, by rw [cum_one]; simp⟩
  case round =>
    obtain ⟨k, hk1, hk2, rfl, rfl⟩ := hrel
    have hs := cum_succ y k hk1 (by omega)
    obtain ⟨c1, c2⟩ := cum_bd y k hk1 (by omega)
    obtain ⟨c3, c4⟩ := len_bd y k hk1 (by omega)
    obtain ⟨c7, c8⟩ := h01
    by_cases hlt : k < m
    · have HS := Lib.hid hs
      clear hs
      go_wp2_with (go_at_call 73; refine (rlength_any _ _ _).mono ?_; rintro e w' ⟨rfl, rfl⟩)
      go_round
      case rel => exact ⟨k + 1, by omega, by omega, rfl, by rw [HS.out, Int.add_assoc]⟩
      case measure => simp [intOf]; omega
    · have hkm : k = m := by omega
      subst hkm
      have HE := Lib.hid (Int.add_comm d (cum y k))
      clear hs
      go_wp2
      go_ret
      exact ⟨ret_i64 HE.out, rfl⟩
theorem rdate_far (n : Int) (w : World) (h : 400000000000 < n ∨ n < -400000000000) : Calls Tryd.prog 72 #[.int .i64 n] w fun e w' => e = .returned (.tuple #[.int .i64 0, .int .i64 0, .int .i64 0, .bool false]) ∧ w = w' := by
  by_cases h1 : 400000000000 < n
  · clear h
    go_enter Tryd.func72, Tryd.ntmps72
    go_wp2
    exact bodyPost_ret (v := .tuple #[.int .i64 0, .int .i64 0, .int .i64 0, .bool false]) (by simp [results, Tryd.results72, go_sem]) rfl ⟨rfl, rfl⟩
  · have h2 : n < -400000000000 := by omega
    clear h
    go_enter Tryd.func72, Tryd.ntmps72
    go_wp2
    exact bodyPost_ret (v := .tuple #[.int .i64 0, .int .i64 0, .int .i64 0, .bool false]) (by simp [results, Tryd.results72, go_sem]) rfl ⟨rfl, rfl⟩
/-- what Date tells of a day of this date -/
def dateV (y m d : Int) : Value := if -1000000000 ≤ y ∧ y ≤ 1000000000 then .tuple #[.int .i64 y, .int .i64 m, .int .i64 d, .bool true] else .tuple #[.int .i64 0, .int .i64 0, .int .i64 0, .bool false]
theorem dateV_yes {y m d : Int} (h1 : -1000000000 ≤ y) (h2 : y ≤ 1000000000) : dateV y m d = .tuple #[.int .i64 y, .int .i64 m, .int .i64 d, .bool true] := by unfold dateV; rw [if_pos ⟨h1, h2⟩]
theorem dateV_no {y m d : Int} (h : y < -1000000000 ∨ 1000000000 < y) : dateV y m d = .tuple #[.int .i64 0, .int .i64 0, .int .i64 0, .bool false] := by unfold dateV; rw [if_neg (by omega)]
theorem ret_val {a b : Value} (h : a = b) : Ending.returned a = .returned b := by rw [h]
theorem rdate_near (n y m d : Int) (w : World) (h : IsDate n y m d) (hn1 : n ≤ 400000000000) (hn2 : -400000000000 ≤ n) :
    Calls Tryd.prog 72 #[.int .i64 n] w fun e w' => e = .returned (dateV y m d) ∧ w = w' := by
  have hyr := h.year
  obtain ⟨hm1, hm2, hd1, hd2, hnn⟩ := h
  obtain ⟨T, hT⟩ : ∃ T, T = n / 146097 := ⟨_, rfl⟩
  have hf : floorI n 146097 = T := by rw [hT]; exact floorI_pos _ _ (by omega)
  have i1 := i64_of n (by omega) (by omega)
  have i2 := i64_of 146097 (by omega) (by omega)
  have hT1 : -3000000 ≤ T := by omega
  have hT2 : T ≤ 3000000 := by omega
  have hTn : n < 146097 * T + 146097 := by omega
  have hst : startI (1970 + 400 * T) = 146097 * T := by rw [startI_era]; have : startI 1970 = 0 := by decide
                                                        omega
  have hlo : 1970 + 400 * T ≤ y := by
    have := startI_mono (y + 1) (1970 + 400 * T)
    omega
  have hy9 : y ≤ 1970 + 400 * T + 400 := by
    have h1 := startI_mono (1970 + 400 * T + 400) y
    have h2 := startI_era (1970 + 400 * T) 1
    rw [show 1970 + 400 * T + 400 * 1 = 1970 + 400 * T + 400 by omega] at h2
    omega
  have hy1 : -1300000000 ≤ y := by omega
  have hy2 : y ≤ 1300000000 := by omega
  have hlo2 : startI y ≤ n := hyr.1
  have hhi : n < startI (y + 1) := hyr.2
  have hw1 : cum y m ≤ n - startI y := by omega
  have hw2 : n - startI y < cum y m + len y m := by omega
  have HST := Lib.hid hst
  have HE := Lib.hid (show n - startI y - cum y m + 1 = d by omega)
  clear hT hst hyr hnn
  go_enter Tryd.func72, Tryd.ntmps72
  go_wp2_with (go_at_call 95; refine (rfloor_any _ _ _ (by assumption) (by assumption)).mono ?_; rintro e w' ⟨rfl, rfl⟩)
  go_loop [7, 8] (fun x i => ∃ k : Int, 1970 + 400 * T ≤ k ∧ k ≤ y ∧ i = .int .i64 k ∧ x = .int .i64 (n - startI k)) (fun _ i => (y - intOf i).toNat)
  case atStart => exact ⟨1970 + 400 * T, by omega, hlo, rfl, by rw [HST.out]⟩
  case round =>
    obtain ⟨k, hk1, hk2, rfl, rfl⟩ := hrel
    obtain ⟨c7, c8⟩ := lp_01 k
    have hs := startI_succ k
    have hmo := startI_mono k y hk2
    have hge0 : 0 ≤ n - startI k := by omega
    have hge1 : n - startI k ≤ 400000 := by
      have h1 := startI_mono (1970 + 400 * T) k hk1
      have h2 := HST.out
      omega
    by_cases hlt : k < y
    · have hle : 365 + lp k ≤ n - startI k := by
        have := startI_mono (k + 1) y (by omega)
        omega
      have HS := Lib.hid (show n - startI k - (365 + lp k) = n - startI (k + 1) by omega)
      clear hs hmo
      go_wp2_with (go_at_call 76; refine (ryear_any _ _).mono ?_; rintro e w' ⟨rfl, rfl⟩)
      go_round
      case rel => exact ⟨k + 1, by omega, by omega, rfl, by rw [HS.out]⟩
      case measure => simp [intOf]; omega
    · have hkm : k = y := by omega
      subst hkm
      have hle : ¬ 365 + lp k ≤ n - startI k := by omega
      obtain ⟨l, hl⟩ : ∃ l, l = n - startI k := ⟨_, rfl⟩
      rw [← hl] at hge0 hge1 hle hw1 hw2 HE ⊢
      clear hs hmo hl
      go_wp2_with (go_at_call 76; refine (ryear_any _ _).mono ?_; rintro e w' ⟨rfl, rfl⟩)
      go_loop [7, 9] (fun x i => ∃ j : Int, 1 ≤ j ∧ j ≤ m ∧ i = .int .i64 j ∧ x = .int .i64 (l - cum k j)) (fun _ i => (m - intOf i).toNat)
      case atStart => exact ⟨1, by omega, hm1, rfl, by rw [cum_one]; simp⟩
      case round =>
        obtain ⟨j, hj1, hj2, rfl, rfl⟩ := hrel
        have hs := cum_succ k j hj1 (by omega)
        obtain ⟨c1, c2⟩ := cum_bd k j hj1 (by omega)
        obtain ⟨c3, c4⟩ := len_bd k j hj1 (by omega)
        by_cases hlt : j < m
        · have hmo := cum_mono k j m hj1 hlt hm2
          have hle2 : len k j ≤ l - cum k j := by omega
          have HS := Lib.hid (show l - cum k j - len k j = l - cum k (j + 1) by omega)
          clear hs hmo
          go_wp2_with (go_at_call 73; refine (rlength_any _ _ _).mono ?_; rintro e w' ⟨rfl, rfl⟩)
          go_round
          case rel => exact ⟨j + 1, by omega, by omega, rfl, by rw [HS.out]⟩
          case measure => simp [intOf]; omega
        · have hjm : j = m := by omega
          subst hjm
          have hle2 : ¬ len k j ≤ l - cum k j := by omega
          clear hs
          by_cases ht : k < -1000000000
          · have HV := Lib.hid (dateV_no (m := j) (d := d) (.inl ht) )
            go_wp2_with (go_at_call 73; refine (rlength_any _ _ _).mono ?_; rintro e w' ⟨rfl, rfl⟩)
            exact bodyPost_ret (v := .tuple #[.int .i64 0, .int .i64 0, .int .i64 0, .bool false]) (by simp [results, Tryd.results72, go_sem]) rfl ⟨ret_val HV.out.symm, rfl⟩
          · by_cases ht2 : 1000000000 < k
            · have HV := Lib.hid (dateV_no (m := j) (d := d) (.inr ht2) )
              go_wp2_with (go_at_call 73; refine (rlength_any _ _ _).mono ?_; rintro e w' ⟨rfl, rfl⟩)
              exact bodyPost_ret (v := .tuple #[.int .i64 0, .int .i64 0, .int .i64 0, .bool false]) (by simp [results, Tryd.results72, go_sem]) rfl ⟨ret_val HV.out.symm, rfl⟩
            · have HV := Lib.hid (dateV_yes (y := k) (m := j) (d := d) (by omega) (by omega))
              go_wp2_with (go_at_call 73; refine (rlength_any _ _ _).mono ?_; rintro e w' ⟨rfl, rfl⟩)
              exact bodyPost_ret (v := .tuple #[.int .i64 k, .int .i64 j, .int .i64 (l - cum k j + 1), .bool true]) (by simp [results, Tryd.results72, go_sem]) rfl ⟨ret_val (by rw [HV.out, HE.out]), rfl⟩
theorem rdate_v (n y m d : Int) (w : World) (h : IsDate n y m d) (_hn : I64 n) :
    Calls Tryd.prog 72 #[.int .i64 n] w fun e w' => e = .returned (dateV y m d) ∧ w = w' := by
  by_cases h1 : 400000000000 < n ∨ n < -400000000000
  · have h2 : y < -1000000000 ∨ 1000000000 < y := by
      obtain ⟨a, b⟩ := h.year
      by_cases c : -1000000002 ≤ y ∧ y + 1 ≤ 1000000002
      · have d := startI_bd y (by omega) (by omega)
        have e := startI_bd (y + 1) (by omega) (by omega)
        omega
      · omega
    rw [dateV_no h2]
    exact rdate_far n w h1
  · exact rdate_near n y m d w h (by omega) (by omega)
theorem date_v (n y m d : Int) (w : World) (h : IsDate n y m d) (hn : I64 n) :
    Calls Tryd.prog 99 #[.int .i64 n] w fun e w' => e = .returned (dateV y m d) ∧ w = w' := by
  by_cases h1 : -1000000000 ≤ y ∧ y ≤ 1000000000
  · rw [dateV_yes h1.1 h1.2]; exact date_ok n y m d w h h1.1 h1.2
  · have h2 : y < -1000000000 ∨ 1000000000 < y := by omega
    rw [dateV_no h2]; exact date_no n y m d w h hn h2
end Go.Proofs.YtigbbepgfofcoaaDoor
