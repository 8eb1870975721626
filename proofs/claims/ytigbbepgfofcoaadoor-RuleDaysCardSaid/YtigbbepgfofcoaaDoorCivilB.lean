/- Contracts of Number, Ordinal, Date and Cycle of package civil (layer 5), by a day's date; each leaves the world as it was. -/
import Derived.Test.YtigbbepgfofcoaaDoorCivil
namespace Go.Proofs.YtigbbepgfofcoaaDoor
open Go.RowKit Civ

theorem within_any (y l m : Int) (w : World) (hm1 : 1 ≤ m) (hm2 : m ≤ 12) (h1 : cum y m ≤ l) (h2 : l < cum y m + len y m) :
    Calls Tryd.prog 104 #[.int .i64 y, .int .i64 l] w fun e w' => e = .returned (.tuple #[.int .i64 m, .int .i64 (l - cum y m + 1)]) ∧ w = w' := by
  have hcm := cum_bd y m hm1 hm2
  have h01 := lp_01 y
  go_enter Tryd.func104, Tryd.ntmps104
  go_wp2
  go_step3
  go_wp2
  go_step3
  go_wp2
  go_loop [1, 6] (fun x i => ∃ k : Int, 1 ≤ k ∧ k ≤ m ∧ i = .int .i64 k ∧ x = .int .i64 (l - cum y k)) (fun _ i => (m - intOf i).toNat)
  case atStart => exact ⟨1, by omega, hm1, rfl, by rw [cum_one]; simp⟩
  case round =>
    obtain ⟨k, hk1, hk2, rfl, rfl⟩ := hrel
    have hck := cum_bd y k hk1 (by omega)
    have hlk := len_bd y k hk1 (by omega)
    have hs := cum_succ y k hk1 (by omega)
    have hlb : 0 ≤ l := by omega
    have hlu : l ≤ 366 := by omega
    obtain ⟨c1, c2⟩ := hck
    obtain ⟨c3, c4⟩ := hlk
    obtain ⟨c5, c6⟩ := hcm
    obtain ⟨c7, c8⟩ := h01
    by_cases hlt : k < m
    · have hmo := cum_mono y k m hk1 hlt hm2
      have hge : ¬ l - cum y k < len y k := by omega
      have HS := Lib.hid (show l - cum y k - len y k = l - cum y (k + 1) by omega)
      clear hs hmo
      go_wp2_with (go_at_call 108; refine (length_any _ _ _).mono ?_; rintro e w' ⟨rfl, rfl⟩)
      go_round
      case rel => exact ⟨k + 1, by omega, by omega, rfl, by rw [HS.out]⟩
      case measure => simp [intOf]; omega
    · have hkm : k = m := by omega
      subst hkm
      have hge : l - cum y k < len y k := by omega
      clear hs
      go_wp2_with (go_at_call 108; refine (length_any _ _ _).mono ?_; rintro e w' ⟨rfl, rfl⟩)
      rw [Exit.noGoto_ret]
      go_ret2
      exact ⟨rfl, rfl⟩

theorem cycle_any (n : Int) (w : World) (hn : I64 n) : Calls Tryd.prog 101 #[.int .i64 n] w fun e w' => e = .returned (.tuple #[.int .i64 (n / 146097), .int .i64 (n % 146097)]) ∧ w = w' := by
  have f1 := floorI_pos n 146097 (by omega)
  have f2 : modI n 146097 = n % 146097 := by unfold modI; rw [if_neg (by omega)]
  have i1 := i64_of 146097 (by omega) (by omega)
  go_enter Tryd.func101, Tryd.ntmps101
  go_wp2_with (first | (go_at_call 106; refine (floor_any _ _ _ (by assumption) (by assumption)).mono ?_; rintro e w' ⟨rfl, rfl⟩) | (go_at_call 94; refine (mod_any _ _ _ (by assumption) (by assumption)).mono ?_; rintro e w' ⟨rfl, rfl⟩))
  go_ret2
  exact ⟨rfl, rfl⟩

/-- the loop of Date, from the guess on -/
theorem date_ok (n y m d : Int) (w : World) (h : IsDate n y m d) (hy1 : -1000000000 ≤ y) (hy2 : y ≤ 1000000000) :
    Calls Tryd.prog 99 #[.int .i64 n] w fun e w' => e = .returned (.tuple #[.int .i64 y, .int .i64 m, .int .i64 d, .bool true]) ∧ w = w' := by
  have hb := startI_bd y (by omega) (by omega)
  have hyr := h.year
  have hg := h.guess
  have hsu := startI_succ y
  have h01 := lp_01 y
  have hn := i64_of n (by omega) (by omega)
  obtain ⟨hm1, hm2, hd1, hd2, hnn⟩ := h
  have hcm := cum_bd y m hm1 hm2
  have hG : 1970 + 400 * (n / 146097) + n % 146097 / 366 = guess n := rfl
  obtain ⟨T, hT⟩ : ∃ T, T = n / 146097 := ⟨_, rfl⟩
  obtain ⟨L, hL⟩ : ∃ L, L = n % 146097 := ⟨_, rfl⟩
  obtain ⟨g, hgg⟩ : ∃ g, g = guess n := ⟨_, rfl⟩
  rw [← hT, ← hL, ← hgg] at hG
  rw [← hgg] at hg
  have hT1 : -3000000 ≤ T := by omega
  have hT2 : T ≤ 3000000 := by omega
  have hL1 : 0 ≤ L := by omega
  have hL2 : L < 146097 := by omega
  have hq : 0 ≤ L / 366 := by omega
  have hq2 : L / 366 ≤ 400 := by omega
  have hcy : Calls Tryd.prog 101 #[.int .i64 n] w fun e w' => e = .returned (.tuple #[.int .i64 T, .int .i64 L]) ∧ w = w' := by rw [hT, hL]; exact cycle_any n w hn
  have hlo : startI y ≤ n := hyr.1
  have hhi : n < startI (y + 1) := hyr.2
  have hsb : -400000000000 ≤ startI y := hb.1
  have hsb2 : startI y ≤ 400000000000 := hb.2
  have hw1 : cum y m ≤ n - startI y := by omega
  have hw2 : n - startI y < cum y m + len y m := by omega
  have HE := Lib.hid (show n - startI y - cum y m + 1 = d by omega)
  obtain ⟨hg1, hg2⟩ := hg
  have hn1 : -500000000000 ≤ n := by omega
  have hn2 : n ≤ 500000000000 := by omega
  clear hT hL hgg hyr hb hsu h01 hcm hnn hn
  by_cases ht : g < -1000000000
  · have htn : g < -1000000000 ∨ 1000000000 < g := by omega
    have hg3 : -1000000000 ≤ g + 1 := by omega
    have hg4 : g + 1 ≤ 1000000000 := by omega
    have hg5 : -1000000001 ≤ g := by omega
    go_enter Tryd.func99, Tryd.ntmps99
    go_wp2_with (first | (go_at_call 101; refine hcy.mono ?_; rintro e w' ⟨rfl, rfl⟩) | (go_at_call 102; ((with_reducible refine (told_no g _ htn).mono ?_); rintro e w' ⟨rfl, rfl⟩)) | (go_at_call 102; ((with_reducible refine (told_yes (g + 1) _ hg3 hg4).mono ?_); rintro e w' ⟨rfl, rfl⟩)))
    go_loop [2] (fun x => ∃ k : Int, g ≤ k ∧ k ≤ y ∧ x = .int .i64 k) (fun x => (y - intOf x).toNat)
    case atStart => exact ⟨g, by omega, hg1, rfl⟩
    case round =>
      obtain ⟨k, hk1, hk2, rfl⟩ := hrel
      have hkb1 : -1000000001 ≤ k := by omega
      have hkb2 : k ≤ 1000000000 := by omega
      have hkc1 : (-1000000002 : Int) ≤ k + 1 := by omega
      have hkc2 : k + 1 ≤ (1000000002 : Int) := by omega
      by_cases hlt : k < y
      · have hle : startI (k + 1) ≤ n := by have := startI_mono (k + 1) y (by omega); omega
        go_wp2_with (go_at_call 103; refine (startI_any _ _ (by assumption) (by assumption)).mono ?_; rintro e w' ⟨rfl, rfl⟩)
        go_round
        case rel => exact ⟨k + 1, by omega, by omega, rfl⟩
        case measure => simp [intOf]; omega
      · have hky : k = y := by omega
        subst hky
        have hle : ¬ startI (k + 1) ≤ n := by omega
        have hkd1 : (-1000000002 : Int) ≤ k := by omega
        have hkd2 : k ≤ (1000000002 : Int) := by omega
        go_wp2_with (first | (go_at_call 102; refine (told_yes _ _ hy1 hy2).mono ?_; rintro e w' ⟨rfl, rfl⟩) | (go_at_call 103; refine (startI_any _ _ (by assumption) (by assumption)).mono ?_; rintro e w' ⟨rfl, rfl⟩) | (go_at_call 104; refine (within_any _ _ _ _ hm1 hm2 hw1 hw2).mono ?_; rintro e w' ⟨rfl, rfl⟩))
        refine bodyPost_ret (v := .tuple #[.int .i64 k, .int .i64 m, .int .i64 (n - startI k - cum k m + 1), .bool true]) (by simp [results, Tryd.results99, go_sem]) rfl ⟨?_, rfl⟩
        rw [HE.out]
  · have hgt : -1000000000 ≤ g := by omega
    have hgt2 : g ≤ 1000000000 := by omega
    go_enter Tryd.func99, Tryd.ntmps99
    go_wp2_with (first | (go_at_call 101; refine hcy.mono ?_; rintro e w' ⟨rfl, rfl⟩) | (go_at_call 102; refine (told_yes _ _ hgt hgt2).mono ?_; rintro e w' ⟨rfl, rfl⟩))
    go_loop [2] (fun x => ∃ k : Int, g ≤ k ∧ k ≤ y ∧ x = .int .i64 k) (fun x => (y - intOf x).toNat)
    case atStart => exact ⟨g, by omega, hg1, rfl⟩
    case round =>
      obtain ⟨k, hk1, hk2, rfl⟩ := hrel
      have hkb1 : -1000000001 ≤ k := by omega
      have hkb2 : k ≤ 1000000000 := by omega
      have hkc1 : (-1000000002 : Int) ≤ k + 1 := by omega
      have hkc2 : k + 1 ≤ (1000000002 : Int) := by omega
      by_cases hlt : k < y
      · have hle : startI (k + 1) ≤ n := by have := startI_mono (k + 1) y (by omega); omega
        go_wp2_with (go_at_call 103; refine (startI_any _ _ (by assumption) (by assumption)).mono ?_; rintro e w' ⟨rfl, rfl⟩)
        go_round
        case rel => exact ⟨k + 1, by omega, by omega, rfl⟩
        case measure => simp [intOf]; omega
      · have hky : k = y := by omega
        subst hky
        have hle : ¬ startI (k + 1) ≤ n := by omega
        have hkd1 : (-1000000002 : Int) ≤ k := by omega
        have hkd2 : k ≤ (1000000002 : Int) := by omega
        go_wp2_with (first | (go_at_call 102; refine (told_yes _ _ hy1 hy2).mono ?_; rintro e w' ⟨rfl, rfl⟩) | (go_at_call 103; refine (startI_any _ _ (by assumption) (by assumption)).mono ?_; rintro e w' ⟨rfl, rfl⟩) | (go_at_call 104; refine (within_any _ _ _ _ hm1 hm2 hw1 hw2).mono ?_; rintro e w' ⟨rfl, rfl⟩))
        refine bodyPost_ret (v := .tuple #[.int .i64 k, .int .i64 m, .int .i64 (n - startI k - cum k m + 1), .bool true]) (by simp [results, Tryd.results99, go_sem]) rfl ⟨?_, rfl⟩
        rw [HE.out]

theorem date_no (n y m d : Int) (w : World) (h : IsDate n y m d) (hn : I64 n) (hun : y < -1000000000 ∨ 1000000000 < y) :
    Calls Tryd.prog 99 #[.int .i64 n] w fun e w' => e = .returned (.tuple #[.int .i64 0, .int .i64 0, .int .i64 0, .bool false]) ∧ w = w' := by
  have hyr := h.year
  have hg := h.guess
  have hG : 1970 + 400 * (n / 146097) + n % 146097 / 366 = guess n := rfl
  obtain ⟨T, hT⟩ : ∃ T, T = n / 146097 := ⟨_, rfl⟩
  obtain ⟨L, hL⟩ : ∃ L, L = n % 146097 := ⟨_, rfl⟩
  obtain ⟨g, hgg⟩ : ∃ g, g = guess n := ⟨_, rfl⟩
  have hn' := hn
  unfold I64 at hn'
  rw [← hT, ← hL, ← hgg] at hG
  rw [← hgg] at hg
  have hT1 : -70000000000000 ≤ T := by omega
  have hT2 : T ≤ 70000000000000 := by omega
  have hL1 : 0 ≤ L := by omega
  have hL2 : L < 146097 := by omega
  have hq : 0 ≤ L / 366 := by omega
  have hq2 : L / 366 ≤ 400 := by omega
  have hgb1 : -30000000000000000 ≤ g := by omega
  have hgb2 : g ≤ 30000000000000000 := by omega
  have hcy : Calls Tryd.prog 101 #[.int .i64 n] w fun e w' => e = .returned (.tuple #[.int .i64 T, .int .i64 L]) ∧ w = w' := by rw [hT, hL]; exact cycle_any n w hn
  have hlo : startI y ≤ n := hyr.1
  have hhi : n < startI (y + 1) := hyr.2
  obtain ⟨hg1, hg2⟩ := hg
  clear hT hL hgg hyr hn hn' h
  by_cases h1 : g < -1000000000
  · by_cases h2 : g + 1 < -1000000000
    · have ha : g < -1000000000 ∨ 1000000000 < g := by omega
      have hb : g + 1 < -1000000000 ∨ 1000000000 < g + 1 := by omega
      go_enter Tryd.func99, Tryd.ntmps99
      go_wp2_with (first | (go_at_call 101; refine hcy.mono ?_; rintro e w' ⟨rfl, rfl⟩) | (go_at_call 102; refine (told_no _ _ (by assumption)).mono ?_; rintro e w' ⟨rfl, rfl⟩))
      exact bodyPost_ret (v := .tuple #[.int .i64 0, .int .i64 0, .int .i64 0, .bool false]) (by simp [results, Tryd.results99, go_sem]) rfl ⟨rfl, rfl⟩
    · have ha : g < -1000000000 ∨ 1000000000 < g := by omega
      have hg3 : -1000000000 ≤ g + 1 := by omega
      have hg4 : g + 1 ≤ 1000000000 := by omega
      go_enter Tryd.func99, Tryd.ntmps99
      go_wp2_with (first | (go_at_call 101; refine hcy.mono ?_; rintro e w' ⟨rfl, rfl⟩) | (go_at_call 102; ((with_reducible refine (told_no g _ ha).mono ?_); rintro e w' ⟨rfl, rfl⟩)) | (go_at_call 102; ((with_reducible refine (told_yes (g + 1) _ hg3 hg4).mono ?_); rintro e w' ⟨rfl, rfl⟩)))
      go_loop [2] (fun x => ∃ k : Int, g ≤ k ∧ k ≤ y ∧ x = .int .i64 k) (fun x => (y - intOf x).toNat)
      case atStart => exact ⟨g, by omega, hg1, rfl⟩
      case round =>
        obtain ⟨k, hk1, hk2, rfl⟩ := hrel
        have hkb1 : -1000000001 ≤ k := by omega
        have hkb2 : k ≤ 1000000001 := by omega
        have hkc1 : (-1000000002 : Int) ≤ k + 1 := by omega
        have hkc2 : k + 1 ≤ (1000000002 : Int) := by omega
        by_cases hlt : k < y
        · have hle : startI (k + 1) ≤ n := by have := startI_mono (k + 1) y (by omega); omega
          go_wp2_with (go_at_call 103; refine (startI_any _ _ (by assumption) (by assumption)).mono ?_; rintro e w' ⟨rfl, rfl⟩)
          go_round
          case rel => exact ⟨k + 1, by omega, by omega, rfl⟩
          case measure => simp [intOf]; omega
        · have hky : k = y := by omega
          subst hky
          have hle : ¬ startI (k + 1) ≤ n := by omega
          go_wp2_with (first | (go_at_call 102; refine (told_no _ _ hun).mono ?_; rintro e w' ⟨rfl, rfl⟩) | (go_at_call 103; refine (startI_any _ _ (by assumption) (by assumption)).mono ?_; rintro e w' ⟨rfl, rfl⟩))
          exact bodyPost_ret (v := .tuple #[.int .i64 0, .int .i64 0, .int .i64 0, .bool false]) (by simp [results, Tryd.results99, go_sem]) rfl ⟨rfl, rfl⟩
  · by_cases h2 : 1000000000 < g
    · have ha : g < -1000000000 ∨ 1000000000 < g := by omega
      have hb : g + 1 < -1000000000 ∨ 1000000000 < g + 1 := by omega
      go_enter Tryd.func99, Tryd.ntmps99
      go_wp2_with (first | (go_at_call 101; refine hcy.mono ?_; rintro e w' ⟨rfl, rfl⟩) | (go_at_call 102; refine (told_no _ _ (by assumption)).mono ?_; rintro e w' ⟨rfl, rfl⟩))
      exact bodyPost_ret (v := .tuple #[.int .i64 0, .int .i64 0, .int .i64 0, .bool false]) (by simp [results, Tryd.results99, go_sem]) rfl ⟨rfl, rfl⟩
    · have hg3 : -1000000000 ≤ g := by omega
      have hg4 : g ≤ 1000000000 := by omega
      go_enter Tryd.func99, Tryd.ntmps99
      go_wp2_with (first | (go_at_call 101; refine hcy.mono ?_; rintro e w' ⟨rfl, rfl⟩) | (go_at_call 102; refine (told_yes _ _ hg3 hg4).mono ?_; rintro e w' ⟨rfl, rfl⟩))
      go_loop [2] (fun x => ∃ k : Int, g ≤ k ∧ k ≤ y ∧ x = .int .i64 k) (fun x => (y - intOf x).toNat)
      case atStart => exact ⟨g, by omega, hg1, rfl⟩
      case round =>
        obtain ⟨k, hk1, hk2, rfl⟩ := hrel
        have hkb1 : -1000000001 ≤ k := by omega
        have hkb2 : k ≤ 1000000001 := by omega
        have hkc1 : (-1000000002 : Int) ≤ k + 1 := by omega
        have hkc2 : k + 1 ≤ (1000000002 : Int) := by omega
        by_cases hlt : k < y
        · have hle : startI (k + 1) ≤ n := by have := startI_mono (k + 1) y (by omega); omega
          go_wp2_with (go_at_call 103; refine (startI_any _ _ (by assumption) (by assumption)).mono ?_; rintro e w' ⟨rfl, rfl⟩)
          go_round
          case rel => exact ⟨k + 1, by omega, by omega, rfl⟩
          case measure => simp [intOf]; omega
        · have hky : k = y := by omega
          subst hky
          have hle : ¬ startI (k + 1) ≤ n := by omega
          go_wp2_with (first | (go_at_call 102; refine (told_no _ _ hun).mono ?_; rintro e w' ⟨rfl, rfl⟩) | (go_at_call 103; refine (startI_any _ _ (by assumption) (by assumption)).mono ?_; rintro e w' ⟨rfl, rfl⟩))
          exact bodyPost_ret (v := .tuple #[.int .i64 0, .int .i64 0, .int .i64 0, .bool false]) (by simp [results, Tryd.results99, go_sem]) rfl ⟨rfl, rfl⟩

end Go.Proofs.YtigbbepgfofcoaaDoor
