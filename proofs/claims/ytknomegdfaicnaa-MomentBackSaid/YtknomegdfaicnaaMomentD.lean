/- The texts of instants rise: arithmetic of dates and of digits; byte by byte comparison (layer 8). -/
import Derived.Test.YtknomegdfaicnaaMomentC
namespace Go.Proofs.Ytknomegdfaicnaa
open Go.RowKit Civ

/-- a digit's byte -/
def dg (a : Int) : UInt8 := UInt8.ofNat (48 + a).toNat
theorem dg_nat (a : Int) (h1 : 0 ≤ a) (h2 : a ≤ 9) : ((dg a).toNat : Int) = 48 + a := by
  unfold dg
  rw [UInt8.toNat_ofNat']
  omega
theorem bl_same (c : UInt8) (x y : List UInt8) : Op.bytesLess (c :: x) (c :: y) = Op.bytesLess x y := by
  simp [Op.bytesLess]
theorem bl_dig (a b : Int) (x y : List UInt8) (h1 : 0 ≤ a) (h2 : a ≤ 9) (h3 : 0 ≤ b) (h4 : b ≤ 9) : Op.bytesLess (dg a :: x) (dg b :: y) = if a < b then true else if a = b then Op.bytesLess x y else false := by
  have e1 := dg_nat a h1 h2
  have e2 := dg_nat b h3 h4
  by_cases c1 : a < b
  · have : dg a < dg b := by rw [UInt8.lt_iff_toNat_lt]; omega
    unfold Op.bytesLess
    simp [c1, this]
  · by_cases c2 : a = b
    · subst c2
      rw [bl_same, if_neg c1, if_pos rfl]
    · have h5 : ¬ dg a < dg b := by rw [UInt8.lt_iff_toNat_lt]; omega
      have h6 : dg a ≠ dg b := by intro h; rw [h] at e1; omega
      unfold Op.bytesLess
      simp [c1, c2, h5, h6]
theorem bl_two (a b : Int) (x y : List UInt8) (h1 : 0 ≤ a) (h2 : a ≤ 99) (h3 : 0 ≤ b) (h4 : b ≤ 99) :
    Op.bytesLess (dg (a / 10 % 10) :: dg (a % 10) :: x) (dg (b / 10 % 10) :: dg (b % 10) :: y) = if a < b then true else if a = b then Op.bytesLess x y else false := by
  rw [bl_dig _ _ _ _ (by omega) (by omega) (by omega) (by omega), bl_dig _ _ _ _ (by omega) (by omega) (by omega) (by omega)]
  by_cases c1 : a / 10 % 10 < b / 10 % 10
  · rw [if_pos c1, if_pos (by omega)]
  · rw [if_neg c1]
    by_cases c2 : a / 10 % 10 = b / 10 % 10
    · rw [if_pos c2]
      by_cases c3 : a % 10 < b % 10
      · rw [if_pos c3, if_pos (by omega)]
      · rw [if_neg c3, if_neg (show ¬ a < b by omega)]
        by_cases c4 : a % 10 = b % 10
        · rw [if_pos c4, if_pos (by omega)]
        · rw [if_neg c4, if_neg (by omega)]
    · rw [if_neg c2, if_neg (by omega), if_neg (by omega)]
theorem bl_four (a b : Int) (x y : List UInt8) (h1 : 0 ≤ a) (h2 : a ≤ 9999) (h3 : 0 ≤ b) (h4 : b ≤ 9999) :
    Op.bytesLess (dg (a / 10 / 10 / 10 % 10) :: dg (a / 10 / 10 % 10) :: dg (a / 10 % 10) :: dg (a % 10) :: x) (dg (b / 10 / 10 / 10 % 10) :: dg (b / 10 / 10 % 10) :: dg (b / 10 % 10) :: dg (b % 10) :: y) = if a < b then true else if a = b then Op.bytesLess x y else false := by
  have e1 : dg (a / 10 % 10) :: dg (a % 10) :: x = dg (a % 100 / 10 % 10) :: dg (a % 100 % 10) :: x := by rw [show a % 100 / 10 % 10 = a / 10 % 10 by omega, show a % 100 % 10 = a % 10 by omega]
  have e2 : dg (b / 10 % 10) :: dg (b % 10) :: y = dg (b % 100 / 10 % 10) :: dg (b % 100 % 10) :: y := by rw [show b % 100 / 10 % 10 = b / 10 % 10 by omega, show b % 100 % 10 = b % 10 by omega]
  rw [e1, e2, show a / 10 / 10 / 10 % 10 = a / 100 / 10 % 10 by omega, show a / 10 / 10 % 10 = a / 100 % 10 by omega, show b / 10 / 10 / 10 % 10 = b / 100 / 10 % 10 by omega, show b / 10 / 10 % 10 = b / 100 % 10 by omega]
  rw [bl_two (a / 100) (b / 100) _ _ (by omega) (by omega) (by omega) (by omega), bl_two (a % 100) (b % 100) _ _ (by omega) (by omega) (by omega) (by omega)]
  by_cases c1 : a / 100 < b / 100
  · rw [if_pos c1, if_pos (by omega)]
  · rw [if_neg c1]
    by_cases c2 : a / 100 = b / 100
    · rw [if_pos c2]
      by_cases c3 : a % 100 < b % 100
      · rw [if_pos c3, if_pos (by omega)]
      · rw [if_neg c3, if_neg (show ¬ a < b by omega)]
        by_cases c4 : a % 100 = b % 100
        · rw [if_pos c4, if_pos (by omega)]
        · rw [if_neg c4, if_neg (by omega)]
    · rw [if_neg c2, if_neg (by omega), if_neg (by omega)]
def basF : ByteArray := ⟨#[121, 121, 121, 121, 110, 110, 100, 100, 84, 104, 104, 109, 109, 115, 115, 90]⟩
def lonF : ByteArray := ⟨#[121, 121, 121, 121, 45, 110, 110, 45, 100, 100, 32, 104, 104, 58, 109, 109, 58, 115, 115]⟩
theorem bas_list (y m d hh hm hs : Int) : (strOfNums (putAll basF y m d hh hm hs)).toList = dg (y / 10 / 10 / 10 % 10) :: dg (y / 10 / 10 % 10) :: dg (y / 10 % 10) :: dg (y % 10) :: dg (m / 10 % 10) :: dg (m % 10) :: dg (d / 10 % 10) :: dg (d % 10) :: 84
    :: dg (hh / 10 % 10) :: dg (hh % 10) :: dg (hm / 10 % 10) :: dg (hm % 10) :: dg (hs / 10 % 10) :: dg (hs % 10) :: [90] := by
  rw [ByteArray.toList_eq, strOfNums_data]
  rfl
theorem lon_list (y m d hh hm hs : Int) : (strOfNums (putAll lonF y m d hh hm hs)).toList = dg (y / 10 / 10 / 10 % 10) :: dg (y / 10 / 10 % 10) :: dg (y / 10 % 10) :: dg (y % 10) :: 45 :: dg (m / 10 % 10) :: dg (m % 10) :: 45 :: dg (d / 10 % 10) :: dg (d % 10) :: 32
    :: dg (hh / 10 % 10) :: dg (hh % 10) :: 58 :: dg (hm / 10 % 10) :: dg (hm % 10) :: 58 :: dg (hs / 10 % 10) :: dg (hs % 10) :: [] := by
  rw [ByteArray.toList_eq, strOfNums_data]
  rfl

/-- of two dates the one of the later year, or month, or day is the later one -/
theorem date_year {n y m d k z e f : Int} (h : IsDate n y m d) (g : IsDate k z e f) (c : y < z) : n < k := by
  have h1 := h.year
  have h2 := g.year
  have h3 := startI_mono (y + 1) z (by omega)
  omega
theorem date_month {n y m d k e f : Int} (h : IsDate n y m d) (g : IsDate k y e f) (c : m < e) : n < k := by
  obtain ⟨a1, _, _, a4, a5⟩ := h
  obtain ⟨_, b2, b3, _, b5⟩ := g
  have h3 := cum_mono y m e a1 c b2
  omega
theorem date_win {n y m d : Int} (h : IsDate n y m d) (h1 : 0 ≤ n) (h2 : n < 146097) : 1970 ≤ y ∧ y ≤ 2369 := by
  have hy := h.year
  have e1 : startI 1970 = 0 := by decide
  have e2 : startI 2370 = 146097 := by decide
  constructor
  · by_cases c : y < 1970
    · have := startI_mono (y + 1) 1970 (by omega); omega
    · omega
  · by_cases c : 2369 < y
    · have := startI_mono 2370 y (by omega); omega
    · omega
/-- the parts, one after the other -/
def lexB (y m d hh hm hs z e f gh gm gs : Int) : Bool := if y < z then true else if y = z then (if m < e then true else if m = e then (if d < f then true else if d = f then (if hh < gh then true else if hh = gh then (if hm < gm then true else if hm = gm then (if hs < gs then true else if hs = gs then false else false) else false) else false) else false) else false) else false
theorem lexB_rises {t u y m d z e f : Int} (h : IsDate (t / 86400) y m d) (g : IsDate (u / 86400) z e f) :
    lexB y m d (t % 86400 / 3600) (t % 86400 / 60 % 60) (t % 60) z e f (u % 86400 / 3600) (u % 86400 / 60 % 60) (u % 60) = decide (t < u) := by
  unfold lexB
  by_cases c1 : y < z
  · have := date_year h g c1
    rw [if_pos c1]
    exact (decide_eq_true (by omega)).symm
  rw [if_neg c1]
  by_cases c2 : y = z
  case neg =>
    have := date_year g h (by omega)
    rw [if_neg c2]
    exact (decide_eq_false (by omega)).symm
  rw [if_pos c2]
  subst c2
  by_cases c3 : m < e
  · have := date_month h g c3
    rw [if_pos c3]
    exact (decide_eq_true (by omega)).symm
  rw [if_neg c3]
  by_cases c4 : m = e
  case neg =>
    have := date_month g h (by omega)
    rw [if_neg c4]
    exact (decide_eq_false (by omega)).symm
  rw [if_pos c4]
  subst c4
  have a := h.2.2.2.2
  have b := g.2.2.2.2
  by_cases c5 : d < f
  · rw [if_pos c5]; exact (decide_eq_true (by omega)).symm
  rw [if_neg c5]
  by_cases c6 : d = f
  case neg => rw [if_neg c6]; exact (decide_eq_false (by omega)).symm
  rw [if_pos c6]
  have hn : t / 86400 = u / 86400 := by omega
  clear a b c5 c6 c1 c3 h g
  by_cases c7 : t % 86400 / 3600 < u % 86400 / 3600
  · rw [if_pos c7]; exact (decide_eq_true (by omega)).symm
  rw [if_neg c7]
  by_cases c8 : t % 86400 / 3600 = u % 86400 / 3600
  case neg => rw [if_neg c8]; exact (decide_eq_false (by omega)).symm
  rw [if_pos c8]
  by_cases c9 : t % 86400 / 60 % 60 < u % 86400 / 60 % 60
  · rw [if_pos c9]; exact (decide_eq_true (by omega)).symm
  rw [if_neg c9]
  by_cases c10 : t % 86400 / 60 % 60 = u % 86400 / 60 % 60
  case neg => rw [if_neg c10]; exact (decide_eq_false (by omega)).symm
  rw [if_pos c10]
  by_cases c11 : t % 60 < u % 60
  · rw [if_pos c11]; exact (decide_eq_true (by omega)).symm
  rw [if_neg c11]
  split <;> exact (decide_eq_false (by omega)).symm
/-- a part's bounds -/
def P2 (a : Int) : Prop := 0 ≤ a ∧ a ≤ 99
theorem bas_less (y m d hh hm hs z e f gh gm gs : Int) (hy : 0 ≤ y ∧ y ≤ 9999) (hz : 0 ≤ z ∧ z ≤ 9999) (a1 : P2 m) (a2 : P2 d) (a3 : P2 hh) (a4 : P2 hm) (a5 : P2 hs) (b1 : P2 e) (b2 : P2 f) (b3 : P2 gh) (b4 : P2 gm) (b5 : P2 gs) :
    Op.bytesLess (strOfNums (putAll basF y m d hh hm hs)).toList (strOfNums (putAll basF z e f gh gm gs)).toList = lexB y m d hh hm hs z e f gh gm gs := by
  rw [bas_list, bas_list, bl_four _ _ _ _ hy.1 hy.2 hz.1 hz.2, bl_two _ _ _ _ a1.1 a1.2 b1.1 b1.2, bl_two _ _ _ _ a2.1 a2.2 b2.1 b2.2, bl_same, bl_two _ _ _ _ a3.1 a3.2 b3.1 b3.2, bl_two _ _ _ _ a4.1 a4.2 b4.1 b4.2, bl_two _ _ _ _ a5.1 a5.2 b5.1 b5.2]
  rfl
theorem lon_less (y m d hh hm hs z e f gh gm gs : Int) (hy : 0 ≤ y ∧ y ≤ 9999) (hz : 0 ≤ z ∧ z ≤ 9999) (a1 : P2 m) (a2 : P2 d) (a3 : P2 hh) (a4 : P2 hm) (a5 : P2 hs) (b1 : P2 e) (b2 : P2 f) (b3 : P2 gh) (b4 : P2 gm) (b5 : P2 gs) :
    Op.bytesLess (strOfNums (putAll lonF y m d hh hm hs)).toList (strOfNums (putAll lonF z e f gh gm gs)).toList = lexB y m d hh hm hs z e f gh gm gs := by
  rw [lon_list, lon_list, bl_four _ _ _ _ hy.1 hy.2 hz.1 hz.2, bl_same, bl_two _ _ _ _ a1.1 a1.2 b1.1 b1.2, bl_same, bl_two _ _ _ _ a2.1 a2.2 b2.1 b2.2, bl_same, bl_two _ _ _ _ a3.1 a3.2 b3.1 b3.2, bl_same, bl_two _ _ _ _ a4.1 a4.2 b4.1 b4.2, bl_same, bl_two _ _ _ _ a5.1 a5.2 b5.1 b5.2]
  rfl
/-- an instant's texts, and how those of two stand -/
theorem texts_rise (t u : Int) (h1 : 0 ≤ t) (h2 : t < 12622780800) (h3 : 0 ≤ u) (h4 : u < 12622780800) :
    ∃ A B C D : ByteArray, (∀ w, Calls Try.prog 22 #[.int .i64 t] w fun e w' => e = .returned (.string A) ∧ Below w.heap.size w w') ∧ (∀ w, Calls Try.prog 22 #[.int .i64 u] w fun e w' => e = .returned (.string B) ∧ Below w.heap.size w w')
      ∧ (∀ w, Calls Try.prog 21 #[.int .i64 t] w fun e w' => e = .returned (.string C) ∧ Below w.heap.size w w') ∧ (∀ w, Calls Try.prog 21 #[.int .i64 u] w fun e w' => e = .returned (.string D) ∧ Below w.heap.size w w')
      ∧ Op.bytesLess A.toList B.toList = decide (t < u) ∧ Op.bytesLess C.toList D.toList = decide (t < u) := by
  obtain ⟨y, m, d, h⟩ := exists_date (t / 86400)
  obtain ⟨z, e, f, g⟩ := exists_date (u / 86400)
  have hy := date_win h (by omega) (by omega)
  have hz := date_win g (by omega) (by omega)
  have hm : P2 m := ⟨by have := h.1; omega, by have := h.2.1; omega⟩
  have he : P2 e := ⟨by have := g.1; omega, by have := g.2.1; omega⟩
  have hd : P2 d := by have a := len_bd y m h.1 h.2.1; have b := h.2.2.1; have c := h.2.2.2.1; exact ⟨by omega, by omega⟩
  have hf : P2 f := by have a := len_bd z e g.1 g.2.1; have b := g.2.2.1; have c := g.2.2.2.1; exact ⟨by omega, by omega⟩
  have p1 : P2 (t % 86400 / 3600) := ⟨by omega, by omega⟩
  have p2 : P2 (t % 86400 / 60 % 60) := ⟨by omega, by omega⟩
  have p3 : P2 (t % 60) := ⟨by omega, by omega⟩
  have q1 : P2 (u % 86400 / 3600) := ⟨by omega, by omega⟩
  have q2 : P2 (u % 86400 / 60 % 60) := ⟨by omega, by omega⟩
  have q3 : P2 (u % 60) := ⟨by omega, by omega⟩
  refine ⟨_, _, _, _, fun w => long_any t y m d _ _ _ w h1 h2 h (by omega) (by omega) rfl rfl rfl, fun w => long_any u z e f _ _ _ w h3 h4 g (by omega) (by omega) rfl rfl rfl, fun w => basic_any t y m d _ _ _ w h1 h2 h (by omega) (by omega) rfl rfl rfl, fun w => basic_any u z e f _ _ _ w h3 h4 g (by omega) (by omega) rfl rfl rfl, ?_, ?_⟩
  · rw [← lexB_rises h g]
    exact lon_less _ _ _ _ _ _ _ _ _ _ _ _ ⟨by omega, by omega⟩ ⟨by omega, by omega⟩ hm hd p1 p2 p3 he hf q1 q2 q3
  · rw [← lexB_rises h g]
    exact bas_less _ _ _ _ _ _ _ _ _ _ _ _ ⟨by omega, by omega⟩ ⟨by omega, by omega⟩ hm hd p1 p2 p3 he hf q1 q2 q3
end Go.Proofs.Ytknomegdfaicnaa
