/- Plain arithmetic of the Gregorian calendar: years, months, days by number; nothing of the program is spoken of. -/
import Derived.Test.YtigbbepgfofcoaaDoorKit
namespace Go.Proofs.YtigbbepgfofcoaaDoor.Civ

/-- one day more in a year that has it -/
def lp (y : Int) : Int := if y % 4 = 0 ∧ (y % 100 ≠ 0 ∨ y % 400 = 0) then 1 else 0
theorem lp_01 (y : Int) : 0 ≤ lp y ∧ lp y ≤ 1 := by unfold lp; split <;> omega
/-- days between year 1 and a year -/
def aheadI (y : Int) : Int := 365 * (y - 1) + (y - 1) / 4 - (y - 1) / 100 + (y - 1) / 400
def startI (y : Int) : Int := aheadI y - 719162
theorem startI_succ (y : Int) : startI (y + 1) = startI y + 365 + lp y := by unfold startI aheadI lp; split <;> omega
theorem startI_mono (a b : Int) (h : a ≤ b) : startI a + 365 * (b - a) ≤ startI b := by unfold startI aheadI; omega
theorem startI_up (a b : Int) (h : a ≤ b) : startI b ≤ startI a + 366 * (b - a) := by
  unfold startI aheadI
  have : (b - 1) / 4 ≤ (a - 1) / 4 + (b - a + 3) / 4 := by omega
  have : (b - 1) / 400 - (b - 1) / 100 ≤ (a - 1) / 400 - (a - 1) / 100 := by omega
  by_cases h0 : a = b
  · subst h0; omega
  · omega
theorem startI_era (y k : Int) : startI (y + 400 * k) = startI y + 146097 * k := by unfold startI aheadI; omega
theorem lp_era (y k : Int) : lp (y + 400 * k) = lp y := by
  unfold lp
  have h1 : (y + 400 * k) % 4 = y % 4 := by omega
  have h2 : (y + 400 * k) % 100 = y % 100 := by omega
  have h3 : (y + 400 * k) % 400 = y % 400 := by omega
  rw [h1, h2, h3]

def len (y m : Int) : Int := if m = 2 then 28 + lp y else if m = 4 ∨ m = 6 ∨ m = 9 ∨ m = 11 then 30 else if 1 ≤ m ∧ m ≤ 12 then 31 else 0
def cum (y m : Int) : Int := (367 * m - 362) / 12 - if m ≤ 2 then 0 else 2 - lp y
theorem months {P : Int → Prop} (m : Int) (h1 : 1 ≤ m) (h2 : m ≤ 12) (h : P 1 ∧ P 2 ∧ P 3 ∧ P 4 ∧ P 5 ∧ P 6 ∧ P 7 ∧ P 8 ∧ P 9 ∧ P 10 ∧ P 11 ∧ P 12) : P m := by
  obtain ⟨a1, a2, a3, a4, a5, a6, a7, a8, a9, a10, a11, a12⟩ := h
  have : m = 1 ∨ m = 2 ∨ m = 3 ∨ m = 4 ∨ m = 5 ∨ m = 6 ∨ m = 7 ∨ m = 8 ∨ m = 9 ∨ m = 10 ∨ m = 11 ∨ m = 12 := by omega
  rcases this with rfl | rfl | rfl | rfl | rfl | rfl | rfl | rfl | rfl | rfl | rfl | rfl <;> assumption
theorem cum_one (y : Int) : cum y 1 = 0 := by simp [cum]
theorem cum_end (y : Int) : cum y 13 = 365 + lp y := by simp [cum]; omega
theorem cum_succ (y m : Int) (h1 : 1 ≤ m) (h2 : m ≤ 12) : cum y (m + 1) = cum y m + len y m := by
  revert m
  intro m h1 h2
  refine months (P := fun m => cum y (m + 1) = cum y m + len y m) m h1 h2 ?_
  simp [cum, len]
  omega
theorem len_bd (y m : Int) (h1 : 1 ≤ m) (h2 : m ≤ 12) : 28 ≤ len y m ∧ len y m ≤ 31 := by
  have := lp_01 y
  unfold len
  split
  · omega
  · split
    · omega
    · rw [if_pos ⟨h1, h2⟩]; omega
theorem len_no (y m : Int) (h : ¬ (1 ≤ m ∧ m ≤ 12)) : len y m = 0 := by
  unfold len
  rw [if_neg (by omega), if_neg (by omega), if_neg h]
theorem cum_bd (y m : Int) (h1 : 1 ≤ m) (h2 : m ≤ 12) : 0 ≤ cum y m ∧ cum y m + len y m ≤ 365 + lp y := by
  have := lp_01 y
  refine months (P := fun m => 0 ≤ cum y m ∧ cum y m + len y m ≤ 365 + lp y) m h1 h2 ?_
  simp [cum, len]
  omega
theorem cum_mono (y m k : Int) (h1 : 1 ≤ m) (h2 : m < k) (h3 : k ≤ 12) : cum y m + len y m ≤ cum y k := by
  have := lp_01 y
  rw [← cum_succ y m h1 (by omega)]
  unfold cum
  split <;> split <;> omega

/-- day n has this date -/
def IsDate (n y m d : Int) : Prop := 1 ≤ m ∧ m ≤ 12 ∧ 1 ≤ d ∧ d ≤ len y m ∧ startI y + cum y m + d - 1 = n
theorem IsDate.year {n y m d : Int} (h : IsDate n y m d) : startI y ≤ n ∧ n < startI (y + 1) := by
  obtain ⟨h1, h2, h3, h4, h5⟩ := h
  have := cum_bd y m h1 h2
  rw [startI_succ]; omega
theorem year_unique {n y z : Int} (h1 : startI y ≤ n) (h2 : n < startI (y + 1)) (h3 : startI z ≤ n) (h4 : n < startI (z + 1)) : y = z := by
  have a := startI_mono (y + 1) z
  have b := startI_mono (z + 1) y
  omega
theorem month_unique {y l m k : Int} (h1 : 1 ≤ m) (h2 : m ≤ 12) (h3 : 1 ≤ k) (h4 : k ≤ 12) (a : cum y m ≤ l) (b : l < cum y m + len y m) (c : cum y k ≤ l) (d : l < cum y k + len y k) : m = k := by
  have e := cum_mono y m k h1
  have f := cum_mono y k m h3
  omega
theorem IsDate.unique {n y m d z k e : Int} (h : IsDate n y m d) (g : IsDate n z k e) : y = z ∧ m = k ∧ d = e := by
  have hy := year_unique h.year.1 h.year.2 g.year.1 g.year.2
  subst hy
  obtain ⟨h1, h2, h3, h4, h5⟩ := h
  obtain ⟨g1, g2, g3, g4, g5⟩ := g
  have hm := month_unique (y := y) (l := n - startI y) h1 h2 g1 g2 (by omega) (by omega) (by omega) (by omega)
  subst hm
  exact ⟨rfl, rfl, by omega⟩
/-- the first guess of a year -/
def guess (n : Int) : Int := 1970 + 400 * (n / 146097) + n % 146097 / 366
theorem guess_le (n : Int) : startI (guess n) ≤ n := by
  unfold guess
  generalize ht : n / 146097 = t
  generalize hl : n % 146097 = l
  have h1 : n = 146097 * t + l := by omega
  have h2 : 0 ≤ l ∧ l < 146097 := by omega
  rw [show (1970 + 400 * t + l / 366 : Int) = (1970 + l / 366) + 400 * t by omega, startI_era]
  have h3 := startI_up 1970 (1970 + l / 366) (by omega)
  have h4 : startI 1970 = 0 := by decide
  omega
theorem guess_next (n : Int) : n < startI (guess n + 2) := by
  unfold guess
  generalize ht : n / 146097 = t
  generalize hl : n % 146097 = l
  have h1 : n = 146097 * t + l := by omega
  have h2 : 0 ≤ l ∧ l < 146097 := by omega
  rw [show (1970 + 400 * t + l / 366 + 2 : Int) = (1972 + l / 366) + 400 * t by omega, startI_era]
  have h3 : 0 ≤ l / 366 ∧ l / 366 ≤ 399 := by omega
  have h4 : l < 366 * (l / 366) + 366 := by omega
  generalize l / 366 = k at h3 h4 ⊢
  unfold startI aheadI
  omega
theorem exists_year (n : Int) : ∃ y, startI y ≤ n ∧ n < startI (y + 1) := by
  by_cases h : startI (guess n + 1) ≤ n
  · exact ⟨guess n + 1, h, by have := guess_next n; rwa [show guess n + 1 + 1 = guess n + 2 by omega]⟩
  · exact ⟨guess n, guess_le n, by omega⟩
theorem exists_date (n : Int) : ∃ y m d, IsDate n y m d := by
  obtain ⟨y, h1, h2⟩ := exists_year n
  rw [startI_succ] at h2
  have h01 := lp_01 y
  have key : ∃ m, 1 ≤ m ∧ m ≤ 12 ∧ cum y m ≤ n - startI y ∧ n - startI y < cum y (m + 1) := by
    by_cases c2 : n - startI y < cum y 2
    · exact ⟨1, by omega, by omega, by rw [cum_one]; omega, c2⟩
    by_cases c3 : n - startI y < cum y 3
    · exact ⟨2, by omega, by omega, by omega, c3⟩
    by_cases c4 : n - startI y < cum y 4
    · exact ⟨3, by omega, by omega, by omega, c4⟩
    by_cases c5 : n - startI y < cum y 5
    · exact ⟨4, by omega, by omega, by omega, c5⟩
    by_cases c6 : n - startI y < cum y 6
    · exact ⟨5, by omega, by omega, by omega, c6⟩
    by_cases c7 : n - startI y < cum y 7
    · exact ⟨6, by omega, by omega, by omega, c7⟩
    by_cases c8 : n - startI y < cum y 8
    · exact ⟨7, by omega, by omega, by omega, c8⟩
    by_cases c9 : n - startI y < cum y 9
    · exact ⟨8, by omega, by omega, by omega, c9⟩
    by_cases c10 : n - startI y < cum y 10
    · exact ⟨9, by omega, by omega, by omega, c10⟩
    by_cases c11 : n - startI y < cum y 11
    · exact ⟨10, by omega, by omega, by omega, c11⟩
    by_cases c12 : n - startI y < cum y 12
    · exact ⟨11, by omega, by omega, by omega, c12⟩
    · exact ⟨12, by omega, by omega, by omega, by show _ < cum y 13; rw [cum_end]; omega⟩
  obtain ⟨m, m1, m2, m3, m4⟩ := key
  rw [cum_succ y m m1 m2] at m4
  exact ⟨y, m, n - startI y - cum y m + 1, m1, m2, by omega, by omega, by omega⟩
theorem IsDate.guess {n y m d : Int} (h : IsDate n y m d) : Civ.guess n ≤ y ∧ y ≤ Civ.guess n + 1 := by
  have a := guess_le n
  have b := guess_next n
  obtain ⟨c, e⟩ := h.year
  have f := startI_mono (y + 1) (Civ.guess n)
  have g := startI_mono (Civ.guess n + 2) y
  omega
theorem startI_bd (y : Int) (h : -1000000500 ≤ y) (h' : y ≤ 1000000500) : -400000000000 ≤ startI y ∧ startI y ≤ 400000000000 := by unfold startI aheadI; omega
end Go.Proofs.YtigbbepgfofcoaaDoor.Civ
