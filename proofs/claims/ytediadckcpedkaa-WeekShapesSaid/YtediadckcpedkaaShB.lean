/- The next day's shape out of a day's (layer 6). -/
import Derived.Test.YtediadckcpedkaaShA
namespace Go.Proofs.Ytediadckcpedkaa
open Go.RowKit Civ
set_option linter.unusedVariables false

/-- what the function that follow makes knows: the place in the year, and the year's days -/
def Knows (gA gL : Nat) (y m d : Int) (w : World) : Prop := gA ≠ gL ∧ w.heap[gA]? = some (.cells #[.int .i64 (cum y m + d)] 3 (0, 0)) ∧ w.heap[gL]? = some (.cells #[.int .i64 (365 + lp y)] 3 (0, 0))
/-- it makes a day's shape out of another one's -/
def Makes (gA gL : Nat) (n y m d y' m' d' : Int) : Prop := ∀ w, Knows gA gL y m d w → Calls Try.prog 33 #[shapeV n y m d, .pointer (some ⟨gA, 0, none⟩), .pointer (some ⟨gL, 0, none⟩)] w fun e w' =>
  e = .returned (shapeV (n + 1) y' m' d') ∧ Knows gA gL y' m' d' w' ∧ But (fun k => k = gA ∨ k = gL) w w'
theorem wd_next (n : Int) : wd n % 7 + 1 = wd (n + 1) := by unfold wd; omega
theorem wd_bd (n : Int) : 1 ≤ wd n ∧ wd n ≤ 7 := by unfold wd; omega
theorem year_bd {n y m d : Int} (h : IsDate n y m d) (hn1 : 0 ≤ n) (hn2 : n < 146097) : 1970 ≤ y ∧ y ≤ 2370 := by
  obtain ⟨a, b⟩ := h.year
  have c := startI_mono (y + 1) 1970
  have e := startI_mono 2371 y
  have f : startI 1970 = 0 := by decide
  have g : startI 2371 = 146462 := by decide
  omega
theorem makes_a (gA gL : Nat) (n y m d : Int) (h : IsDate n y m d) (hn1 : 0 ≤ n) (hn2 : n < 146097) (hl : d < len y m) : IsDate (n + 1) y m (d + 1) ∧ Makes gA gL n y m d y m (d + 1) := by
  obtain ⟨hy1, hy2⟩ := year_bd h hn1 hn2
  obtain ⟨h1, h2, h3, h4, h5⟩ := h
  obtain ⟨c1, c2⟩ := len_bd y m h1 h2
  obtain ⟨c3, c4⟩ := cum_bd y m h1 h2
  obtain ⟨c5, c6⟩ := lp_01 y
  obtain ⟨w1, w2⟩ := wd_bd n
  refine ⟨⟨h1, h2, by omega, by omega, by omega⟩, fun w ⟨k1, k2, k3⟩ => ?_⟩
  have K := follow_a gA gL n y m d (len y m - d + 1) (wd n) ((d - 1) / 7 + 1) ((len y m - d) / 7 + 1) ((cum y m + d - 1) / 7 + 1) ((365 + lp y - (cum y m + d)) / 7 + 1) (cum y m + d) (365 + lp y) ((d + 1 - 1) / 7 + 1) ((len y m - (d + 1)) / 7 + 1) ((cum y m + (d + 1) - 1) / 7 + 1) ((365 + lp y - (cum y m + (d + 1))) / 7 + 1) w k2 k3 k1
    ⟨hn1, by omega⟩ ⟨by omega, by omega⟩ ⟨h1, h2⟩ ⟨h3, by omega⟩ ⟨w1, w2⟩ ⟨by omega, by omega⟩ ⟨by omega, by omega⟩
    (fun w => by rw [show d + 1 + (len y m - d + 1 - 1) - 1 = len y m by omega]; exact which_ok (d + 1) (len y m) w (by omega) (by omega) (by omega))
    (fun w => by rw [show cum y m + d + 1 = cum y m + (d + 1) by omega]; exact which_ok (cum y m + (d + 1)) (365 + lp y) w (by omega) (by omega) (by omega))
  rw [wd_next, show len y m - d + 1 - 1 = len y m - (d + 1) + 1 by omega, show cum y m + d + 1 = cum y m + (d + 1) by omega] at K
  exact K.mono fun e w' ⟨q1, q2, q3, q4⟩ => ⟨q1, ⟨k1, q2, q3⟩, q4.mono fun k _ hk => .inl hk⟩
theorem makes_b (gA gL : Nat) (n y m d : Int) (h : IsDate n y m d) (hn1 : 0 ≤ n) (hn2 : n < 146097) (hl : d = len y m) (hm : m < 12) : IsDate (n + 1) y (m + 1) 1 ∧ Makes gA gL n y m d y (m + 1) 1 := by
  obtain ⟨hy1, hy2⟩ := year_bd h hn1 hn2
  obtain ⟨h1, h2, h3, h4, h5⟩ := h
  obtain ⟨c1, c2⟩ := len_bd y m h1 h2
  obtain ⟨b1, b2⟩ := len_bd y (m + 1) (by omega) (by omega)
  obtain ⟨c3, c4⟩ := cum_bd y m h1 h2
  obtain ⟨b3, b4⟩ := cum_bd y (m + 1) (by omega) (by omega)
  obtain ⟨c5, c6⟩ := lp_01 y
  obtain ⟨w1, w2⟩ := wd_bd n
  have hc := cum_succ y m h1 h2
  refine ⟨⟨by omega, by omega, by omega, by omega, by omega⟩, fun w ⟨k1, k2, k3⟩ => ?_⟩
  have K := follow_b gA gL n y m d (len y m - d + 1) (wd n) ((d - 1) / 7 + 1) ((len y m - d) / 7 + 1) ((cum y m + d - 1) / 7 + 1) ((365 + lp y - (cum y m + d)) / 7 + 1) (cum y m + d) (365 + lp y) ((1 - 1) / 7 + 1) ((len y (m + 1) - 1) / 7 + 1) ((cum y (m + 1) + 1 - 1) / 7 + 1) ((365 + lp y - (cum y (m + 1) + 1)) / 7 + 1) w k2 k3 k1
    ⟨hn1, by omega⟩ ⟨by omega, by omega⟩ ⟨h1, h2⟩ ⟨h3, by omega⟩ ⟨w1, w2⟩ ⟨by omega, by omega⟩ (by omega) hm (len y (m + 1)) ⟨b1, b2⟩ (fun w => length_any y (m + 1) w)
    (fun w => by rw [show 1 + len y (m + 1) - 1 = len y (m + 1) by omega]; exact which_ok 1 (len y (m + 1)) w (by omega) (by omega) (by omega))
    (fun w => by rw [show cum y m + d + 1 = cum y (m + 1) + 1 by omega]; exact which_ok (cum y (m + 1) + 1) (365 + lp y) w (by omega) (by omega) (by omega))
  rw [wd_next, show cum y m + d + 1 = cum y (m + 1) + 1 by omega] at K
  refine K.mono fun e w' ⟨q1, q2, q3, q4⟩ => ⟨?_, ⟨k1, q2, q3⟩, q4.mono fun k _ hk => .inl hk⟩
  rw [q1]
  unfold shapeV
  rw [show len y (m + 1) - 1 + 1 = len y (m + 1) by omega]
theorem makes_c (gA gL : Nat) (n y m d : Int) (h : IsDate n y m d) (hn1 : 0 ≤ n) (hn2 : n < 146097) (hl : d = len y m) (hm : m = 12) : IsDate (n + 1) (y + 1) 1 1 ∧ Makes gA gL n y m d (y + 1) 1 1 := by
  obtain ⟨hy1, hy2⟩ := year_bd h hn1 hn2
  obtain ⟨h1, h2, h3, h4, h5⟩ := h
  obtain ⟨c1, c2⟩ := len_bd y m h1 h2
  obtain ⟨b1, b2⟩ := len_bd (y + 1) 1 (by omega) (by omega)
  obtain ⟨c3, c4⟩ := cum_bd y m h1 h2
  obtain ⟨b3, b4⟩ := cum_bd (y + 1) 1 (by omega) (by omega)
  obtain ⟨c5, c6⟩ := lp_01 y
  obtain ⟨b5, b6⟩ := lp_01 (y + 1)
  obtain ⟨w1, w2⟩ := wd_bd n
  have hc := cum_succ y m h1 h2
  subst hm
  have he : cum y (12 + 1) = 365 + lp y := cum_end y
  have h0 := cum_one (y + 1)
  have hs := startI_succ y
  refine ⟨⟨by omega, by omega, by omega, by omega, by omega⟩, fun w ⟨k1, k2, k3⟩ => ?_⟩
  have K := follow_c gA gL n y 12 d (len y 12 - d + 1) (wd n) ((d - 1) / 7 + 1) ((len y 12 - d) / 7 + 1) ((cum y 12 + d - 1) / 7 + 1) ((365 + lp y - (cum y 12 + d)) / 7 + 1) (cum y 12 + d) (365 + lp y) ((1 - 1) / 7 + 1) ((len (y + 1) 1 - 1) / 7 + 1) ((cum (y + 1) 1 + 1 - 1) / 7 + 1) ((365 + lp (y + 1) - (cum (y + 1) 1 + 1)) / 7 + 1) w k2 k3 k1
    ⟨hn1, by omega⟩ ⟨by omega, by omega⟩ ⟨h1, h2⟩ ⟨h3, by omega⟩ ⟨w1, w2⟩ ⟨by omega, by omega⟩ (by omega) rfl (len (y + 1) 1) (365 + lp (y + 1)) ⟨b1, b2⟩ (fun w => wyear_any (y + 1) w) (fun w => length_any (y + 1) 1 w)
    (fun w => by rw [show 1 + len (y + 1) 1 - 1 = len (y + 1) 1 by omega]; exact which_ok 1 (len (y + 1) 1) w (by omega) (by omega) (by omega))
    (fun w => by
      have := which_ok (cum (y + 1) 1 + 1) (365 + lp (y + 1)) w (by omega) (by omega) (by omega)
      rw [h0] at this ⊢
      exact this)
  rw [wd_next] at K
  refine K.mono fun e w' ⟨q1, q2, q3, q4⟩ => ⟨?_, ⟨k1, by rw [q2, h0]; rfl, q3⟩, q4⟩
  rw [q1]
  unfold shapeV
  rw [show len (y + 1) 1 - 1 + 1 = len (y + 1) 1 by omega]
/-- the next day -/
theorem makes_next (n y m d : Int) (h : IsDate n y m d) (hn1 : 0 ≤ n) (hn2 : n < 146097) : ∃ y' m' d', IsDate (n + 1) y' m' d' ∧ ∀ gA gL, Makes gA gL n y m d y' m' d' := by
  by_cases hl : d < len y m
  · exact ⟨y, m, d + 1, (makes_a 0 0 n y m d h hn1 hn2 hl).1, fun gA gL => (makes_a gA gL n y m d h hn1 hn2 hl).2⟩
  · have hl' : d = len y m := by have := h.2.2.2.1; omega
    by_cases hm : m < 12
    · exact ⟨y, m + 1, 1, (makes_b 0 0 n y m d h hn1 hn2 hl' hm).1, fun gA gL => (makes_b gA gL n y m d h hn1 hn2 hl' hm).2⟩
    · have hm' : m = 12 := by have := h.2.1; omega
      exact ⟨y + 1, 1, 1, (makes_c 0 0 n y m d h hn1 hn2 hl' hm').1, fun gA gL => (makes_c gA gL n y m d h hn1 hn2 hl' hm').2⟩
end Go.Proofs.Ytediadckcpedkaa
