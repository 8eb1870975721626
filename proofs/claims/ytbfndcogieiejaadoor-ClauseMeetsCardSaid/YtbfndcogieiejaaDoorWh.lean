/- Which unit an instant lies in, by its day's date; steps of units (layer 10). Whether an instant is on a step, by the program and by the document (layer 10). Steps of units, by the document; the functions of days that tell of steps (layer 10). -/
import Derived.Test.YtbfndcogieiejaaDoorDy
import Derived.Test.YtbfndcogieiejaaDoorUnC
import Derived.Test.YtbfndcogieiejaaDoorCmF
namespace Go.Proofs.YtbfndcogieiejaaDoor
open Go.RowKit Civ
set_option linter.unusedVariables false

theorem entersD {P : Program} {f : FuncId} {fn : Func} {c : Code} (hf : P.funcs[f]? = some fn) (hname : (fn.name == "runtime.NumGoroutine") = false) (hb : fn.body = some c) (args : Array Value) (w : World) :
    Sem.run P (callFunc f args) w = .ok (.enter f args) w := by
  have h1 : fn.name ≠ "runtime.NumGoroutine" := by simpa using hname
  simp [callFunc, hf, h1, hb]
noncomputable def dY (n : Int) : Int := (exists_date n).choose
noncomputable def dM (n : Int) : Int := (exists_date n).choose_spec.choose
noncomputable def dD (n : Int) : Int := (exists_date n).choose_spec.choose_spec.choose
theorem d_is (n : Int) : IsDate n (dY n) (dM n) (dD n) := (exists_date n).choose_spec.choose_spec.choose_spec
theorem dY_bd (n : Int) (h1 : 0 ≤ n) (h2 : n < 146097) : 1970 ≤ dY n ∧ dY n ≤ 2370 := by
  obtain ⟨a, b⟩ := (d_is n).year
  have c := startI_mono (dY n + 1) 1970
  have e := startI_mono 2371 (dY n)
  have f : startI 1970 = 0 := by decide
  have g : startI 2371 = 146462 := by decide
  omega
/-- a day's shape, by its date -/
def spOf (n y m d : Int) : Sp := ⟨n, y, m, d, len y m - d + 1, wd n, (d - 1) / 7 + 1, (len y m - d) / 7 + 1, (cum y m + d - 1) / 7 + 1, (365 + lp y - (cum y m + d)) / 7 + 1⟩
theorem spOf_v (n y m d : Int) : spV (spOf n y m d) = shapeV n y m d := rfl
noncomputable def shD (n : Int) : Sp := spOf n (dY n) (dM n) (dD n)
/-- which unit, of those from a day on, a day lies in -/
noncomputable def dayU (u n : Int) : Int := if u = 3 then n else if u = 4 then wn n else if u = 5 then 12 * dY n + dM n - 1 else dY n
noncomputable def whV (u t : Int) : Int := if u < 3 then t / sz u else dayU u (t / 86400)
theorem both_wh (u t : Int) (hu1 : 0 ≤ u) (hu2 : u < 7) (h1 : 0 ≤ t) (h2 : t < 12622780800) : Both u t (whV u t) := by
  unfold whV
  by_cases h : u < 3
  · rw [if_pos h]
    have hs : 0 < sz u := by
      rcases sz_cases u with ⟨rfl, q⟩ | ⟨rfl, q⟩ | ⟨rfl, q⟩ | ⟨a, b, c, q⟩
      · rw [q]; decide
      · rw [q]; decide
      · rw [q]; decide
      · have : u = 0 ∨ u = 1 ∨ u = 2 := by omega
        rcases this with rfl | rfl | rfl
        · cases a
        · cases b
        · cases c
    exact both_low u t (sz u) rfl hs h1 h2
  · rw [if_neg h]
    unfold dayU
    have : u = 3 ∨ u = 4 ∨ u = 5 ∨ u = 6 := by omega
    rcases this with rfl | rfl | rfl | rfl
    · exact both_day t h1 h2
    · exact both_week t h1 h2
    · exact both_month t _ _ _ h1 h2 (d_is _)
    · exact both_year t _ _ _ h1 h2 (d_is _)
/-- how great a unit's number is -/
theorem whV_bd (u t : Int) (hu1 : 0 ≤ u) (hu2 : u < 7) (h1 : 0 ≤ t) (h2 : t < 12622780800) : 0 ≤ whV u t ∧ whV u t < 12622780800 := by
  unfold whV
  by_cases h : u < 3
  · rw [if_pos h]
    have : u = 0 ∨ u = 1 ∨ u = 2 := by omega
    rcases this with rfl | rfl | rfl
    · rw [show sz 0 = 1 by decide]; omega
    · rw [show sz 1 = 60 by decide]; omega
    · rw [show sz 2 = 3600 by decide]; omega
  · rw [if_neg h]
    obtain ⟨y1, y2⟩ := dY_bd (t / 86400) (by omega) (by omega)
    have hd := d_is (t / 86400)
    have hm1 := hd.1
    have hm2 := hd.2.1
    unfold dayU
    have : u = 3 ∨ u = 4 ∨ u = 5 ∨ u = 6 := by omega
    rcases this with rfl | rfl | rfl | rfl
    · rw [if_pos rfl]; omega
    · rw [if_neg (by decide), if_pos rfl]; unfold wn; split <;> omega
    · rw [if_neg (by decide), if_neg (by decide), if_pos rfl]; omega
    · rw [if_neg (by decide), if_neg (by decide), if_neg (by decide)]; omega
theorem dayU_bd (u n : Int) (hu1 : 3 ≤ u) (hu2 : u < 7) (h1 : 0 ≤ n) (h2 : n < 146097) : 0 ≤ dayU u n ∧ dayU u n < 12622780800 := by
  have q := whV_bd u (86400 * n) (by omega) hu2 (by omega) (by omega)
  unfold whV at q
  rw [if_neg (by omega), show 86400 * n / 86400 = n by omega] at q
  exact q
set_option maxRecDepth 20000 in
theorem uofday_any (u n : Int) (hu1 : 3 ≤ u) (hu2 : u < 7) (h1 : 0 ≤ n) (h2 : n < 146097) (w : World) : Calls Tryd.prog 76 #[.int .i64 u, spV (shD n)] w fun e w' => e = .returned (.int .i64 (dayU u n)) ∧ Below w.heap.size w w' := by
  obtain ⟨y1, y2⟩ := dY_bd n h1 h2
  have hd := d_is n
  have hm1 := hd.1
  have hm2 := hd.2.1
  unfold spV spC shD spOf dayU
  simp only
  generalize dY n = y at *
  generalize dM n = m at *
  generalize dD n = d at *
  have : u = 3 ∨ u = 4 ∨ u = 5 ∨ u = 6 := by omega
  rcases this with rfl | rfl | rfl | rfl
  · rw [if_pos rfl]
    clear hd hm1 hm2 y1 y2
    go_enter Tryd.func76, Tryd.ntmps76
    go_wp2
    go_ret
    exact ⟨rfl, (Below.refl _ _).alloc (Nat.le_refl _) _⟩
  · rw [if_neg (by decide), if_pos rfl]
    have K := fun W => wnum_any n W (i64_of _ (by omega) (by omega))
    clear hd hm1 hm2 y1 y2
    go_enter Tryd.func76, Tryd.ntmps76
    go_wp2_with fail
    refine (K _).mono ?_
    rintro e w' ⟨rfl, rfl⟩
    go_wp2
    go_ret
    exact ⟨rfl, (Below.refl _ _).alloc (Nat.le_refl _) _⟩
  · rw [if_neg (by decide), if_neg (by decide), if_pos rfl]
    have w1 : IntKind.i64.wrap (12 * y) = 12 * y := IntWalk.i64_in _ ⟨by omega, by omega⟩
    have w2 : IntKind.i64.wrap (12 * y + m) = 12 * y + m := IntWalk.i64_in _ ⟨by omega, by omega⟩
    have w3 : IntKind.i64.wrap (12 * y + m - 1) = 12 * y + m - 1 := IntWalk.i64_in _ ⟨by omega, by omega⟩
    clear hd hm1 hm2 y1 y2
    go_enter Tryd.func76, Tryd.ntmps76
    go_wp2
    go_ret
    exact ⟨rfl, (Below.refl _ _).alloc (Nat.le_refl _) _⟩
  · rw [if_neg (by decide), if_neg (by decide), if_neg (by decide)]
    clear hd hm1 hm2 y1 y2
    go_enter Tryd.func76, Tryd.ntmps76
    go_wp2
    go_ret
    exact ⟨rfl, (Below.refl _ _).alloc (Nat.le_refl _) _⟩
/-- are both on a step? -/
def okU (u st an : Int) : Bool := decide (0 ≤ u ∧ u < 7) && (decide (0 ≤ an ∧ an < 12622780800) && decide (1 ≤ st))
noncomputable def onB (u st an t : Int) : Bool := okU u st an && (decide (0 ≤ t ∧ t < 12622780800) && decide ((whV u t - whV u an) % st = 0))
end Go.Proofs.YtbfndcogieiejaaDoor
namespace Go.Proofs.YtbfndcogieiejaaDoor
open Go.RowKit Civ
set_option linter.unusedVariables false

def okT (u t : Int) : Bool := decide (0 ≤ t ∧ t < 12622780800) && decide (0 ≤ u ∧ u < 7)
noncomputable def whO (u t : Int) : Int := if okT u t then whV u t else 0
theorem uwhich_any (u t : Int) (w : World) : Calls Tryd.prog 62 #[.int .i64 u, .int .i64 t] w fun e w' => e = .returned (.tuple #[.int .i64 (whO u t), .bool (okT u t)]) ∧ Below w.heap.size w w' := by
  unfold whO okT
  by_cases h1 : 0 ≤ t ∧ t < 12622780800
  · by_cases h2 : 0 ≤ u ∧ u < 7
    · rw [dec_t h1, dec_t h2]
      exact (both_wh u t h2.1 h2.2 h1.1 h1.2).1 w
    · rw [dec_t h1, dec_n h2]
      exact uwhich_u u t w h1.1 h1.2 (by omega)
  · rw [dec_n h1]
    exact uwhich_t u t w (by omega)
theorem whO_bd (u t : Int) : 0 ≤ whO u t ∧ whO u t < 12622780800 := by
  unfold whO okT
  by_cases h1 : 0 ≤ t ∧ t < 12622780800
  · by_cases h2 : 0 ≤ u ∧ u < 7
    · rw [dec_t h1, dec_t h2]
      exact whV_bd u t h2.1 h2.2 h1.1 h1.2
    · rw [dec_t h1, dec_n h2]
      simp
  · rw [dec_n h1]
    simp
theorem onB_eq (u st an t : Int) : onB u st an t = (okT u an && (okT u t && (decide (1 ≤ st) && decide ((whO u t - whO u an) % st = 0)))) := by
  unfold onB okU whO okT
  by_cases h2 : 0 ≤ u ∧ u < 7
  · by_cases h1 : 0 ≤ t ∧ t < 12622780800
    · by_cases h3 : 0 ≤ an ∧ an < 12622780800
      · rw [dec_t h1, dec_t h2, dec_t h3]
        cases decide (1 ≤ st) <;> simp
      · rw [dec_n h3]; simp
    · rw [dec_n h1]; simp
  · rw [dec_n h2]; simp
theorem tmodD (d st : Int) : (Int.tmod d st == 0) = decide (d % st = 0) := by
  rw [Bool.eq_iff_iff, beq_iff_eq, decide_eq_true_eq]
  constructor
  · intro q; exact Int.emod_eq_zero_of_dvd (Int.dvd_of_tmod_eq_zero q)
  · intro q; exact Int.tmod_eq_zero_of_dvd (Int.dvd_of_emod_eq_zero q)
theorem emod_leD (d st : Int) (h : 1 ≤ st) (hd : 0 ≤ d) : 0 ≤ d % st ∧ d % st ≤ d := by
  refine ⟨Int.emod_nonneg d (by omega), ?_⟩
  rw [Int.emod_def]
  have := Int.mul_nonneg (show 0 ≤ st by omega) (Int.ediv_nonneg hd (show 0 ≤ st by omega))
  omega
theorem tmod_bd (d st : Int) (h : 1 ≤ st) (h1 : -12622780800 ≤ d) (h2 : d ≤ 12622780800) : -12622780800 ≤ Int.tmod d st ∧ Int.tmod d st ≤ 12622780800 := by
  by_cases hd : 0 ≤ d
  · rw [Int.tmod_eq_emod_of_nonneg hd]
    have := emod_leD d st h hd
    omega
  · have e : Int.tmod d st = -Int.tmod (-d) st := by rw [Int.neg_tmod]; omega
    rw [e, Int.tmod_eq_emod_of_nonneg (show 0 ≤ -d by omega)]
    have := emod_leD (-d) st h (by omega)
    omega
set_option maxRecDepth 20000 in
theorem uon_any (u st an t : Int) (w : World) : Calls Tryd.prog 36 #[.int .i64 u, .int .i64 st, .int .i64 an, .int .i64 t] w fun e w' => e = .returned (.bool (onB u st an t)) ∧ Below w.heap.size w w' := by
  rw [onB_eq]
  have K1 := fun W => uwhich_any u an W
  have K2 := fun W => uwhich_any u t W
  obtain ⟨a1, a2⟩ := whO_bd u an
  obtain ⟨b1, b2⟩ := whO_bd u t
  have wr : IntKind.i64.wrap (whO u t - whO u an) = whO u t - whO u an := IntWalk.i64_in _ ⟨by omega, by omega⟩
  generalize whO u an = A at *
  generalize whO u t = B at *
  generalize okT u an = p at *
  generalize okT u t = q at *
  by_cases hs : 1 ≤ st
  · have d1 : decide (1 ≤ st) = true := dec_t hs
    have hz : (st == 0) = false := by rw [beq_eq_false_iff_ne]; omega
    have hz2 : ¬ st = 0 := by omega
    have ht := tmodD (B - A) st
    obtain ⟨t1, t2⟩ := tmod_bd (B - A) st hs (by omega) (by omega)
    have wt : IntKind.i64.wrap (Int.tmod (B - A) st) = Int.tmod (B - A) st := IntWalk.i64_in _ ⟨by omega, by omega⟩
    rw [d1]
    generalize decide ((B - A) % st = 0) = z at *
    clear a1 a2 b1 b2 t1 t2 hs
    cases p
    · go_enter Tryd.func36, Tryd.ntmps36
      go_wp2_with fail
      refine (K1 _).mono ?_
      rintro e w1 ⟨rfl, hb1⟩
      have HB1 := Lib.hid hb1
      clear hb1
      go_wp2_with fail
      refine (K2 _).mono ?_
      rintro e w2 ⟨rfl, hb2⟩
      have HB2 := Lib.hid (HB1.out.trans (hb2.mono HB1.out.size))
      clear hb2
      go_wp2
      go_ret
      exact ⟨rfl, HB2.out⟩
    · cases q
      · go_enter Tryd.func36, Tryd.ntmps36
        go_wp2_with fail
        refine (K1 _).mono ?_
        rintro e w1 ⟨rfl, hb1⟩
        have HB1 := Lib.hid hb1
        clear hb1
        go_wp2_with fail
        refine (K2 _).mono ?_
        rintro e w2 ⟨rfl, hb2⟩
        have HB2 := Lib.hid (HB1.out.trans (hb2.mono HB1.out.size))
        clear hb2
        go_wp2
        go_ret
        exact ⟨rfl, HB2.out⟩
      · go_enter Tryd.func36, Tryd.ntmps36
        go_wp2_with fail
        refine (K1 _).mono ?_
        rintro e w1 ⟨rfl, hb1⟩
        have HB1 := Lib.hid hb1
        clear hb1
        go_wp2_with fail
        refine (K2 _).mono ?_
        rintro e w2 ⟨rfl, hb2⟩
        have HB2 := Lib.hid (HB1.out.trans (hb2.mono HB1.out.size))
        clear hb2
        go_wp2
        go_ret
        exact ⟨rfl, HB2.out⟩
  · have d1 : decide (1 ≤ st) = false := dec_n hs
    rw [d1]
    clear a1 a2 b1 b2 hs
    cases p
    · go_enter Tryd.func36, Tryd.ntmps36
      go_wp2_with fail
      refine (K1 _).mono ?_
      rintro e w1 ⟨rfl, hb1⟩
      have HB1 := Lib.hid hb1
      clear hb1
      go_wp2_with fail
      refine (K2 _).mono ?_
      rintro e w2 ⟨rfl, hb2⟩
      have HB2 := Lib.hid (HB1.out.trans (hb2.mono HB1.out.size))
      clear hb2
      go_wp2
      go_ret
      exact ⟨rfl, HB2.out⟩
    · cases q
      all_goals
        go_enter Tryd.func36, Tryd.ntmps36
        go_wp2_with fail
        refine (K1 _).mono ?_
        rintro e w1 ⟨rfl, hb1⟩
        have HB1 := Lib.hid hb1
        clear hb1
        go_wp2_with fail
        refine (K2 _).mono ?_
        rintro e w2 ⟨rfl, hb2⟩
        have HB2 := Lib.hid (HB1.out.trans (hb2.mono HB1.out.size))
        clear hb2
        go_wp2
        go_ret
        exact ⟨rfl, HB2.out⟩
end Go.Proofs.YtbfndcogieiejaaDoor
namespace Go.Proofs.YtbfndcogieiejaaDoor
open Go.RowKit Civ
set_option linter.unusedVariables false

set_option maxHeartbeats 800000 in
set_option maxRecDepth 20000 in
theorem ron10_any (u st an t : Int) (w : World) : Calls Tryd.prog 39 #[.int .i64 u, .int .i64 st, .int .i64 an, .int .i64 t] w fun e w' => e = .returned (.bool (onB u st an t)) ∧ Below w.heap.size w w' := by
  have HE := Lib.hid (show onB u st an t = (decide (0 ≤ u ∧ u < 7) && (decide (0 ≤ an ∧ an < 12622780800) && (decide (0 ≤ t ∧ t < 12622780800) && (decide (1 ≤ st) && decide ((whV u t - whV u an) % st = 0))))) by
    unfold onB okU
    cases decide (0 ≤ u ∧ u < 7) <;> cases decide (0 ≤ an ∧ an < 12622780800) <;> cases decide (1 ≤ st) <;> simp)
  generalize onB u st an t = bb at HE ⊢
  have K1 := fun W => rmay10_any u W
  have K2 := fun W => rin08_any an W
  have K3 := fun W => rin08_any t W
  by_cases hu : 0 ≤ u ∧ u < 7
  · rw [dec_t hu] at K1 HE
    by_cases ha : 0 ≤ an ∧ an < 12622780800
    · rw [dec_t ha] at K2 HE
      by_cases ht : 0 ≤ t ∧ t < 12622780800
      · rw [dec_t ht] at K3 HE
        by_cases hs : 1 ≤ st
        · rw [dec_t hs] at HE
          have d1 : decide (st < 1) = false := dec_n (by omega)
          have KB := (both_wh u t hu.1 hu.2 ht.1 ht.2).2
          have KA := (both_wh u an hu.1 hu.2 ha.1 ha.2).2
          obtain ⟨a1, a2⟩ := whV_bd u an hu.1 hu.2 ha.1 ha.2
          obtain ⟨b1, b2⟩ := whV_bd u t hu.1 hu.2 ht.1 ht.2
          have wr : IntKind.i64.wrap (whV u t - whV u an) = whV u t - whV u an := IntWalk.i64_in _ ⟨by omega, by omega⟩
          generalize whV u an = A at *
          generalize whV u t = B at *
          obtain ⟨d, hd⟩ : ∃ d, d = B - A := ⟨_, rfl⟩
          rw [← hd] at wr HE
          have bd : -12622780800 ≤ d ∧ d ≤ 12622780800 := by omega
          have HD := Lib.hid hd
          have hd2 : B - A = d := hd.symm
          have hz : (st == 0) = false := by rw [beq_eq_false_iff_ne]; omega
          have hz2 : ¬ st = 0 := by omega
          clear hd
          by_cases hn : d < 0
          · have d2 : decide (d < 0) = true := dec_t hn
            have wn1 : IntKind.i64.wrap (-d) = -d := IntWalk.i64_in _ ⟨by omega, by omega⟩
            obtain ⟨t1, t2⟩ := tmod_bd (-d) st hs (by omega) (by omega)
            have wt : IntKind.i64.wrap (Int.tmod (-d) st) = Int.tmod (-d) st := IntWalk.i64_in _ ⟨by omega, by omega⟩
            have htm : (Int.tmod (-d) st == 0) = decide (d % st = 0) := by
              rw [tmodD, Bool.eq_iff_iff, decide_eq_true_eq, decide_eq_true_eq]
              exact ⟨fun q => Int.emod_eq_zero_of_dvd (Int.dvd_neg.1 (Int.dvd_of_emod_eq_zero q)), fun q => Int.emod_eq_zero_of_dvd (Int.dvd_neg.2 (Int.dvd_of_emod_eq_zero q))⟩
            rw [Int.neg_tmod] at wt htm
            generalize decide (d % st = 0) = z at *
            obtain rfl : bb = z := by rw [HE.out]; simp
            clear a1 a2 b1 b2 t1 t2 hs hn bd hu ha ht HE
            go_enter Tryd.func39, Tryd.ntmps39
            go_wp2_with fail
            refine (K1 _).mono ?_
            rintro e w1 ⟨rfl, rfl⟩
            go_wp2_with fail
            refine (K2 _).mono ?_
            rintro e w1 ⟨rfl, rfl⟩
            go_wp2_with fail
            refine (K3 _).mono ?_
            rintro e w1 ⟨rfl, rfl⟩
            go_wp2_with fail
            refine (KB _).mono ?_
            rintro e w1 ⟨rfl, hb1⟩
            have HB1 := Lib.hid hb1
            clear hb1
            go_wp2_with fail
            refine (KA _).mono ?_
            rintro e w2 ⟨rfl, hb2⟩
            have HB2 := Lib.hid (HB1.out.trans (hb2.mono HB1.out.size))
            clear hb2
            go_wp2
            go_ret
            exact ⟨rfl, HB2.out⟩
          · have d2 : decide (d < 0) = false := dec_n hn
            obtain ⟨t1, t2⟩ := tmod_bd d st hs (by omega) (by omega)
            have wt : IntKind.i64.wrap (Int.tmod d st) = Int.tmod d st := IntWalk.i64_in _ ⟨by omega, by omega⟩
            have htm := tmodD d st
            generalize decide (d % st = 0) = z at *
            obtain rfl : bb = z := by rw [HE.out]; simp
            clear a1 a2 b1 b2 t1 t2 hs hn bd hu ha ht HE
            go_enter Tryd.func39, Tryd.ntmps39
            go_wp2_with fail
            refine (K1 _).mono ?_
            rintro e w1 ⟨rfl, rfl⟩
            go_wp2_with fail
            refine (K2 _).mono ?_
            rintro e w1 ⟨rfl, rfl⟩
            go_wp2_with fail
            refine (K3 _).mono ?_
            rintro e w1 ⟨rfl, rfl⟩
            go_wp2_with fail
            refine (KB _).mono ?_
            rintro e w1 ⟨rfl, hb1⟩
            have HB1 := Lib.hid hb1
            clear hb1
            go_wp2_with fail
            refine (KA _).mono ?_
            rintro e w2 ⟨rfl, hb2⟩
            have HB2 := Lib.hid (HB1.out.trans (hb2.mono HB1.out.size))
            clear hb2
            go_wp2
            go_ret
            exact ⟨rfl, HB2.out⟩
        · obtain rfl : bb = false := by rw [HE.out, dec_n hs]; rfl
          have d1 : decide (st < 1) = true := dec_t (by omega)
          clear HE hu ha ht hs
          go_enter Tryd.func39, Tryd.ntmps39
          go_wp2_with fail
          refine (K1 _).mono ?_
          rintro e w1 ⟨rfl, rfl⟩
          go_wp2_with fail
          refine (K2 _).mono ?_
          rintro e w1 ⟨rfl, rfl⟩
          go_wp2_with fail
          refine (K3 _).mono ?_
          rintro e w1 ⟨rfl, rfl⟩
          go_wp2
          go_ret
          exact ⟨rfl, Below.refl _ _⟩
      · rw [dec_n ht] at K3 HE
        obtain rfl : bb = false := by rw [HE.out]; rfl
        clear HE hu ha ht
        go_enter Tryd.func39, Tryd.ntmps39
        go_wp2_with fail
        refine (K1 _).mono ?_
        rintro e w1 ⟨rfl, rfl⟩
        go_wp2_with fail
        refine (K2 _).mono ?_
        rintro e w1 ⟨rfl, rfl⟩
        go_wp2_with fail
        refine (K3 _).mono ?_
        rintro e w1 ⟨rfl, rfl⟩
        go_wp2
        go_ret
        exact ⟨rfl, Below.refl _ _⟩
    · rw [dec_n ha] at K2 HE
      obtain rfl : bb = false := by rw [HE.out]; rfl
      clear HE hu ha K3
      go_enter Tryd.func39, Tryd.ntmps39
      go_wp2_with fail
      refine (K1 _).mono ?_
      rintro e w1 ⟨rfl, rfl⟩
      go_wp2_with fail
      refine (K2 _).mono ?_
      rintro e w1 ⟨rfl, rfl⟩
      go_wp2
      go_ret
      exact ⟨rfl, Below.refl _ _⟩
  · rw [dec_n hu] at K1 HE
    obtain rfl : bb = false := by rw [HE.out]; rfl
    clear HE hu K2 K3
    go_enter Tryd.func39, Tryd.ntmps39
    go_wp2_with fail
    refine (K1 _).mono ?_
    rintro e w1 ⟨rfl, rfl⟩
    go_wp2
    go_ret
    exact ⟨rfl, Below.refl _ _⟩

set_option maxHeartbeats 800000 in
set_option maxRecDepth 20000 in
theorem udays_hi (u st an A : Int) (hu1 : 3 ≤ u) (hu2 : u < 7) (hst : 1 ≤ st) (hW : Both u an A) (w : World) : Calls Tryd.prog 48 #[.int .i64 u, .int .i64 st, .int .i64 an] w fun e w' => ∃ gs gu ga, e = .returned (.func (.func 75) #[] #[.pointer (some ⟨gs, 0, none⟩), .pointer (some ⟨gu, 0, none⟩), .pointer (some ⟨ga, 0, none⟩)]) ∧ w'.cell? ⟨gs, 0, none⟩ = some (.int .i64 st) ∧ w'.cell? ⟨gu, 0, none⟩ = some (.int .i64 u) ∧ w'.cell? ⟨ga, 0, none⟩ = some (.int .i64 A) ∧ Below w.heap.size w w' := by
  have K := hW.1
  have d1 : decide (1 ≤ st) = true := dec_t hst
  have d2 : decide (u < 3) = false := dec_n (by omega)
  have HB0 := Lib.hid (show Below w.heap.size w ((w.alloc (.cells #[.int .i64 u] 3)).alloc (.cells #[.int .i64 st] 2)) from ((Below.refl _ _).alloc (Nat.le_refl _) _).alloc (by simp) _)
  have HG0 := Lib.hid (blk_more (blk_new w (.cells #[.int .i64 u] 3)) (.cells #[.int .i64 st] 2))
  have HS0 := Lib.hid (blk_new (w.alloc (.cells #[.int .i64 u] 3)) (.cells #[.int .i64 st] 2))
  rw [size_allocD] at HS0
  have a0 := blk_cell HG0.out 0
  rw [show (#[Value.int .i64 u] : Array Value)[0]? = some (.int .i64 u) from rfl] at a0
  generalize hX : (w.alloc (.cells #[.int .i64 u] 3)).alloc (.cells #[.int .i64 st] 2) = W0 at HB0 HG0 HS0 a0
  clear hu1 hu2 hst hW
  go_enter Tryd.func48, Tryd.ntmps48
  go_wp2_with fail
  try rw [hX]
  clear hX
  refine (K _).mono ?_
  rintro e w1 ⟨rfl, hb⟩
  have x0 : w1.cell? ⟨w.heap.size, 0, none⟩ = some (.int .i64 u) := blk_cell ((hb.block _ (lt_of_block HG0.out)).trans HG0.out) 0
  have x1 : w1.cell? ⟨w.heap.size + 1, 0, none⟩ = some (.int .i64 st) := blk_cell ((hb.block _ (lt_of_block HS0.out)).trans HS0.out) 0
  have l0 : w.heap.size < w1.heap.size := Nat.lt_of_lt_of_le (lt_of_block HG0.out) hb.size
  have l1 : w.heap.size + 1 < w1.heap.size := Nat.lt_of_lt_of_le (lt_of_block HS0.out) hb.size
  have HB := Lib.hid (HB0.out.trans (hb.mono HB0.out.size))
  clear hb K HG0 HS0 HB0
  go_wp2
  go_ret
  have hbb : Below w1.heap.size w1 ((w1.alloc (.cells #[.int .i64 A] 2)).alloc (.cells #[.bool true] 4)) := ((Below.refl _ _).alloc (Nat.le_refl _) _).alloc (by simp) _
  refine ⟨w.heap.size + 1, w.heap.size, w1.heap.size, rfl, (hbb.cell (p := ⟨w.heap.size + 1, 0, none⟩) l1).trans x1, (hbb.cell (p := ⟨w.heap.size, 0, none⟩) l0).trans x0, ?_, HB.out.trans (hbb.mono HB.out.size)⟩
  exact blk_cell (blk_more (blk_new w1 (.cells #[.int .i64 A] 2)) _) 0

/-- what a day's test of a step reads -/
def St3 (W0 : World) (gs gu ga g : Nat) (st u A : Int) (s : Sp) (X : World) : Prop := Below W0.heap.size W0 X ∧ X.cell? ⟨gs, 0, none⟩ = some (.int .i64 st) ∧ X.cell? ⟨gu, 0, none⟩ = some (.int .i64 u) ∧ X.cell? ⟨ga, 0, none⟩ = some (.int .i64 A) ∧ X.cell? ⟨g, 0, none⟩ = some (.int .i64 s.n) ∧ X.heap[g]? = some (.cells (spC s) 40 (0, 0))
theorem St3.to {W0 X : World} {gs gu ga g : Nat} {st u A : Int} {s : Sp} (H : St3 W0 gs gu ga g st u A s X) {Y : World} (hb : Below X.heap.size X Y) : St3 W0 gs gu ga g st u A s Y :=
  ⟨H.1.trans (hb.mono H.1.size), (hb.cell (p := ⟨gs, 0, none⟩) (ucell_lt H.2.1)).trans H.2.1, (hb.cell (p := ⟨gu, 0, none⟩) (ucell_lt H.2.2.1)).trans H.2.2.1, (hb.cell (p := ⟨ga, 0, none⟩) (ucell_lt H.2.2.2.1)).trans H.2.2.2.1, (hb.cell (p := ⟨g, 0, none⟩) (ucell_lt H.2.2.2.2.1)).trans H.2.2.2.2.1, (hb.block _ (lt_of_block H.2.2.2.2.2)).trans H.2.2.2.2.2⟩
set_option maxHeartbeats 1600000 in
set_option maxRecDepth 20000 in
theorem udays2_any (u st A V : Int) (s : Sp) (hn1 : 0 ≤ s.n) (hn2 : s.n < 146097) (hst : 1 ≤ st) (hA : 0 ≤ A ∧ A < 12622780800) (hV : 0 ≤ V ∧ V < 12622780800) (hO : ∀ W, Calls Tryd.prog 76 #[.int .i64 u, spV s] W fun e w' => e = .returned (.int .i64 V) ∧ Below W.heap.size W w') (gs gu ga : Nat) (w : World)
    (h1 : w.cell? ⟨gs, 0, none⟩ = some (.int .i64 st)) (h2 : w.cell? ⟨gu, 0, none⟩ = some (.int .i64 u)) (h3 : w.cell? ⟨ga, 0, none⟩ = some (.int .i64 A)) :
    Calls Tryd.prog 75 #[spV s, .pointer (some ⟨gs, 0, none⟩), .pointer (some ⟨gu, 0, none⟩), .pointer (some ⟨ga, 0, none⟩)] w fun e w' => e = .returned (.bool (decide ((V - A) % st = 0))) ∧ Below w.heap.size w w' := by
  have HB0 := Lib.hid (show Below w.heap.size w (w.alloc (.cells (spC s) 40)) from (Below.refl _ _).alloc (Nat.le_refl _) _)
  have HS0 := Lib.hid (show St3 (w.alloc (.cells (spC s) 40)) gs gu ga w.heap.size st u A s (w.alloc (.cells (spC s) 40)) from ⟨Below.refl _ _, (HB0.out.cell (p := ⟨gs, 0, none⟩) (ucell_lt h1)).trans h1, (HB0.out.cell (p := ⟨gu, 0, none⟩) (ucell_lt h2)).trans h2, (HB0.out.cell (p := ⟨ga, 0, none⟩) (ucell_lt h3)).trans h3, blk_cell (blk_new w _) 0, blk_new w _⟩)
  have KO := Lib.hid hO
  have d1 : decide (0 ≤ s.n) = true := dec_t hn1
  have d2 : decide (s.n < 146097) = true := dec_t hn2
  obtain ⟨W0, hW0⟩ : ∃ W0, w.alloc (.cells (spC s) 40) = W0 := ⟨_, rfl⟩
  rw [hW0] at HB0 HS0
  unfold spV at KO
  unfold spV spC
  unfold spC at hW0
  clear hn1 hn2 hO h1 h2 h3
  by_cases he : st = 1
  · have e1 : (st == 1) = true := by rw [beq_iff_eq]; exact he
    have HE := Lib.hid (show decide ((V - A) % st = 0) = true by rw [he, decide_eq_true_eq]; omega)
    generalize decide ((V - A) % st = 0) = bb at HE ⊢
    obtain rfl : bb = true := HE.out
    clear hst hA hV he HE KO
    go_enter Tryd.func75, Tryd.ntmps75
    go_wp2_with fail
    try rw [hW0]
    clear hW0
    refine wp_region_held_drew (S := fun X => Below W0.heap.size W0 X ∧ X.cell? ⟨gs, 0, none⟩ = some (.int .i64 st) ∧ X.cell? ⟨gu, 0, none⟩ = some (.int .i64 u) ∧ X.cell? ⟨ga, 0, none⟩ = some (.int .i64 A) ∧ X.cell? ⟨w.heap.size, 0, none⟩ = some (.int .i64 s.n) ∧ X.heap[w.heap.size]? = some (.cells (spC s) 40 (0, 0))) (by kernel_rfl) (HS0.out.to (Below.refl _ _).drew) (fun hHeld => ?_)
    refine heldVal (v := ?v1) 0 rfl rfl (by kernel_rfl) (by kernel_rfl) (by kernel_rfl) (fun _ _ _ h => h) (by rfl) (fun w hSw => ?hy1) (by assumption) ?_
    case hy1 => ((try dsimp only at hSw); go_simp; (try with_reducible rfl))
    try simp only [Act.put, List.setIfInBounds_toArray, List.set_cons_zero, List.set_cons_succ]
    refine heldVal (v := ?v2) 1 rfl rfl (by kernel_rfl) (by kernel_rfl) (by kernel_rfl) (fun _ _ _ h => h) (by rfl) (fun w hSw => ?hy2) (by assumption) ?_
    case hy2 => ((try dsimp only at hSw); go_simp; (try with_reducible rfl))
    try simp only [Act.put, List.setIfInBounds_toArray, List.set_cons_zero, List.set_cons_succ]
    refine heldVal (v := ?v3) 2 rfl rfl (by kernel_rfl) (by kernel_rfl) (by kernel_rfl) (fun _ _ _ h => h) (by rfl) (fun w hSw => ?hy3) (by assumption) ?_
    case hy3 => ((try dsimp only at hSw); go_simp; (try with_reducible rfl))
    try simp only [Act.put, List.setIfInBounds_toArray, List.set_cons_zero, List.set_cons_succ]
    refine heldVal (v := ?v4) 3 rfl rfl (by kernel_rfl) (by kernel_rfl) (by kernel_rfl) (fun _ _ _ h => h) (by rfl) (fun w hSw => ?hy4) (by assumption) ?_
    case hy4 => ((try dsimp only at hSw); go_simp; (try with_reducible rfl))
    try simp only [Act.put, List.setIfInBounds_toArray, List.set_cons_zero, List.set_cons_succ]
    refine heldVal (v := ?v5) 4 rfl rfl (by kernel_rfl) (by kernel_rfl) (by kernel_rfl) (fun _ _ _ h => h) (by rfl) (fun w hSw => ?hy5) (by assumption) ?_
    case hy5 => ((try dsimp only at hSw); go_simp; (try with_reducible rfl))
    try simp only [Act.put, List.setIfInBounds_toArray, List.set_cons_zero, List.set_cons_succ]
    refine heldVal (v := ?v6) 5 rfl rfl (by kernel_rfl) (by kernel_rfl) (by kernel_rfl) (fun _ _ _ h => h) (by rfl) (fun w hSw => ?hy6) (by assumption) ?_
    case hy6 => ((try dsimp only at hSw); go_simp; (try with_reducible rfl))
    try simp only [Act.put, List.setIfInBounds_toArray, List.set_cons_zero, List.set_cons_succ]
    refine heldVal (v := ?v7) 6 rfl rfl (by kernel_rfl) (by kernel_rfl) (by kernel_rfl) (fun _ _ _ h => h) (by rfl) (fun w hSw => ?hy7) (by assumption) ?_
    case hy7 => ((try dsimp only at hSw); go_simp; (try with_reducible rfl))
    try simp only [Act.put, List.setIfInBounds_toArray, List.set_cons_zero, List.set_cons_succ]
    refine heldVal (v := ?v8) 7 rfl rfl (by kernel_rfl) (by kernel_rfl) (by kernel_rfl) (fun _ _ _ h => h) (by rfl) (fun w hSw => ?hy8) (by assumption) ?_
    case hy8 => ((try dsimp only at hSw); go_simp; (try with_reducible rfl))
    try simp only [Act.put, List.setIfInBounds_toArray, List.set_cons_zero, List.set_cons_succ]
    refine heldVal (v := ?v9) 8 rfl rfl (by kernel_rfl) (by kernel_rfl) (by kernel_rfl) (fun _ _ _ h => h) (by rfl) (fun w hSw => ?hy9) (by assumption) ?_
    case hy9 => ((try dsimp only at hSw); go_simp; (try with_reducible rfl))
    try simp only [Act.put, List.setIfInBounds_toArray, List.set_cons_zero, List.set_cons_succ]
    refine heldVal (v := ?v10) 9 rfl rfl (by kernel_rfl) (by kernel_rfl) (by kernel_rfl) (fun _ _ _ h => h) (by rfl) (fun w hSw => ?hy10) (by assumption) ?_
    case hy10 => ((try dsimp only at hSw); go_simp; (try with_reducible rfl))
    try simp only [Act.put, List.setIfInBounds_toArray, List.set_cons_zero, List.set_cons_succ]
    refine heldVal (v := ?v11) 10 rfl rfl (by kernel_rfl) (by kernel_rfl) (by kernel_rfl) (fun _ _ _ h => h) (by rfl) (fun w hSw => ?hy11) (by assumption) ?_
    case hy11 => ((try dsimp only at hSw); go_simp; (try with_reducible rfl))
    try simp only [Act.put, List.setIfInBounds_toArray, List.set_cons_zero, List.set_cons_succ]
    refine heldVal (v := ?v12) 11 rfl rfl (by kernel_rfl) (by kernel_rfl) (by kernel_rfl) (fun _ _ _ h => h) (by rfl) (fun w hSw => ?hy12) (by assumption) ?_
    case hy12 => ((try dsimp only at hSw); go_simp; (try with_reducible rfl))
    try simp only [Act.put, List.setIfInBounds_toArray, List.set_cons_zero, List.set_cons_succ]
    refine heldSkip 12 rfl rfl (by kernel_rfl) (by kernel_rfl) (by kernel_rfl) (fun _ _ _ h => h) (by rfl) (by assumption) ?_
    try simp only [Act.put, List.setIfInBounds_toArray, List.set_cons_zero, List.set_cons_succ]
    refine heldSkip 13 rfl rfl (by kernel_rfl) (by kernel_rfl) (by kernel_rfl) (fun _ _ _ h => h) (by rfl) (by assumption) ?_
    try simp only [Act.put, List.setIfInBounds_toArray, List.set_cons_zero, List.set_cons_succ]
    refine heldSkip 14 rfl rfl (by kernel_rfl) (by kernel_rfl) (by kernel_rfl) (fun _ _ _ h => h) (by rfl) (by assumption) ?_
    try simp only [Act.put, List.setIfInBounds_toArray, List.set_cons_zero, List.set_cons_succ]
    refine heldSkip 15 rfl rfl (by kernel_rfl) (by kernel_rfl) (by kernel_rfl) (fun _ _ _ h => h) (by rfl) (by assumption) ?_
    try simp only [Act.put, List.setIfInBounds_toArray, List.set_cons_zero, List.set_cons_succ]
    refine heldSkip 16 rfl rfl (by kernel_rfl) (by kernel_rfl) (by kernel_rfl) (fun _ _ _ h => h) (by rfl) (by assumption) ?_
    try simp only [Act.put, List.setIfInBounds_toArray, List.set_cons_zero, List.set_cons_succ]
    refine heldSkip 17 rfl rfl (by kernel_rfl) (by kernel_rfl) (by kernel_rfl) (fun _ _ _ h => h) (by rfl) (by assumption) ?_
    try simp only [Act.put, List.setIfInBounds_toArray, List.set_cons_zero, List.set_cons_succ]
    refine heldSkip 18 rfl rfl (by kernel_rfl) (by kernel_rfl) (by kernel_rfl) (fun _ _ _ h => h) (by rfl) (by assumption) ?_
    try simp only [Act.put, List.setIfInBounds_toArray, List.set_cons_zero, List.set_cons_succ]
    refine heldSkip 19 rfl rfl (by kernel_rfl) (by kernel_rfl) (by kernel_rfl) (fun _ _ _ h => h) (by rfl) (by assumption) ?_
    try simp only [Act.put, List.setIfInBounds_toArray, List.set_cons_zero, List.set_cons_succ]
    refine heldVal (v := ?v13) 20 rfl rfl (by kernel_rfl) (by kernel_rfl) (by kernel_rfl) (fun _ _ _ h => h) (by rfl) (fun w hSw => ?hy13) (by assumption) ?_
    case hy13 => ((try dsimp only at hSw); go_simp; (try with_reducible rfl))
    try simp only [Act.put, List.setIfInBounds_toArray, List.set_cons_zero, List.set_cons_succ]
    refine heldVal (v := ?v14) 21 rfl rfl (by kernel_rfl) (by kernel_rfl) (by kernel_rfl) (fun _ _ _ h => h) (by rfl) (fun w hSw => ?hy14) (by assumption) ?_
    case hy14 => ((try dsimp only at hSw); go_simp; (try with_reducible rfl))
    try simp only [Act.put, List.setIfInBounds_toArray, List.set_cons_zero, List.set_cons_succ]
    refine heldVal (v := ?v15) 22 rfl rfl (by kernel_rfl) (by kernel_rfl) (by kernel_rfl) (fun _ _ _ h => h) (by rfl) (fun w hSw => ?hy15) (by assumption) ?_
    case hy15 => ((try dsimp only at hSw); go_simp; (try with_reducible rfl))
    try simp only [Act.put, List.setIfInBounds_toArray, List.set_cons_zero, List.set_cons_succ]
    refine wpAnyH_done (by kernel_rfl) ?_ _
    have HB4 := Lib.hid HB0.out.drew
    go_wp2
    go_ret
    exact ⟨rfl, HB4.out⟩
  · have e1 : (st == 1) = false := by rw [beq_eq_false_iff_ne]; exact he
    have wr : IntKind.i64.wrap (V - A) = V - A := IntWalk.i64_in _ ⟨by omega, by omega⟩
    obtain ⟨t1, t2⟩ := tmod_bd (V - A) st hst (by omega) (by omega)
    have wt : IntKind.i64.wrap (Int.tmod (V - A) st) = Int.tmod (V - A) st := IntWalk.i64_in _ ⟨by omega, by omega⟩
    have htm := tmodD (V - A) st
    have hz : (st == 0) = false := by rw [beq_eq_false_iff_ne]; omega
    have hz2 : ¬ st = 0 := by omega
    generalize decide ((V - A) % st = 0) = bb at *
    clear hst hA hV he t1 t2
    go_enter Tryd.func75, Tryd.ntmps75
    go_wp2_with fail
    try rw [hW0]
    clear hW0
    refine wp_region_held_drew (S := fun X => Below W0.heap.size W0 X ∧ X.cell? ⟨gs, 0, none⟩ = some (.int .i64 st) ∧ X.cell? ⟨gu, 0, none⟩ = some (.int .i64 u) ∧ X.cell? ⟨ga, 0, none⟩ = some (.int .i64 A) ∧ X.cell? ⟨w.heap.size, 0, none⟩ = some (.int .i64 s.n) ∧ X.heap[w.heap.size]? = some (.cells (spC s) 40 (0, 0))) (by kernel_rfl) (HS0.out.to (Below.refl _ _).drew) (fun hHeld => ?_)
    refine heldVal (v := ?v16) 0 rfl rfl (by kernel_rfl) (by kernel_rfl) (by kernel_rfl) (fun _ _ _ h => h) (by rfl) (fun w hSw => ?hy16) (by assumption) ?_
    case hy16 => ((try dsimp only at hSw); go_simp; (try with_reducible rfl))
    try simp only [Act.put, List.setIfInBounds_toArray, List.set_cons_zero, List.set_cons_succ]
    refine heldVal (v := ?v17) 1 rfl rfl (by kernel_rfl) (by kernel_rfl) (by kernel_rfl) (fun _ _ _ h => h) (by rfl) (fun w hSw => ?hy17) (by assumption) ?_
    case hy17 => ((try dsimp only at hSw); go_simp; (try with_reducible rfl))
    try simp only [Act.put, List.setIfInBounds_toArray, List.set_cons_zero, List.set_cons_succ]
    refine heldVal (v := ?v18) 2 rfl rfl (by kernel_rfl) (by kernel_rfl) (by kernel_rfl) (fun _ _ _ h => h) (by rfl) (fun w hSw => ?hy18) (by assumption) ?_
    case hy18 => ((try dsimp only at hSw); go_simp; (try with_reducible rfl))
    try simp only [Act.put, List.setIfInBounds_toArray, List.set_cons_zero, List.set_cons_succ]
    refine heldVal (v := ?v19) 3 rfl rfl (by kernel_rfl) (by kernel_rfl) (by kernel_rfl) (fun _ _ _ h => h) (by rfl) (fun w hSw => ?hy19) (by assumption) ?_
    case hy19 => ((try dsimp only at hSw); go_simp; (try with_reducible rfl))
    try simp only [Act.put, List.setIfInBounds_toArray, List.set_cons_zero, List.set_cons_succ]
    refine heldVal (v := ?v20) 4 rfl rfl (by kernel_rfl) (by kernel_rfl) (by kernel_rfl) (fun _ _ _ h => h) (by rfl) (fun w hSw => ?hy20) (by assumption) ?_
    case hy20 => ((try dsimp only at hSw); go_simp; (try with_reducible rfl))
    try simp only [Act.put, List.setIfInBounds_toArray, List.set_cons_zero, List.set_cons_succ]
    refine heldVal (v := ?v21) 5 rfl rfl (by kernel_rfl) (by kernel_rfl) (by kernel_rfl) (fun _ _ _ h => h) (by rfl) (fun w hSw => ?hy21) (by assumption) ?_
    case hy21 => ((try dsimp only at hSw); go_simp; (try with_reducible rfl))
    try simp only [Act.put, List.setIfInBounds_toArray, List.set_cons_zero, List.set_cons_succ]
    refine heldVal (v := ?v22) 6 rfl rfl (by kernel_rfl) (by kernel_rfl) (by kernel_rfl) (fun _ _ _ h => h) (by rfl) (fun w hSw => ?hy22) (by assumption) ?_
    case hy22 => ((try dsimp only at hSw); go_simp; (try with_reducible rfl))
    try simp only [Act.put, List.setIfInBounds_toArray, List.set_cons_zero, List.set_cons_succ]
    refine heldVal (v := ?v23) 7 rfl rfl (by kernel_rfl) (by kernel_rfl) (by kernel_rfl) (fun _ _ _ h => h) (by rfl) (fun w hSw => ?hy23) (by assumption) ?_
    case hy23 => ((try dsimp only at hSw); go_simp; (try with_reducible rfl))
    try simp only [Act.put, List.setIfInBounds_toArray, List.set_cons_zero, List.set_cons_succ]
    refine heldVal (v := ?v24) 8 rfl rfl (by kernel_rfl) (by kernel_rfl) (by kernel_rfl) (fun _ _ _ h => h) (by rfl) (fun w hSw => ?hy24) (by assumption) ?_
    case hy24 => ((try dsimp only at hSw); go_simp; (try with_reducible rfl))
    try simp only [Act.put, List.setIfInBounds_toArray, List.set_cons_zero, List.set_cons_succ]
    refine heldVal (v := ?v25) 9 rfl rfl (by kernel_rfl) (by kernel_rfl) (by kernel_rfl) (fun _ _ _ h => h) (by rfl) (fun w hSw => ?hy25) (by assumption) ?_
    case hy25 => ((try dsimp only at hSw); go_simp; (try with_reducible rfl))
    try simp only [Act.put, List.setIfInBounds_toArray, List.set_cons_zero, List.set_cons_succ]
    refine heldVal (v := ?v26) 10 rfl rfl (by kernel_rfl) (by kernel_rfl) (by kernel_rfl) (fun _ _ _ h => h) (by rfl) (fun w hSw => ?hy26) (by assumption) ?_
    case hy26 => ((try dsimp only at hSw); go_simp; (try with_reducible rfl))
    try simp only [Act.put, List.setIfInBounds_toArray, List.set_cons_zero, List.set_cons_succ]
    refine heldVal (v := ?v27) 11 rfl rfl (by kernel_rfl) (by kernel_rfl) (by kernel_rfl) (fun _ _ _ h => h) (by rfl) (fun w hSw => ?hy27) (by assumption) ?_
    case hy27 => ((try dsimp only at hSw); go_simp; (try with_reducible rfl))
    try simp only [Act.put, List.setIfInBounds_toArray, List.set_cons_zero, List.set_cons_succ]
    refine heldVal (v := ?v28) 12 rfl rfl (by kernel_rfl) (by kernel_rfl) (by kernel_rfl) (fun _ _ _ h => h) (by rfl) (fun w hSw => ?hy28) (by assumption) ?_
    case hy28 => ((try dsimp only at hSw); go_simp; (try with_reducible rfl))
    try simp only [Act.put, List.setIfInBounds_toArray, List.set_cons_zero, List.set_cons_succ]
    refine heldVal 13 rfl rfl (by kernel_rfl) (by kernel_rfl) (by kernel_rfl) (fun _ _ _ h => h) (by rfl) (fun w hSw => exec_loadRow hSw.2.2.2.2.2 rfl rfl Tryd.underlying40 rfl (by unfold spC; kernel_rfl)) (by assumption) ?_
    try simp only [Act.put, List.setIfInBounds_toArray, List.set_cons_zero, List.set_cons_succ]
    refine heldVal (v := ?v29) 15 rfl rfl (by kernel_rfl) (by kernel_rfl) (by kernel_rfl) (fun _ _ _ h => h) (by rfl) (fun w hSw => ?hy29) (by assumption) ?_
    case hy29 => ((try dsimp only at hSw); go_simp; (try with_reducible rfl))
    try simp only [Act.put, List.setIfInBounds_toArray, List.set_cons_zero, List.set_cons_succ]
    refine heldVal (v := ?v30) 17 rfl rfl (by kernel_rfl) (by kernel_rfl) (by kernel_rfl) (fun _ _ _ h => h) (by rfl) (fun w hSw => ?hy30) (by assumption) ?_
    case hy30 => ((try dsimp only at hSw); go_simp; (try with_reducible rfl))
    try simp only [Act.put, List.setIfInBounds_toArray, List.set_cons_zero, List.set_cons_succ]
    refine heldCall 14 rfl rfl (by kernel_rfl) (by rfl) (fun K hK => ?_)
    go_simp
    refine (KO.out _).mono ?_
    rintro e wa ⟨rfl, hb⟩
    have hSa := St3.to hHeld hb
    clear hb
    go_wp2_with fail
    refine hK.out _ _ ?hS (fun hHeld => ?_)
    case hS => (exact hSa)
    clear hK K
    try simp only [Act.put, List.setIfInBounds_toArray, List.set_cons_zero, List.set_cons_succ]
    refine heldVal (v := ?v31) 16 rfl rfl (by kernel_rfl) (by kernel_rfl) (by kernel_rfl) (fun _ _ _ h => h) (by rfl) (fun w hSw => ?hy31) (by assumption) ?_
    case hy31 => ((try dsimp only at hSw); go_simp; (try with_reducible rfl))
    try simp only [Act.put, List.setIfInBounds_toArray, List.set_cons_zero, List.set_cons_succ]
    refine heldVal (v := ?v32) 18 rfl rfl (by kernel_rfl) (by kernel_rfl) (by kernel_rfl) (fun _ _ _ h => h) (by rfl) (fun w hSw => ?hy32) (by assumption) ?_
    case hy32 => ((try dsimp only at hSw); go_simp; (try with_reducible rfl))
    try simp only [Act.put, List.setIfInBounds_toArray, List.set_cons_zero, List.set_cons_succ]
    refine heldVal (v := ?v33) 19 rfl rfl (by kernel_rfl) (by kernel_rfl) (by kernel_rfl) (fun _ _ _ h => h) (by rfl) (fun w hSw => ?hy33) (by assumption) ?_
    case hy33 => ((try dsimp only at hSw); go_simp; (try with_reducible rfl))
    try simp only [Act.put, List.setIfInBounds_toArray, List.set_cons_zero, List.set_cons_succ]
    refine heldVal (v := ?v34) 20 rfl rfl (by kernel_rfl) (by kernel_rfl) (by kernel_rfl) (fun _ _ _ h => h) (by rfl) (fun w hSw => ?hy34) (by assumption) ?_
    case hy34 => ((try dsimp only at hSw); go_simp; (try with_reducible rfl))
    try simp only [Act.put, List.setIfInBounds_toArray, List.set_cons_zero, List.set_cons_succ]
    refine heldVal (v := ?v35) 21 rfl rfl (by kernel_rfl) (by kernel_rfl) (by kernel_rfl) (fun _ _ _ h => h) (by rfl) (fun w hSw => ?hy35) (by assumption) ?_
    case hy35 => ((try dsimp only at hSw); go_simp; (try with_reducible rfl))
    try simp only [Act.put, List.setIfInBounds_toArray, List.set_cons_zero, List.set_cons_succ]
    refine heldVal (v := ?v36) 22 rfl rfl (by kernel_rfl) (by kernel_rfl) (by kernel_rfl) (fun _ _ _ h => h) (by rfl) (fun w hSw => ?hy36) (by assumption) ?_
    case hy36 => ((try dsimp only at hSw); go_simp; (try with_reducible rfl))
    try simp only [Act.put, List.setIfInBounds_toArray, List.set_cons_zero, List.set_cons_succ]
    refine wpAnyH_done (by kernel_rfl) ?_ _
    have HB4 := Lib.hid (HB0.out.trans (hSa.1.mono HB0.out.size))
    go_wp2
    go_ret
    exact ⟨rfl, HB4.out⟩
/-- may a day have instants on a clause's step? -/
noncomputable def stepB (c : Cl) (n : Int) : Bool := decide (c.u < 3) || decide ((whV c.u (86400 * n) - whV c.u c.an) % c.st = 0)
theorem makes_any (c : Cl) (n : Int) (h1 : 0 ≤ n) (h2 : n < 146097) (hk : okU c.u c.st c.an = true) : MakesStep c (shD n) (stepB c n) := fun W => by
  unfold okU at hk
  rw [Bool.and_eq_true, Bool.and_eq_true, decide_eq_true_eq, decide_eq_true_eq, decide_eq_true_eq] at hk
  obtain ⟨⟨u1, u2⟩, ⟨a1, a2⟩, hst⟩ := hk
  have hW := both_wh c.u c.an u1 u2 a1 a2
  unfold stepB
  by_cases hu : c.u < 3
  · rw [dec_t hu]
    refine (udays_lo c.u c.st c.an _ u1 hu hst hW W).mono ?_
    rintro e W' ⟨g, rfl, hg, _, hb⟩
    refine ⟨74, #[.pointer (some ⟨g, 0, none⟩)], rfl, entersD Tryd.func74 (by kernel_rfl) rfl, fun Z hZ => ?_, hb⟩
    exact udays1_any (shD n) g true Z ((hZ.block _ (lt_of_block hg)).trans hg)
  · rw [dec_n hu, Bool.false_or]
    have hw : whV c.u (86400 * n) = dayU c.u n := by
      unfold whV
      rw [if_neg hu, show 86400 * n / 86400 = n by omega]
    rw [hw]
    refine (udays_hi c.u c.st c.an _ (by omega) u2 hst hW W).mono ?_
    rintro e W' ⟨gs, gu, ga, rfl, x1, x2, x3, hb⟩
    refine ⟨75, #[.pointer (some ⟨gs, 0, none⟩), .pointer (some ⟨gu, 0, none⟩), .pointer (some ⟨ga, 0, none⟩)], rfl, entersD Tryd.func75 (by kernel_rfl) rfl, fun Z hZ => ?_, hb⟩
    exact udays2_any c.u c.st (whV c.u c.an) (dayU c.u n) (shD n) h1 h2 hst (whV_bd _ _ u1 u2 a1 a2) (dayU_bd _ _ (by omega) u2 h1 h2) (fun Y => uofday_any c.u n (by omega) u2 h1 h2 Y) gs gu ga Z ((hZ.cell (p := ⟨gs, 0, none⟩) (ucell_lt x1)).trans x1) ((hZ.cell (p := ⟨gu, 0, none⟩) (ucell_lt x2)).trans x2) ((hZ.cell (p := ⟨ga, 0, none⟩) (ucell_lt x3)).trans x3)
end Go.Proofs.YtbfndcogieiejaaDoor
