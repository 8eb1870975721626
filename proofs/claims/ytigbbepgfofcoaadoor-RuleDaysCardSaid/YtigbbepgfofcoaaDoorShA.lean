/- The contract of the function that week.follow makes (layer 6). The next day's shape out of a day's (layer 6). Contracts of the document's Shape, of week.follow, and of the law's own function (layer 6). -/
import Derived.Test.YtigbbepgfofcoaaDoorWeek
import Derived.Test.YtigbbepgfofcoaaDoorBut
import Derived.Test.YtigbbepgfofcoaaDoorRefCivil
import Derived.Deep.RegionLaw
import Derived.BigRegion
namespace Go.Proofs.YtigbbepgfofcoaaDoor
open Go.RowKit Civ
set_option linter.unusedVariables false

end Go.Proofs.YtigbbepgfofcoaaDoor
namespace Go.Proofs.YtigbbepgfofcoaaDoor
open Go.RowKit Civ
set_option linter.unusedVariables false

/-- what the function that follow makes knows: the place in the year, and the year's days -/
def Knows (gA gL : Nat) (y m d : Int) (w : World) : Prop := gA ≠ gL ∧ w.heap[gA]? = some (.cells #[.int .i64 (cum y m + d)] 3 (0, 0)) ∧ w.heap[gL]? = some (.cells #[.int .i64 (365 + lp y)] 3 (0, 0))
theorem wd_next (n : Int) : wd n % 7 + 1 = wd (n + 1) := by unfold wd; omega
theorem wd_bd (n : Int) : 1 ≤ wd n ∧ wd n ≤ 7 := by unfold wd; omega
theorem year_bd {n y m d : Int} (h : IsDate n y m d) (hn1 : 0 ≤ n) (hn2 : n < 146097) : 1970 ≤ y ∧ y ≤ 2370 := by
  obtain ⟨a, b⟩ := h.year
  have c := startI_mono (y + 1) 1970
  have e := startI_mono 2371 y
  have f : startI 1970 = 0 := by decide
  have g : startI 2371 = 146462 := by decide
  omega
end Go.Proofs.YtigbbepgfofcoaaDoor
namespace Go.Proofs.YtigbbepgfofcoaaDoor
open Go.RowKit Civ
set_option linter.unusedVariables false

set_option maxHeartbeats 1600000 in
set_option maxRecDepth 20000 in
theorem rshape_ok (n y m d : Int) (w : World) (h : IsDate n y m d) (hn1 : 0 ≤ n) (hn2 : n < 146097) :
    Calls Tryd.prog 16 #[.int .i64 n] w fun e w' => e = .returned (shapeV n y m d) ∧ Below w.heap.size w w' := by
  obtain ⟨hy1, hy2⟩ := year_bd h hn1 hn2
  have KD := fun w => rdate_v n y m d w h (i64_of _ (by omega) (by omega))
  rw [dateV_yes (show -1000000000 ≤ y by omega) (by omega)] at KD
  obtain ⟨h1, h2, h3, h4, h5⟩ := h
  obtain ⟨c1, c2⟩ := len_bd y m h1 h2
  obtain ⟨c3, c4⟩ := cum_bd y m h1 h2
  obtain ⟨c5, c6⟩ := lp_01 y
  have KL := fun w => rlength_any y m w
  have KW1 := fun w => rwhich_ok d (len y m) w h3 h4 (by omega)
  have KO := fun w => rordinal_any y m d w h1 h2 h3 (by omega)
  have KY := fun w => ryear_any y w
  have KW2 := fun w => rwhich_ok (cum y m + d) (365 + lp y) w (by omega) (by omega) (by omega)
  have KE := fun w => rwday_any n w (i64_of _ (by omega) (by omega))
  have HE := Lib.hid (show len y m + 1 - d = len y m - d + 1 by omega)
  clear h5
  go_enter Tryd.func16, Tryd.ntmps16
  go_wp2_with fail
  refine (KD _).mono ?_
  rintro e w' ⟨rfl, rfl⟩
  go_wp2_with fail
  refine (KL _).mono ?_
  rintro e w' ⟨rfl, rfl⟩
  go_wp2_with fail
  refine (KW1 _).mono ?_
  rintro e w' ⟨rfl, rfl⟩
  go_wp2_with fail
  refine (KO _).mono ?_
  rintro e w' ⟨rfl, rfl⟩
  go_wp2_with fail
  refine (KY _).mono ?_
  rintro e w' ⟨rfl, rfl⟩
  go_wp2_with fail
  refine (KW2 _).mono ?_
  rintro e w' ⟨rfl, rfl⟩
  go_wp2_with fail
  refine (KE _).mono ?_
  rintro e w' ⟨rfl, rfl⟩
  go_wp2
  refine bodyPost_ret (v := shapeV n y m d) (by simp [results, Tryd.results16, go_sem, shapeV, HE.out]) rfl ⟨rfl, ?_⟩
  exact (Below.refl _ _).alloc (Nat.le_refl _) _
theorem size_alloc' (w : World) (o : Obj) : (w.alloc o).heap.size = w.heap.size + 1 := by simp
end Go.Proofs.YtigbbepgfofcoaaDoor
