/- The walk of the statement NumDivides of layer 1. -/
import Derived.Test.YtpeoefncpjklbaaWalk01B
namespace Go.Proofs.Ytpeoefncpjklbaa
open Go.RowKit

theorem ints_new_at (k : IntKind) (w : World) (g : Nat) (zs : List Int) (cs : Array Value) (t : TypeId) (hg : g = w.heap.size) (h : cs = (zs.map (Value.int k)).toArray) : Ints k (w.alloc (.cells cs t)) (some ⟨g, 0, none⟩) zs := by
  subst hg; exact ints_new k w zs cs t h
theorem ints_nil (k : IntKind) (w : World) (A : Option Addr) : Ints k w A [] := fun j hj => by simp at hj
theorem two_i64 {a b : Int} (ha : I64 a) (hb : I64 b) : ∀ z ∈ [a, b], I64 z := by intro z hz; simp at hz; rcases hz with rfl | rfl <;> assumption
theorem below_alloc1 (w : World) (o1 : Obj) : Below w.heap.size w (w.alloc o1) := (Below.refl _ _).alloc (Nat.le_refl _) o1
theorem below2 (w : World) (o1 o2 : Obj) (k1 k2 : Nat) : Below w.heap.size w ((((w.alloc o1).drewN k1).alloc o2).drewN k2) :=
  (((below_alloc1 w o1).trans (below_draws _ _ k1)).alloc (by simp) o2).trans (below_draws _ _ k2)
theorem numDivides_walk (a b d0 : Int) (w : World) (wa : (Lit.int .i64 a).wf = true) (wb : (Lit.int .i64 b).wf = true) (wd : (Lit.int .u16 d0).wf = true) :
    Calls Try.prog 7 #[.int .i64 a, .int .i64 b, .int .u16 d0] w fun e w' => e = .returned (.bool true) ∧ Below w.heap.size w w' := by
  have ha := wf_i64 wa
  have hb := wf_i64 wb
  obtain ⟨d, rfl, hd⟩ := wf_u16 wd
  clear wa wb wd
  obtain ⟨G, hG⟩ : ∃ G, G = Nat.gcd a.natAbs b.natAbs := ⟨_, rfl⟩
  have g1 : gcdL [a, b] = G := by rw [hG]; simp [gcdL]
  have g2 : gcdL [b, a] = G := by rw [hG, Nat.gcd_comm]; simp [gcdL]
  have g3 : gcdL [] = 0 := rfl
  have hz1 := two_i64 ha hb
  have hz2 := two_i64 hb ha
  by_cases h0 : G = 0
  · subst h0
    have hab := Nat.gcd_eq_zero_iff.1 hG.symm
    have ha0 : a = 0 := by omega
    have hb0 : b = 0 := by omega
    subst ha0; subst hb0
    clear hG hab
    go_enter Try.func7, Try.ntmps7
    go_wp2_with (first | (go_at_call 18; refine (gcd_any _ _ [0, 0] _ _ rfl (by decide) hz1 (ints_new_at _ _ _ _ _ _ (by simp) rfl)).mono ?_; rintro e w' ⟨rfl, k1, rfl⟩) | (go_at_call 15; refine (lives01_any _).mono ?_; rintro e w' ⟨rfl, hbel⟩))
    go_ret
    exact ⟨rfl, (((Below.refl _ _).alloc (Nat.le_refl _) _).trans (below_draws _ _ _)).trans (hbel.mono (by simp))⟩
  · have hGn : ¬ (G : Int) = 0 := by omega
    have hGb : ((G : Int) == 0) = false := by simpa using h0
    have hx0 : (a.natAbs : Int) % (G : Int) = 0 := by rw [hG]; exact_mod_cast Nat.mod_eq_zero_of_dvd (Nat.gcd_dvd_left _ _)
    have hy0 : (b.natAbs : Int) % (G : Int) = 0 := by rw [hG]; exact_mod_cast Nat.mod_eq_zero_of_dvd (Nat.gcd_dvd_right _ _)
    have hxl : a.natAbs ≤ 9223372036854775808 := by unfold I64 at ha; omega
    have hyl : b.natAbs ≤ 9223372036854775808 := by unfold I64 at hb; omega
    have hGl : G ≤ 18446744073709551615 := by rw [hG]; exact gcd_le _ _ (by omega) (by omega)
    have hN : ¬ ((d : Int) + 1) = 0 := by omega
    by_cases hx : a.natAbs % (d + 1) = 0
    · have hx1 : (a.natAbs : Int) % ((d : Int) + 1) = 0 := by exact_mod_cast hx
      by_cases hy : b.natAbs % (d + 1) = 0
      · have hy1 : (b.natAbs : Int) % ((d : Int) + 1) = 0 := by exact_mod_cast hy
        have hg1 : (G : Int) % ((d : Int) + 1) = 0 := by rw [hG]; exact_mod_cast Nat.mod_eq_zero_of_dvd (Nat.dvd_gcd (Nat.dvd_of_mod_eq_zero hx) (Nat.dvd_of_mod_eq_zero hy))
        clear hG h0 hx hy
        go_enter Try.func7, Try.ntmps7
        go_wp2_with fail
        refine (gcd_any _ _ [a, b] _ _ rfl (by simp) hz1 (ints_new_at _ _ _ _ _ _ (by simp) rfl)).mono ?_
        rintro e w' ⟨rfl, k1, rfl⟩
        go_wp2_with (go_at_call 21; refine (rsize_any _ _ (by assumption)).mono ?_; rintro e w' ⟨rfl, rfl⟩)
        refine (gcd_any _ _ [b, a] _ _ rfl (by simp) hz2 (ints_new_at _ _ _ _ _ _ (by simp) rfl)).mono ?_
        rintro e w' ⟨rfl, k2, rfl⟩
        go_wp2_with fail
        refine (gcd_any _ _ [] _ _ rfl (by decide) (by simp) (ints_nil _ _ _)).mono ?_
        rintro e w' ⟨rfl, k3, rfl⟩
        go_wp2_with (go_at_call 15; refine (lives01_any _).mono ?_; rintro e w' ⟨rfl, hbel⟩)
        go_ret
        exact ⟨rfl, (below2 _ _ _ _ _).trans (hbel.mono (by simp; omega))⟩
      · have hy1 : ((b.natAbs : Int) % ((d : Int) + 1) != 0) = true := by rw [bne_iff_ne]; exact_mod_cast hy
        clear hG h0 hx hy
        go_enter Try.func7, Try.ntmps7
        go_wp2_with fail
        refine (gcd_any _ _ [a, b] _ _ rfl (by simp) hz1 (ints_new_at _ _ _ _ _ _ (by simp) rfl)).mono ?_
        rintro e w' ⟨rfl, k1, rfl⟩
        go_wp2_with (go_at_call 21; refine (rsize_any _ _ (by assumption)).mono ?_; rintro e w' ⟨rfl, rfl⟩)
        refine (gcd_any _ _ [b, a] _ _ rfl (by simp) hz2 (ints_new_at _ _ _ _ _ _ (by simp) rfl)).mono ?_
        rintro e w' ⟨rfl, k2, rfl⟩
        go_wp2_with fail
        refine (gcd_any _ _ [] _ _ rfl (by decide) (by simp) (ints_nil _ _ _)).mono ?_
        rintro e w' ⟨rfl, k3, rfl⟩
        go_wp2_with (go_at_call 15; refine (lives01_any _).mono ?_; rintro e w' ⟨rfl, hbel⟩)
        go_ret
        exact ⟨rfl, (below2 _ _ _ _ _).trans (hbel.mono (by simp; omega))⟩
    · have hx1 : ((a.natAbs : Int) % ((d : Int) + 1) != 0) = true := by rw [bne_iff_ne]; exact_mod_cast hx
      clear hG h0 hx
      go_enter Try.func7, Try.ntmps7
      go_wp2_with fail
      refine (gcd_any _ _ [a, b] _ _ rfl (by simp) hz1 (ints_new_at _ _ _ _ _ _ (by simp) rfl)).mono ?_
      rintro e w' ⟨rfl, k1, rfl⟩
      go_wp2_with (go_at_call 21; refine (rsize_any _ _ (by assumption)).mono ?_; rintro e w' ⟨rfl, rfl⟩)
      refine (gcd_any _ _ [b, a] _ _ rfl (by simp) hz2 (ints_new_at _ _ _ _ _ _ (by simp) rfl)).mono ?_
      rintro e w' ⟨rfl, k2, rfl⟩
      go_wp2_with fail
      refine (gcd_any _ _ [] _ _ rfl (by decide) (by simp) (ints_nil _ _ _)).mono ?_
      rintro e w' ⟨rfl, k3, rfl⟩
      go_wp2_with (go_at_call 15; refine (lives01_any _).mono ?_; rintro e w' ⟨rfl, hbel⟩)
      go_ret
      exact ⟨rfl, (below2 _ _ _ _ _).trans (hbel.mono (by simp; omega))⟩
end Go.Proofs.Ytpeoefncpjklbaa
