/- item.Mask and the document's Right (layer 12), without item.Of. -/
import Derived.Test.YtjdoknbmnokkdaaDoorVaC
import Derived.Test.YtjdoknbmnokkdaaDoorMaskA
import Derived.Test.YtjdoknbmnokkdaaDoorItmD
namespace Go.Proofs.YtjdoknbmnokkdaaDoor
open Go.RowKit
set_option linter.unusedVariables false

set_option maxHeartbeats 800000 in
theorem imask_any (lo hi : Int) (A : Option Addr) (c : Nat) (qs : List Q4) (w : World) (hl : qs.length ≤ 1000000) (hq : ItemsAt w A qs) (hz : (valsL lo hi qs).length ≤ 1000000) :
    Calls Tryd.prog 42 #[.int .i64 lo, .int .i64 hi, .slice A qs.length c] w fun e w' => e = .returned (.int .u64 (mk (inL (valsL lo hi qs)) : Nat)) ∧ Below w.heap.size w w' := by
  have K := values_any lo hi A c qs w hl hq
  have KO := Lib.hid (fun B d W h => of_any B d (valsL lo hi qs) W hz h)
  generalize mk (inL (valsL lo hi qs)) = m at KO ⊢
  generalize valsL lo hi qs = zs at K KO
  clear hz hq hl
  go_enter Tryd.func42, Tryd.ntmps42
  go_wp2_with fail
  refine K.mono ?_
  rintro e w1 ⟨B, d, rfl, hi1, hb, hc⟩
  have HB := Lib.hid hb
  have K2 := KO.out B d w1 hi1
  clear K hb hi1 hc
  go_wp2_with fail
  refine K2.mono ?_
  rintro e w2 ⟨rfl, rfl⟩
  go_wp2
  go_ret
  exact ⟨rfl, HB.out⟩
set_option maxHeartbeats 1600000 in
set_option maxRecDepth 20000 in
theorem rright_any (lo hi most : Int) (A : Option Addr) (c : Nat) (qs : List Q4) (w : World) (hl : qs.length ≤ 1000000) (hq : ItemsAt w A qs) :
    Calls Tryd.prog 13 #[.slice A qs.length c, .int .i64 lo, .int .i64 hi, .int .i64 most] w fun e w' => e = .returned (.bool (rightB lo hi most qs)) ∧ Below w.heap.size w w' := by
  have HQ := Lib.hid hq
  have KM := Lib.hid (fun q W => rimay_any q lo hi W)
  have HE := Lib.hid (show rightB lo hi most qs = (decide (1 ≤ qs.length) && (decide ((qs.length : Int) ≤ most) && qs.all (mayB lo hi))) from rfl)
  generalize rightB lo hi most qs = bb at HE ⊢
  clear hq
  by_cases h0 : qs.length = 0
  · obtain rfl : bb = false := by rw [HE.out, dec_n (show ¬ 1 ≤ qs.length by omega)]; rfl
    have b0 : ((qs.length : Int) == 0) = true := by rw [beq_iff_eq]; omega
    have b1 : (qs.length == 0) = true := by rw [beq_iff_eq]; exact h0
    clear HE
    go_enter Tryd.func13, Tryd.ntmps13
    go_wp2
    go_ret
    exact ⟨rfl, Below.refl _ _⟩
  · have b0 : ((qs.length : Int) == 0) = false := by rw [beq_eq_false_iff_ne]; omega
    have b1 : (qs.length == 0) = false := by rw [beq_eq_false_iff_ne]; exact h0
    by_cases h1 : (qs.length : Int) ≤ most
    · have d1 : decide (most < (qs.length : Int)) = false := dec_n (by omega)
      have HE1 := Lib.hid (show bb = qs.all (mayB lo hi) by rw [HE.out, dec_t (show 1 ≤ qs.length by omega), dec_t h1]; rfl)
      clear HE h0 h1
      go_enter Tryd.func13, Tryd.ntmps13
      go_wp2
      go_loopw [9] (fun i wr => ∃ k : Nat, k ≤ qs.length ∧ i = .int .i64 k ∧ Below w.heap.size w wr ∧ Hid (∀ j, j < k → mayB lo hi (nthQ qs j) = true)) (fun i _ => qs.length - (intOf i).toNat)
      case atStart => exact ⟨0, by omega, rfl, Below.refl _ _, Lib.hid fun j hj => absurd hj (Nat.not_lt_zero j)⟩
      case round =>
        obtain ⟨k, hk, rfl, hb, HA⟩ := hrel
        have HB := Lib.hid hb
        by_cases hlt : k < qs.length
        · have d0 : decide (k < qs.length) = true := dec_t hlt
          obtain ⟨b, off, rfl, hbl, x0, x1, x2, x3⟩ := (HQ.out.below hb) k hlt
          have K := KM.out (nthQ qs k)
          unfold qv at K
          have HNO := Lib.hid (fun h => all_no (mayB lo hi) qs k hlt h)
          have ik0 : (0 : Int) ≤ (k : Int) := by omega
          have ik1 : (k : Int) < (qs.length : Int) := by omega
          have hw1 : IntKind.i64.wrap ((k : Int) + 1) = (k : Int) + 1 := IntWalk.i64_in _ ⟨by omega, by omega⟩
          clear hb
          cases hm : mayB lo hi (nthQ qs k)
          · rw [hm] at K
            obtain rfl : bb = false := HE1.out.trans (HNO.out hm)
            clear hm HNO HE1
            generalize nthQ qs k = q at *
            go_wp2_with fail
            refine (K _).mono ?_
            rintro e w1 ⟨rfl, hb1⟩
            have HB1 := Lib.hid (HB.out.trans (hb1.mono HB.out.size))
            clear hb1
            go_wp2
            go_ret
            exact ⟨rfl, HB1.out⟩
          · rw [hm] at K
            have HA1 := Lib.hid (show ∀ j, j < k + 1 → mayB lo hi (nthQ qs j) = true from fun j hj => by
              rcases Nat.lt_or_ge j k with g | g
              · exact HA.out j g
              · obtain rfl : j = k := by omega
                exact hm)
            clear hm HNO
            generalize nthQ qs k = q at x0 x1 x2 x3 K
            go_wp2_with fail
            refine (K _).mono ?_
            rintro e w1 ⟨rfl, hb1⟩
            have HB1 := Lib.hid (HB.out.trans (hb1.mono HB.out.size))
            clear hb1
            go_wp2
            go_roundw
            case rel => exact ⟨k + 1, by omega, by go_num, HB1.out, HA1⟩
            case measure => simp [intOf]; omega
        · obtain rfl : k = qs.length := by omega
          obtain rfl : bb = true := HE1.out.trans ((all_iff _ _).2 HA.out)
          clear hb HE1 hlt
          go_wp2
          go_ret
          exact ⟨rfl, HB.out⟩
    · have d1 : decide (most < (qs.length : Int)) = true := dec_t (by omega)
      obtain rfl : bb = false := by rw [HE.out, dec_n h1]; simp
      clear HE h0 h1
      go_enter Tryd.func13, Tryd.ntmps13
      go_wp2
      go_ret
      exact ⟨rfl, Below.refl _ _⟩
end Go.Proofs.YtjdoknbmnokkdaaDoor
