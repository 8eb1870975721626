/- The walk of CronWeeks (layer 24). -/
import Derived.Test.YtjdoknbmnokkdaaDoorCwB
import Derived.Test.YtjdoknbmnokkdaaDoorWalk24
import Derived.Test.YtjdoknbmnokkdaaDoorCwQ
namespace Go.Proofs.YtjdoknbmnokkdaaDoor
open Go.RowKit
set_option linter.unusedVariables false

set_option maxHeartbeats 1600000 in
set_option maxRecDepth 20000 in
theorem cronWeeks_any (A : Option Addr) (c : Nat) (qs : List Q4) (w : World) (hq : ItemsAt w A qs) (hT : TabCr w) : Calls Tryd.prog 3 #[.slice A qs.length c] w fun e w' => e = .returned (.bool true) ∧ Below w.heap.size w w' := by
  have HT := Lib.hid hT
  have HQ := Lib.hid hq
  have KL := Lib.hid (fun W h => lives24_any W h)
  by_cases hn : 200 < qs.length
  · have d0 : decide (200 < qs.length) = true := dec_t hn
    have d1 : decide ((200 : Int) < (qs.length : Int)) = true := dec_t (by omega)
    have KL0 := KL.out w hT
    clear hq hT hn
    go_enter Tryd.func3, Tryd.ntmps3
    go_wp2_with fail
    refine KL0.mono ?_
    rintro e w1 ⟨rfl, hb⟩
    go_wp2
    go_ret
    exact ⟨rfl, hb⟩
  have d0 : decide (200 < qs.length) = false := dec_n hn
  have d1 : decide ((200 : Int) < (qs.length : Int)) = false := dec_n (by omega)
  have KW := cweek_any A c qs w (by omega) hq hT
  have KB := Lib.hid (fun W h => boundsCr_any 4 (by decide) W h)
  have KR := Lib.hid (fun W h => rweek_any A c qs W (by omega) h)
  have KRI := Lib.hid (fun W h => rright_any 0 7 200 A c qs W (by omega) h)
  have hm1 := wk_even (wkQ qs)
  have hm2 := wk_small (wkQ qs)
  have HS := Lib.hid (wk_some qs)
  generalize mk (wkF (wkQ qs)) = m at *
  generalize rightB 0 7 200 qs = rb at *
  have a1 : (m : Int).tmod 2 = 0 := by rw [Int.tmod_eq_emod_of_nonneg (by omega)]; omega
  have a2 : (m : Int) % 2 = 0 := by omega
  have a3 : decide (m < 256) = true := dec_t hm2
  have a4 : decide ((m : Int) < 256) = true := dec_t (by omega)
  clear hq hT hn hm2
  go_enter Tryd.func3, Tryd.ntmps3
  go_wp2_with fail
  refine KW.mono ?_
  rintro e w1 ⟨rfl, hb1⟩
  have HB1 := Lib.hid hb1
  have K2 := KB.out w1 (HT.out.below hb1)
  clear hb1 KW
  go_wp2_with fail
  refine K2.mono ?_
  rintro e w2 ⟨rfl, n, rfl⟩
  have HB2 := Lib.hid (HB1.out.trans (below_draws w.heap.size w1 n))
  generalize w1.drewN n = v1 at HB2 ⊢
  have K3 := KR.out v1 (HQ.out.below HB2.out)
  clear HB1 K2
  unfold bdCr
  go_wp2_with fail
  refine K3.mono ?_
  rintro e w3 ⟨rfl, hb3⟩
  have HB3 := Lib.hid (HB2.out.trans (hb3.mono HB2.out.size))
  have K4 := KRI.out w3 (HQ.out.below HB3.out)
  clear hb3 K3
  go_wp2_with fail
  refine K4.mono ?_
  rintro e w4 ⟨rfl, hb4⟩
  have HB4 := Lib.hid (HB3.out.trans (hb4.mono HB3.out.size))
  have K5 := KL.out w4 (HT.out.below HB4.out)
  clear hb4 K4
  cases rb
  · go_wp2_with fail
    refine K5.mono ?_
    rintro e w5 ⟨rfl, hb5⟩
    have HB5 := Lib.hid (HB4.out.trans (hb5.mono HB4.out.size))
    clear hb5 K5
    go_wp2
    go_ret
    exact ⟨rfl, HB5.out⟩
  · have m0 := HS.out rfl
    have m1 : ((m : Int) != 0) = true := by simp; omega
    have m2 : (m != 0) = true := by simp; omega
    have m3 : (m == 0) = false := by simp; omega
    have m4 : ((m : Int) == 0) = false := by rw [beq_eq_false_iff_ne]; omega
    go_wp2_with fail
    refine K5.mono ?_
    rintro e w5 ⟨rfl, hb5⟩
    have HB5 := Lib.hid (HB4.out.trans (hb5.mono HB4.out.size))
    clear hb5 K5
    go_wp2
    go_ret
    exact ⟨rfl, HB5.out⟩
end Go.Proofs.YtjdoknbmnokkdaaDoor
