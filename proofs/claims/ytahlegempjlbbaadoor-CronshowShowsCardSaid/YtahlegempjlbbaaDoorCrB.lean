/- Contract of cron.check: what is wrong with one field's list (layer 24). -/
import Derived.Test.YtahlegempjlbbaaDoorCrA
namespace Go.Proofs.YtahlegempjlbbaaDoor
open Go.RowKit
set_option linter.unusedVariables false

/-- may an item be one of the field's? -/
def okCr (f : Nat) (q : Q4) : Bool := mayB (bdCr f).1 (bdCr f).2 q && !restB q
/-- what is wrong with a field's list -/
def chkCr (f : Nat) (qs : List Q4) : Int := if qs.length = 0 then 11 else if 64 < qs.length then 5 else if qs.all (okCr f) then 0 else 1
theorem all_and_not (p r : Q4 → Bool) : ∀ qs : List Q4, qs.all (fun q => p q && !r q) = (qs.all p && !qs.any r)
  | [] => rfl
  | q :: qs => by
    rw [List.all_cons, List.all_cons, List.any_cons, all_and_not p r qs]
    cases p q <;> cases r q <;> cases qs.all p <;> cases qs.any r <;> rfl
set_option maxHeartbeats 1600000 in
set_option maxRecDepth 20000 in
theorem checkCr_any (f : Nat) (hf : f < 5) (A : Option Addr) (c : Nat) (qs : List Q4) (w : World) (hl : qs.length ≤ 1000000) (hq : ItemsAt w A qs) (hT : TabCr w) :
    Calls Tryd.prog 19 #[.int .i64 (f : Int), .slice A qs.length c] w fun e w' => e = .returned (.int .i64 (chkCr f qs)) ∧ Below w.heap.size w w' := by
  have K1 := boundsCr_any f hf w hT
  have HQ := Lib.hid hq
  have HE := Lib.hid (show ∀ P : Int, chkCr f qs = P → P = chkCr f qs from fun P h => h.symm)
  have HD := Lib.hid (show chkCr f qs = if qs.length = 0 then 11 else if 64 < qs.length then 5 else if (qs.all (mayB (bdCr f).1 (bdCr f).2) && !qs.any restB) then 0 else 1 by unfold chkCr; rw [← all_and_not]; rfl)
  have KR := Lib.hid (fun W hW => right_any (bdCr f).1 (bdCr f).2 64 A c qs W hl hW)
  have KC := Lib.hid (fun W hW => contains_any A c qs W hl hW)
  generalize chkCr f qs = E at HD ⊢
  generalize (bdCr f).1 = lo at K1 HD KR
  generalize (bdCr f).2 = hi at K1 HD KR
  clear hq hT HE
  go_enter Tryd.func19, Tryd.ntmps19
  go_wp2_with fail
  refine K1.mono ?_
  rintro e w1 ⟨rfl, hq1⟩
  have HB1 := Lib.hid (show Below w.heap.size w w1 by obtain ⟨n, rfl⟩ := hq1; exact below_draws _ w n)
  clear K1 hq1
  by_cases h0 : qs.length = 0
  · have HX := Lib.hid (show (11 : Int) = E by rw [HD.out, if_pos h0])
    have d0 : (((qs.length : Nat) : Int) == 0) = true := by rw [beq_iff_eq]; omega
    go_wp2
    go_ret
    exact ⟨by rw [← HX.out]; rfl, HB1.out⟩
  · have d0 : (((qs.length : Nat) : Int) == 0) = false := by rw [beq_eq_false_iff_ne]; omega
    by_cases h1 : 64 < qs.length
    · have HX := Lib.hid (show (5 : Int) = E by rw [HD.out, if_neg h0, if_pos h1])
      have d1 : decide ((64 : Int) < ((qs.length : Nat) : Int)) = true := dec_t (by omega)
      have d2 : decide (64 < qs.length) = true := dec_t h1
      go_wp2
      go_ret
      exact ⟨by rw [← HX.out]; rfl, HB1.out⟩
    · have d1 : decide ((64 : Int) < ((qs.length : Nat) : Int)) = false := dec_n (by omega)
      have d2 : decide (64 < qs.length) = false := dec_n h1
      have K2 := KR.out w1 (HQ.out.below HB1.out)
      rw [show rightB lo hi 64 qs = qs.all (mayB lo hi) by unfold rightB; rw [dec_t (show 1 ≤ qs.length by omega), dec_t (show (qs.length : Int) ≤ 64 by omega)]; rfl] at K2
      cases ha : qs.all (mayB lo hi)
      · rw [ha] at K2
        have HX := Lib.hid (show (1 : Int) = E by rw [HD.out, if_neg h0, if_neg h1, ha]; rfl)
        clear ha h0 h1
        go_wp2_with fail
        refine K2.mono ?_
        rintro e w2 ⟨rfl, hb2⟩
        go_wp2
        go_ret
        exact ⟨by rw [← HX.out]; rfl, HB1.out.trans (hb2.mono HB1.out.size)⟩
      · rw [ha] at K2
        cases hr : qs.any restB
        · have HX := Lib.hid (show (0 : Int) = E by rw [HD.out, if_neg h0, if_neg h1, ha, hr]; rfl)
          rw [hr] at KC
          clear ha h0 h1 hr
          go_wp2_with fail
          refine K2.mono ?_
          rintro e w2 ⟨rfl, hb2⟩
          have HB2 := Lib.hid (HB1.out.trans (hb2.mono HB1.out.size))
          have K3 := KC.out w2 (HQ.out.below HB2.out)
          clear K2 hb2
          go_wp2_with fail
          refine K3.mono ?_
          rintro e w3 ⟨rfl, hb3⟩
          go_wp2
          go_ret
          exact ⟨by rw [← HX.out]; rfl, HB2.out.trans (hb3.mono HB2.out.size)⟩
        · have HX := Lib.hid (show (1 : Int) = E by rw [HD.out, if_neg h0, if_neg h1, ha, hr]; rfl)
          rw [hr] at KC
          clear ha h0 h1 hr
          go_wp2_with fail
          refine K2.mono ?_
          rintro e w2 ⟨rfl, hb2⟩
          have HB2 := Lib.hid (HB1.out.trans (hb2.mono HB1.out.size))
          have K3 := KC.out w2 (HQ.out.below HB2.out)
          clear K2 hb2
          go_wp2_with fail
          refine K3.mono ?_
          rintro e w3 ⟨rfl, hb3⟩
          go_wp2
          go_ret
          exact ⟨by rw [← HX.out]; rfl, HB2.out.trans (hb3.mono HB2.out.size)⟩
end Go.Proofs.YtahlegempjlbbaaDoor
