/- Contracts of cal.fitting and cal.check: what is wrong with one field's list (layer 28). -/
import Derived.Test.YtjgifiaokmmjfaaDoorClA
namespace Go.Proofs.YtjgifiaokmmjfaaDoor
open Go.RowKit
set_option linter.unusedVariables false

/-- is an item, of a list of so many, one that the field has not? -/
def oddP (f n : Nat) (q : Q4) : Prop := (f = 0 ∧ (q.1 = 0 ∨ q.1 = 3 ∨ 1 < q.2.2.2)) ∨ (f ≠ 0 ∧ q.1 = 0 ∧ (1 < n ∨ q.2.2.2 ≠ 1))
instance (f n : Nat) (q : Q4) : Decidable (oddP f n q) := by unfold oddP; infer_instance
def fitP (f n : Nat) (q : Q4) : Prop := ¬ (f = 0 ∧ (q.1 = 0 ∨ q.1 = 3 ∨ 1 < q.2.2.2)) ∧ ¬ (q.1 = 0 ∧ (q.2.1 ≠ 0 ∨ q.2.2.1 ≠ 0 ∨ q.2.2.2 ≠ 1 ∨ 1 < n))
instance (f n : Nat) (q : Q4) : Decidable (fitP f n q) := by unfold fitP; infer_instance
def fitB (f n : Nat) (q : Q4) : Bool := decide (fitP f n q)
def okCl (f n : Nat) (q : Q4) : Bool := mayB (bdCl f).1 (bdCl f).2 q && !decide (oddP f n q)
theorem ok_fit (f n : Nat) (q : Q4) : okCl f n q = (mayB (bdCl f).1 (bdCl f).2 q && fitB f n q) := by
  unfold okCl
  cases hm : mayB (bdCl f).1 (bdCl f).2 q
  · rfl
  · have h := of_decide_eq_true hm
    unfold mayP at h
    have e : fitB f n q = !decide (oddP f n q) := by
      by_cases ho : oddP f n q
      · rw [dec_t ho]
        refine decide_eq_false (fun hf => ?_)
        unfold oddP at ho
        unfold fitP at hf
        rcases ho with h1 | ⟨h1, h2, h3⟩
        · exact hf.1 h1
        · exact hf.2 ⟨h2, by omega⟩
      · rw [dec_n ho]
        refine decide_eq_true ?_
        unfold oddP at ho
        unfold fitP
        refine ⟨fun h1 => ho (.inl h1), fun h2 => ?_⟩
        by_cases hf0 : f = 0
        · exact ho (.inl ⟨hf0, .inl h2.1⟩)
        · refine ho (.inr ⟨hf0, h2.1, ?_⟩)
          omega
    rw [e]
def mostCl (f : Nat) : Nat := if f = 1 then 400 else 64
/-- what is wrong with a field's list -/
def chkCl (f : Nat) (qs : List Q4) : Int := if qs.length = 0 then (if f = 0 then 0 else 11) else if mostCl f < qs.length then 5 else if qs.all (okCl f qs.length) then 0 else 1
theorem all_and (p r : Q4 → Bool) : ∀ qs : List Q4, qs.all (fun q => p q && r q) = (qs.all p && qs.all r)
  | [] => rfl
  | q :: qs => by
    rw [List.all_cons, List.all_cons, List.all_cons, all_and p r qs]
    cases p q <;> cases r q <;> cases qs.all p <;> cases qs.all r <;> rfl
set_option maxHeartbeats 3200000 in
set_option maxRecDepth 20000 in
theorem fitting_any (f : Nat) (hf : f < 7) (A : Option Addr) (c : Nat) (qs : List Q4) (w : World) (hl : qs.length ≤ 1000000) (hq : ItemsAt w A qs) :
    Calls Tryd.prog 40 #[.int .i64 (f : Int), .slice A qs.length c] w fun e w' => e = .returned (.bool (qs.all (fitB f qs.length))) ∧ Below w.heap.size w w' := by
  have HQ := Lib.hid hq
  have HA := Lib.hid (all_iff (fitB f qs.length) qs)
  have HN := Lib.hid (all_no (fitB f qs.length) qs)
  obtain ⟨b0, hb0⟩ : ∃ b, qs.all (fitB f qs.length) = b := ⟨_, rfl⟩
  rw [hb0]
  have HR := Lib.hid hb0
  have hg0 := blk_new w (.cells #[.int .i64 0, .int .i64 0, .int .i64 0, .int .i64 1] 49)
  have HG0 := Lib.hid hg0
  have HB0 := Lib.hid (show Below w.heap.size w (w.alloc (.cells #[.int .i64 0, .int .i64 0, .int .i64 0, .int .i64 1] 49)) from (Below.refl _ _).alloc (Nat.le_refl _) _)
  clear hq hb0 hg0
  go_enter Tryd.func40, Tryd.ntmps40
  go_wp2
  go_loopw [11] (fun i wr => ∃ k : Nat, k ≤ qs.length ∧ i = .int .i64 k ∧ Hid (∀ j, j < k → fitB f qs.length (nthQ qs j) = true) ∧ wr.heap[w.heap.size]? = some (.cells #[.int .i64 0, .int .i64 0, .int .i64 0, .int .i64 1] 49 (0, 0)) ∧ Below w.heap.size w wr) (fun i _ => qs.length - (intOf i).toNat)
  case atStart => exact ⟨0, Nat.zero_le _, rfl, Lib.hid (fun j hj => by omega), HG0.out, HB0.out⟩
  case round =>
    obtain ⟨k, hk, rfl, HP, hg, hb⟩ := hrel
    have HB := Lib.hid hb
    have HG1 := Lib.hid hg
    by_cases hlt : k < qs.length
    · obtain ⟨b, off, rfl, hbl, x0, x1, x2, x3⟩ := HQ.out.below hb k hlt
      have hmn := HN.out k hlt
      have HG := Lib.hid (show fitB f qs.length (nthQ qs k) = true → ∀ j, j < k + 1 → fitB f qs.length (nthQ qs j) = true from fun h j hj => by
        by_cases e : j = k
        · subst e; exact h
        · exact HP.out j (by omega))
      have HNN := Lib.hid hmn
      have s0 : wr.cell? ⟨w.heap.size, 0, none⟩ = some (.int .i64 0) := blk_cell hg 0
      have s1 : wr.cell? ⟨w.heap.size, 1, none⟩ = some (.int .i64 0) := blk_cell hg 1
      have s2 : wr.cell? ⟨w.heap.size, 2, none⟩ = some (.int .i64 0) := blk_cell hg 2
      have s3 : wr.cell? ⟨w.heap.size, 3, none⟩ = some (.int .i64 1) := blk_cell hg 3
      have hne : w.heap.size < wr.heap.size := lt_of_block hg
      clear hb hmn hg
      obtain ⟨q, hq⟩ : ∃ q, nthQ qs k = q := ⟨_, rfl⟩
      rw [hq] at x0 x1 x2 x3 HG HNN
      clear hq
      obtain ⟨q0, q1, q2, q3⟩ := q
      simp only [] at x0 x1 x2 x3
      have HB2 := Lib.hid (show ∀ o, Below w.heap.size w (wr.alloc o) from fun o => HB.out.alloc HB.out.size o)
      by_cases hf0 : f = 0
      · subst hf0
        have ef : (((0 : Nat) : Int) == 0) = true := rfl
        by_cases h0 : q0 = 0
        · have e0 : (q0 == 0) = true := by rw [beq_iff_eq]; omega
          have HX := Lib.hid (HR.out.symm.trans (HNN.out (decide_eq_false (fun h => h.1 ⟨rfl, .inl h0⟩))))
          clear h0
          go_wp2
          go_ret
          exact ⟨ret_bool HX.out.symm, HB2.out _⟩
        · have e0 : (q0 == 0) = false := by rw [beq_eq_false_iff_ne]; omega
          by_cases h3 : q0 = 3
          · have e3 : (q0 == 3) = true := by rw [beq_iff_eq]; omega
            have HX := Lib.hid (HR.out.symm.trans (HNN.out (decide_eq_false (fun h => h.1 ⟨rfl, .inr (.inl h3)⟩))))
            clear h0 h3
            go_wp2
            go_ret
            exact ⟨ret_bool HX.out.symm, HB2.out _⟩
          · have e3 : (q0 == 3) = false := by rw [beq_eq_false_iff_ne]; omega
            by_cases h4 : 1 < q3
            · have d4 : decide (1 < q3) = true := dec_t h4
              have HX := Lib.hid (HR.out.symm.trans (HNN.out (decide_eq_false (fun h => h.1 ⟨rfl, .inr (.inr h4)⟩))))
              clear h0 h3 h4
              go_wp2
              go_ret
              exact ⟨ret_bool HX.out.symm, HB2.out _⟩
            · have d4 : decide (1 < q3) = false := dec_n h4
              have HP2 := Lib.hid (HG.out (decide_eq_true (by unfold fitP; dsimp only; omega)))
              clear h0 h3 h4
              go_wp2
              go_roundw
              case rel => exact ⟨k + 1, by omega, by go_num, HP2, blk_more HG1.out _, HB2.out _⟩
              case measure => simp [intOf]; omega
      · have ef : ((f : Int) == 0) = false := by rw [beq_eq_false_iff_ne]; omega
        by_cases h0 : q0 = 0
        · have e0 : (q0 == 0) = true := by rw [beq_iff_eq]; omega
          by_cases h1 : q1 = 0
          · by_cases h2 : q2 = 0
            · by_cases h3 : q3 = 1
              · subst h0 h1 h2 h3
                by_cases hn : 1 < qs.length
                · have d1 : decide ((1 : Int) < ((qs.length : Nat) : Int)) = true := dec_t (by omega)
                  have d2 : decide (1 < qs.length) = true := dec_t hn
                  have HX := Lib.hid (HR.out.symm.trans (HNN.out (decide_eq_false (fun h => h.2 ⟨rfl, .inr (.inr (.inr hn))⟩))))
                  clear hn
                  go_wp2
                  go_ret
                  exact ⟨ret_bool HX.out.symm, HB2.out _⟩
                · have d1 : decide ((1 : Int) < ((qs.length : Nat) : Int)) = false := dec_n (by omega)
                  have d2 : decide (1 < qs.length) = false := dec_n hn
                  have HP2 := Lib.hid (HG.out (decide_eq_true (by unfold fitP; dsimp only; omega)))
                  clear hn
                  go_wp2
                  go_roundw
                  case rel => exact ⟨k + 1, by omega, by go_num, HP2, blk_more HG1.out _, HB2.out _⟩
                  case measure => simp [intOf]; omega
              · have e3 : (q3 == 1) = false := by rw [beq_eq_false_iff_ne]; omega
                subst h0 h1 h2
                have HX := Lib.hid (HR.out.symm.trans (HNN.out (decide_eq_false (fun h => h.2 ⟨rfl, .inr (.inr (.inl h3))⟩))))
                clear h3
                go_wp2
                go_ret
                exact ⟨ret_bool HX.out.symm, HB2.out _⟩
            · have e2 : (q2 == 0) = false := by rw [beq_eq_false_iff_ne]; omega
              subst h0 h1
              have HX := Lib.hid (HR.out.symm.trans (HNN.out (decide_eq_false (fun h => h.2 ⟨rfl, .inr (.inl h2)⟩))))
              clear h2
              go_wp2
              go_ret
              exact ⟨ret_bool HX.out.symm, HB2.out _⟩
          · have e1 : (q1 == 0) = false := by rw [beq_eq_false_iff_ne]; omega
            subst h0
            have HX := Lib.hid (HR.out.symm.trans (HNN.out (decide_eq_false (fun h => h.2 ⟨rfl, .inl h1⟩))))
            clear h1
            go_wp2
            go_ret
            exact ⟨ret_bool HX.out.symm, HB2.out _⟩
        · have e0 : (q0 == 0) = false := by rw [beq_eq_false_iff_ne]; omega
          have HP2 := Lib.hid (HG.out (decide_eq_true (by unfold fitP; dsimp only; omega)))
          clear h0
          go_wp2
          go_roundw
          case rel => exact ⟨k + 1, by omega, by go_num, HP2, blk_more HG1.out _, HB2.out _⟩
          case measure => simp [intOf]; omega
    · obtain rfl : k = qs.length := by omega
      have HX := Lib.hid (HR.out.symm.trans (HA.out.2 HP.out))
      clear hb hg hlt
      go_wp2
      go_ret
      exact ⟨ret_bool HX.out.symm, HB.out⟩
set_option maxHeartbeats 1600000 in
set_option maxRecDepth 20000 in
theorem checkCl_any (f : Nat) (hf : f < 7) (A : Option Addr) (c : Nat) (qs : List Q4) (w : World) (hl : qs.length ≤ 1000000) (hq : ItemsAt w A qs) (hT : TabCl w) :
    Calls Tryd.prog 35 #[.int .i64 (f : Int), .slice A qs.length c] w fun e w' => e = .returned (.int .i64 (chkCl f qs)) ∧ Below w.heap.size w w' := by
  have K1 := boundsCl_any f hf w hT
  have HQ := Lib.hid hq
  have HD := Lib.hid (show chkCl f qs = if qs.length = 0 then (if f = 0 then 0 else 11) else if mostCl f < qs.length then 5 else if (qs.all (mayB (bdCl f).1 (bdCl f).2) && qs.all (fitB f qs.length)) then 0 else 1 by
    unfold chkCl
    rw [← all_and, show okCl f qs.length = fun q => mayB (bdCl f).1 (bdCl f).2 q && fitB f qs.length q from funext fun q => ok_fit f qs.length q])
  have KR := Lib.hid (fun most W hW => right_any (bdCl f).1 (bdCl f).2 most A c qs W hl hW)
  have KC := Lib.hid (fun W hW => fitting_any f hf A c qs W hl hW)
  obtain ⟨E, hE⟩ : ∃ E, chkCl f qs = E := ⟨_, rfl⟩
  rw [hE] at HD
  rw [hE]
  generalize (bdCl f).1 = lo at K1 HD KR
  generalize (bdCl f).2 = hi at K1 HD KR
  clear hq hT hE
  go_enter Tryd.func35, Tryd.ntmps35
  go_wp2_with fail
  refine K1.mono ?_
  rintro e w1 ⟨rfl, hq1⟩
  have HB1 := Lib.hid (show Below w.heap.size w w1 by obtain ⟨n, rfl⟩ := hq1; exact below_draws _ w n)
  clear K1 hq1
  by_cases hf1 : f = 1
  · have ef1 : ((f : Int) == 1) = true := by rw [beq_iff_eq]; omega
    have hm : mostCl f = 400 := if_pos hf1
    clear hf1
    by_cases h0 : qs.length = 0
    · have d0 : (((qs.length : Nat) : Int) == 0) = true := by rw [beq_iff_eq]; omega
      by_cases hf0 : f = 0
      · have ef : ((f : Int) == 0) = true := by rw [beq_iff_eq]; omega
        have HX := Lib.hid (show (0 : Int) = E by rw [HD.out, if_pos h0, if_pos hf0])
        clear h0 hf0
        go_wp2
        go_ret
        exact ⟨by rw [← HX.out]; rfl, HB1.out⟩
      · have ef : ((f : Int) == 0) = false := by rw [beq_eq_false_iff_ne]; omega
        have HX := Lib.hid (show (11 : Int) = E by rw [HD.out, if_pos h0, if_neg hf0])
        clear h0 hf0
        go_wp2
        go_ret
        exact ⟨by rw [← HX.out]; rfl, HB1.out⟩
    · have d0 : (((qs.length : Nat) : Int) == 0) = false := by rw [beq_eq_false_iff_ne]; omega
      by_cases h1 : 400 < qs.length
      · have HX := Lib.hid (show (5 : Int) = E by rw [HD.out, if_neg h0, hm, if_pos h1])
        have d1 : decide ((400 : Int) < ((qs.length : Nat) : Int)) = true := dec_t (by omega)
        have d2 : decide (400 < qs.length) = true := dec_t h1
        clear h0 h1
        go_wp2
        go_ret
        exact ⟨by rw [← HX.out]; rfl, HB1.out⟩
      · have d1 : decide ((400 : Int) < ((qs.length : Nat) : Int)) = false := dec_n (by omega)
        have d2 : decide (400 < qs.length) = false := dec_n h1
        have K2 := KR.out 400 w1 (HQ.out.below HB1.out)
        rw [show rightB lo hi 400 qs = qs.all (mayB lo hi) by unfold rightB; rw [dec_t (show 1 ≤ qs.length by omega), dec_t (show (qs.length : Int) ≤ 400 by omega)]; rfl] at K2
        cases ha : qs.all (mayB lo hi)
        · rw [ha] at K2
          have HX := Lib.hid (show (1 : Int) = E by rw [HD.out, if_neg h0, hm, if_neg h1, ha]; rfl)
          clear ha h0 h1
          go_wp2_with fail
          refine K2.mono ?_
          rintro e w2 ⟨rfl, hb2⟩
          go_wp2
          go_ret
          exact ⟨by rw [← HX.out]; rfl, HB1.out.trans (hb2.mono HB1.out.size)⟩
        · rw [ha] at K2
          cases hr : qs.all (fitB f qs.length)
          · have HX := Lib.hid (show (1 : Int) = E by rw [HD.out, if_neg h0, hm, if_neg h1, ha, hr]; rfl)
            rw [hr] at KC
            clear ha h0 h1 hr
            go_wp2_with fail
            refine K2.mono ?_
            rintro e w2 ⟨rfl, hb2⟩
            have HB2 := Lib.hid (HB1.out.trans (hb2.mono HB1.out.size))
            have K3 := KC.out w2 (HQ.out.below HB2.out)
            clear K2 hb2
            go_wp2_with fail
            refine K3.mono ?_
            rintro e w3 ⟨rfl, hb3⟩
            go_wp2
            go_ret
            exact ⟨by rw [← HX.out]; rfl, HB2.out.trans (hb3.mono HB2.out.size)⟩
          · have HX := Lib.hid (show (0 : Int) = E by rw [HD.out, if_neg h0, hm, if_neg h1, ha, hr]; rfl)
            rw [hr] at KC
            clear ha h0 h1 hr
            go_wp2_with fail
            refine K2.mono ?_
            rintro e w2 ⟨rfl, hb2⟩
            have HB2 := Lib.hid (HB1.out.trans (hb2.mono HB1.out.size))
            have K3 := KC.out w2 (HQ.out.below HB2.out)
            clear K2 hb2
            go_wp2_with fail
            refine K3.mono ?_
            rintro e w3 ⟨rfl, hb3⟩
            go_wp2
            go_ret
            exact ⟨by rw [← HX.out]; rfl, HB2.out.trans (hb3.mono HB2.out.size)⟩
  · have ef1 : ((f : Int) == 1) = false := by rw [beq_eq_false_iff_ne]; omega
    have hm : mostCl f = 64 := if_neg hf1
    clear hf1
    by_cases h0 : qs.length = 0
    · have d0 : (((qs.length : Nat) : Int) == 0) = true := by rw [beq_iff_eq]; omega
      by_cases hf0 : f = 0
      · have ef : ((f : Int) == 0) = true := by rw [beq_iff_eq]; omega
        have HX := Lib.hid (show (0 : Int) = E by rw [HD.out, if_pos h0, if_pos hf0])
        clear h0 hf0
        go_wp2
        go_ret
        exact ⟨by rw [← HX.out]; rfl, HB1.out⟩
      · have ef : ((f : Int) == 0) = false := by rw [beq_eq_false_iff_ne]; omega
        have HX := Lib.hid (show (11 : Int) = E by rw [HD.out, if_pos h0, if_neg hf0])
        clear h0 hf0
        go_wp2
        go_ret
        exact ⟨by rw [← HX.out]; rfl, HB1.out⟩
    · have d0 : (((qs.length : Nat) : Int) == 0) = false := by rw [beq_eq_false_iff_ne]; omega
      by_cases h1 : 64 < qs.length
      · have HX := Lib.hid (show (5 : Int) = E by rw [HD.out, if_neg h0, hm, if_pos h1])
        have d1 : decide ((64 : Int) < ((qs.length : Nat) : Int)) = true := dec_t (by omega)
        have d2 : decide (64 < qs.length) = true := dec_t h1
        clear h0 h1
        go_wp2
        go_ret
        exact ⟨by rw [← HX.out]; rfl, HB1.out⟩
      · have d1 : decide ((64 : Int) < ((qs.length : Nat) : Int)) = false := dec_n (by omega)
        have d2 : decide (64 < qs.length) = false := dec_n h1
        have K2 := KR.out 64 w1 (HQ.out.below HB1.out)
        rw [show rightB lo hi 64 qs = qs.all (mayB lo hi) by unfold rightB; rw [dec_t (show 1 ≤ qs.length by omega), dec_t (show (qs.length : Int) ≤ 64 by omega)]; rfl] at K2
        cases ha : qs.all (mayB lo hi)
        · rw [ha] at K2
          have HX := Lib.hid (show (1 : Int) = E by rw [HD.out, if_neg h0, hm, if_neg h1, ha]; rfl)
          clear ha h0 h1
          go_wp2_with fail
          refine K2.mono ?_
          rintro e w2 ⟨rfl, hb2⟩
          go_wp2
          go_ret
          exact ⟨by rw [← HX.out]; rfl, HB1.out.trans (hb2.mono HB1.out.size)⟩
        · rw [ha] at K2
          cases hr : qs.all (fitB f qs.length)
          · have HX := Lib.hid (show (1 : Int) = E by rw [HD.out, if_neg h0, hm, if_neg h1, ha, hr]; rfl)
            rw [hr] at KC
            clear ha h0 h1 hr
            go_wp2_with fail
            refine K2.mono ?_
            rintro e w2 ⟨rfl, hb2⟩
            have HB2 := Lib.hid (HB1.out.trans (hb2.mono HB1.out.size))
            have K3 := KC.out w2 (HQ.out.below HB2.out)
            clear K2 hb2
            go_wp2_with fail
            refine K3.mono ?_
            rintro e w3 ⟨rfl, hb3⟩
            go_wp2
            go_ret
            exact ⟨by rw [← HX.out]; rfl, HB2.out.trans (hb3.mono HB2.out.size)⟩
          · have HX := Lib.hid (show (0 : Int) = E by rw [HD.out, if_neg h0, hm, if_neg h1, ha, hr]; rfl)
            rw [hr] at KC
            clear ha h0 h1 hr
            go_wp2_with fail
            refine K2.mono ?_
            rintro e w2 ⟨rfl, hb2⟩
            have HB2 := Lib.hid (HB1.out.trans (hb2.mono HB1.out.size))
            have K3 := KC.out w2 (HQ.out.below HB2.out)
            clear K2 hb2
            go_wp2_with fail
            refine K3.mono ?_
            rintro e w3 ⟨rfl, hb3⟩
            go_wp2
            go_ret
            exact ⟨by rw [← HX.out]; rfl, HB2.out.trans (hb3.mono HB2.out.size)⟩
end Go.Proofs.YtjgifiaokmmjfaaDoor
