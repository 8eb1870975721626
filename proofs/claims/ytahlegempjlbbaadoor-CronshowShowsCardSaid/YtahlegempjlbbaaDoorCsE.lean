/- The text of a field: cronshow.Field and the document's own (layer 26). -/
import Derived.Test.YtahlegempjlbbaaDoorCsD
namespace Go.Proofs.YtahlegempjlbbaaDoor
open Go.RowKit
set_option linter.unusedVariables false

set_option maxHeartbeats 1600000 in
set_option maxRecDepth 20000 in
theorem cfield_any (A : Option Addr) (c : Nat) (qs : List Q4) (w : World) (hl : qs.length ≤ 1000) (hq : ItemsAt w A qs) (hin : ∀ k, k < qs.length → Q4In (nthQ qs k)) (hT : TabP w) :
    Calls Tryd.prog 12 #[.slice A qs.length c] w fun e w' => e = .returned (.string (joinB (itTs qs qs.length))) ∧ Below w.heap.size w w' := by
  have HQ := Lib.hid hq
  have HT := Lib.hid hT
  have HL := Lib.hid hl
  have KI := Lib.hid (fun k hk W h => citem_any (nthQ qs k) (hin k hk) W h)
  have HST := Lib.hid (fun k h => itTs_step qs k h)
  have HLEN := Lib.hid (fun k h => itTs_len qs k h)
  have KJ := Lib.hid (fun v W (h : OwnS W w.heap.size v (itTs qs qs.length)) => joined_any v w.heap.size (itTs qs qs.length) W h (by rw [itTs_len qs qs.length (Nat.le_refl _)]; exact hl) (itTs_size qs hin qs.length))
  generalize joinB (itTs qs qs.length) = r at KJ ⊢
  obtain ⟨i0, hi', hz0, hz1, hz2⟩ := info_parts info_str
  obtain ⟨w0, hmake, hown0, hgr0⟩ := run_make_own w w.heap.size 42 9 i0 _ 1 Tryd.underlying42 hi' hz0 hz1 .i64 .i64 qs.length (by rw [hz2]; omega) (by unfold maxLen; omega) (Nat.le_refl _)
  have HB0 := Lib.hid (Below.grown (Below.refl w.heap.size w) hgr0 (Nat.le_refl _) (fun k hk => by cases hk))
  have HO0 := Lib.hid (show OwnS w0 w.heap.size (.slice (some ⟨w.heap.size, 0, none⟩) 0 qs.length) [] from hown0)
  clear hq hl hin hT hown0 hgr0
  go_enter Tryd.func12, Tryd.ntmps12
  go_wp2
  clear hmake
  go_loopw [3, 11] (fun v i wr => ∃ k : Nat, k ≤ qs.length ∧ i = .int .i64 k ∧ OwnS wr w.heap.size v (itTs qs k) ∧ Below w.heap.size w wr) (fun _ i _ => qs.length - (intOf i).toNat)
  case atStart => exact ⟨0, by omega, rfl, HO0.out, HB0.out⟩
  case round =>
    obtain ⟨k, hk, rfl, hown, hb⟩ := hrel
    have HB := Lib.hid hb
    have HO := Lib.hid hown
    by_cases hlt : k < qs.length
    · have d0 : decide (k < qs.length) = true := dec_t hlt
      obtain ⟨b, off, rfl, hbl, x0, x1, x2, x3⟩ := (HQ.out.below HB.out) k hlt
      have ik0 : (0 : Int) ≤ (k : Int) := by omega
      have ik1 : (k : Int) < (qs.length : Int) := by omega
      have hl := HL.out
      have hw1 : IntKind.i64.wrap ((k : Int) + 1) = (k : Int) + 1 := IntWalk.i64_in _ ⟨by omega, by omega⟩
      have HS1 := Lib.hid (HST.out k hlt)
      have HLE := Lib.hid (HLEN.out k hk)
      have KI1 := Lib.hid (KI.out k hlt)
      have HK := Lib.hid (And.intro hk hlt)
      generalize hqq : nthQ qs k = q at x0 x1 x2 x3 HS1 KI1
      have HB1 := Lib.hid (HB.out.alloc HB.out.size (.cells #[.int .i64 q.1, .int .i64 q.2.1, .int .i64 q.2.2.1, .int .i64 q.2.2.2] 36))
      have K := KI1.out (wr.alloc (.cells #[.int .i64 q.1, .int .i64 q.2.1, .int .i64 q.2.2.1, .int .i64 q.2.2.2] 36)) (HT.out.bel HB1.out)
      have HO1 := Lib.hid (HO.out.alloc (.cells #[.int .i64 q.1, .int .i64 q.2.1, .int .i64 q.2.2.1, .int .i64 q.2.2.2] 36))
      unfold qv at K
      generalize itT q = tq at K HS1
      clear hown hb hk hlt hqq hl KI1
      go_wp2_with fail
      refine K.mono ?_
      rintro e w1 ⟨rfl, hb1⟩
      have HB2 := Lib.hid (HB1.out.trans (hb1.mono HB1.out.size))
      have HO2 := Lib.hid (HO1.out.below hb1)
      have HZ := Lib.hid HB2.out.size
      clear hb1 K x0 x1 x2 x3 hbl
      go_wp2_with ((at_builtin; refine wpList_append_own _ rfl _ _ 42 rfl w.heap.size 9 i0 (.string ⟨#[]⟩) 1 16 Tryd.underlying42 hi' hz0 hz1 hz2 rfl (by decide) _ _ _ rfl (World.ownsRow.alloc HO2.out _) ⟨w1.heap.size, 0, none⟩ 1 1 [.string tq] rfl rfl ?e1 ?e2 ?e3 ?e4 ?e5 ?_))
      case e1 =>
        intro j u hj
        cases j with
        | zero => cases hj; exact cell_new _ _ _ 0
        | succ j => cases hj
      case e2 => simp [Value.oneCell']
      case e3 => have := HLE.out; have := HK.out; have := HL.out; unfold maxLen; omega
      case e4 => have := HLE.out; have := HK.out; have := HL.out; omega
      case e5 => have := HZ.out; simp; omega
      intro v' w2 hown1 hgrow _
      have HO3 := Lib.hid (OwnS.snoc hown1)
      have HB3 := Lib.hid (Below.grown (HB2.out.alloc HZ.out (.cells #[.string tq] 9)) hgrow (by have := HZ.out; simp; omega) (ownS_block HO2.out))
      clear hown1 hgrow
      go_wp2
      go_roundw
      case rel => exact ⟨k + 1, by have := HK.out; omega, by go_num, by rw [HS1.out]; exact HO3.out, HB3.out⟩
      case measure =>
        have := HK.out
        simp [intOf]; omega
    · obtain rfl : k = qs.length := by omega
      have d0 : decide (qs.length < qs.length) = false := dec_n (by omega)
      have K := KJ.out _ _ HO.out
      clear hown hb hk hlt
      go_wp2_with fail
      refine K.mono ?_
      rintro e w1 ⟨rfl, hb1⟩
      have HB2 := Lib.hid (HB.out.trans (hb1.mono HB.out.size))
      clear hb1
      go_wp2
      go_ret
      exact ⟨rfl, HB2.out⟩
theorem join_first (qs : List Q4) (k : Nat) (h : k < qs.length) (h0 : k = 0) : joinB (itTs qs (k + 1)) = joinB (itTs qs k) ++ itT (nthQ qs k) := by
  subst h0
  rw [itTs_step qs 0 h]
  exact (joinB_one _).trans (ByteArray.ext (by simp [joinB, itTs, Lib.join_nil]))
theorem join_next (qs : List Q4) (k : Nat) (h : k < qs.length) (h0 : 0 < k) : joinB (itTs qs (k + 1)) = joinB (itTs qs k) ++ chr 44 ++ itT (nthQ qs k) := by
  rw [itTs_step qs k h]
  refine joinB_snoc _ _ fun he => ?_
  have := itTs_len qs k (by omega)
  rw [he] at this
  simp at this
  omega
set_option maxHeartbeats 1600000 in
set_option maxRecDepth 20000 in
theorem rfield_any (A : Option Addr) (c : Nat) (qs : List Q4) (w : World) (hl : qs.length ≤ 1000) (hq : ItemsAt w A qs) (hin : ∀ k, k < qs.length → Q4In (nthQ qs k)) :
    Calls Tryd.prog 17 #[.slice A qs.length c] w fun e w' => e = .returned (.string (joinB (itTs qs qs.length))) ∧ Below w.heap.size w w' := by
  have HQ := Lib.hid hq
  have HL := Lib.hid hl
  have KI := Lib.hid (fun k hk W => ritem_any (nthQ qs k) (hin k hk) W)
  have HF := Lib.hid (fun k h h0 => join_first qs k h h0)
  have HX := Lib.hid (fun k h h0 => join_next qs k h h0)
  have HZ := Lib.hid (fun k hk => (by have := joinB_size (itTs qs k) (itTs_size qs hin k); rwa [itTs_len qs k hk] at this : (joinB (itTs qs k)).size ≤ 71 * k))
  have HTZ := Lib.hid (fun k hk => itT_size (nthQ qs k) (hin k hk))
  clear hq hl hin
  go_enter Tryd.func17, Tryd.ntmps17
  go_wp2
  go_loopw [3, 4] (fun v i wr => ∃ k : Nat, k ≤ qs.length ∧ i = .int .i64 k ∧ v = .string (joinB (itTs qs k)) ∧ Below w.heap.size w wr) (fun _ i _ => qs.length - (intOf i).toNat)
  case atStart => exact ⟨0, by omega, rfl, rfl, Below.refl _ _⟩
  case round =>
    obtain ⟨k, hk, rfl, rfl, hb⟩ := hrel
    have HB := Lib.hid hb
    by_cases hlt : k < qs.length
    · have d0 : decide (k < qs.length) = true := dec_t hlt
      obtain ⟨b, off, rfl, hbl, x0, x1, x2, x3⟩ := (HQ.out.below HB.out) k hlt
      have ik0 : (0 : Int) ≤ (k : Int) := by omega
      have ik1 : (k : Int) < (qs.length : Int) := by omega
      have hl := HL.out
      have hw1 : IntKind.i64.wrap ((k : Int) + 1) = (k : Int) + 1 := IntWalk.i64_in _ ⟨by omega, by omega⟩
      have K := KI.out k hlt wr
      have HK := Lib.hid (And.intro hk hlt)
      obtain ⟨J, hJ, hJ2⟩ : ∃ J, J ≤ 71 * k ∧ (joinB (itTs qs k)).size = J := ⟨_, HZ.out k hk, rfl⟩
      obtain ⟨I, hI, hI2⟩ : ∃ I, I ≤ 70 ∧ (itT (nthQ qs k)).size = I := ⟨_, HTZ.out k hlt, rfl⟩
      have c44 : (ByteArray.mk #[44]).size = 1 := rfl
      have zaa : ¬ (9223372036854775807 : Int) < (J : Int) + 1 := by omega
      have zab : (J : Int) + 1 ≤ 9223372036854775807 := by omega
      have zac : ¬ 9223372036854775807 < J + 1 := by omega
      have zad : J + 1 ≤ 9223372036854775807 := by omega
      have zba : ¬ (9223372036854775807 : Int) < (J : Int) + 1 + (I : Int) := by omega
      have zbb : (J : Int) + 1 + (I : Int) ≤ 9223372036854775807 := by omega
      have zbc : ¬ 9223372036854775807 < J + 1 + I := by omega
      have zbd : J + 1 + I ≤ 9223372036854775807 := by omega
      have zca : ¬ (9223372036854775807 : Int) < (J : Int) + (I : Int) := by omega
      have zcb : (J : Int) + (I : Int) ≤ 9223372036854775807 := by omega
      have zcc : ¬ 9223372036854775807 < J + I := by omega
      have zcd : J + I ≤ 9223372036854775807 := by omega
      have zda : ¬ (9223372036854775807 : Int) < (I : Int) := by omega
      have zdb : (I : Int) ≤ 9223372036854775807 := by omega
      have zdc : ¬ 9223372036854775807 < I := by omega
      have zdd : I ≤ 9223372036854775807 := by omega
      by_cases h0 : 0 < k
      · have e0 : decide (0 < k) = true := dec_t h0
        have e1 : decide ((0 : Int) < (k : Int)) = true := dec_t (by omega)
        have HS := Lib.hid (HX.out k hlt h0)
        generalize nthQ qs k = q at x0 x1 x2 x3 HS K hI2
        unfold qv at K
        generalize itT q = tq at K HS hI2
        generalize joinB (itTs qs k) = s at *
        clear hb hk hlt hl hJ hI h0
        go_wp2_with fail
        refine K.mono ?_
        rintro e w1 ⟨rfl, hb1⟩
        have HB2 := Lib.hid (HB.out.trans (hb1.mono HB.out.size))
        clear hb1 K x0 x1 x2 x3 hbl
        go_wp2
        go_roundw
        case rel => exact ⟨k + 1, by have := HK.out; omega, by go_num, by rw [HS.out]; rfl, HB2.out⟩
        case measure =>
          have := HK.out
          simp [intOf]; omega
      · have e0 : decide (0 < k) = false := dec_n h0
        have e1 : decide ((0 : Int) < (k : Int)) = false := dec_n (by omega)
        have HS := Lib.hid (HF.out k hlt (by omega))
        generalize nthQ qs k = q at x0 x1 x2 x3 HS K hI2
        unfold qv at K
        generalize itT q = tq at K HS hI2
        generalize joinB (itTs qs k) = s at *
        clear hb hk hlt hl hJ hI h0
        go_wp2_with fail
        refine K.mono ?_
        rintro e w1 ⟨rfl, hb1⟩
        have HB2 := Lib.hid (HB.out.trans (hb1.mono HB.out.size))
        clear hb1 K x0 x1 x2 x3 hbl
        go_wp2
        go_roundw
        case rel => exact ⟨k + 1, by have := HK.out; omega, by go_num, by rw [HS.out], HB2.out⟩
        case measure =>
          have := HK.out
          simp [intOf]; omega
    · obtain rfl : k = qs.length := by omega
      have d0 : decide (qs.length < qs.length) = false := dec_n (by omega)
      clear hb hk hlt
      go_wp2
      go_ret
      exact ⟨rfl, HB.out⟩
end Go.Proofs.YtahlegempjlbbaaDoor
