/- Whether an Ord may be (layer 13), second part. -/
import Derived.Test.YtbfndcogieiejaaDoorCmC
namespace Go.Proofs.YtbfndcogieiejaaDoor
open Go.RowKit
set_option linter.unusedVariables false
attribute [local go_sem] eq_ord guard_ord

set_option maxHeartbeats 800000 in
set_option maxRecDepth 20000 in
theorem mayOrd_zero (b : Bool) (D : Nat → Nat) (hD : ∀ i, D i < 18446744073709551616) (w : World) : Calls Tryd.prog 23 #[ordV 0 b D] w fun e w' => e = .returned (.bool (!b && days8 D 0)) ∧ Below w.heap.size w w' := by
  have HB0 := Lib.hid (show Below w.heap.size w (w.alloc (.cells (ordC 0 b D) 25)) from (Below.refl _ _).alloc (Nat.le_refl _) _)
  rw [days8_zero D hD]
  have hgd := guard_ord
  have he := fun W => eq_ord 0 b D W
  unfold ordC at HB0 he
  unfold ordV ordC
  generalize decide (D 0 = 0 ∧ D 1 = 0 ∧ D 2 = 0 ∧ D 3 = 0 ∧ D 4 = 0 ∧ D 5 = 0 ∧ D 6 = 0 ∧ D 7 = 0) = z at he ⊢
  clear hD
  go_enter Tryd.func23, Tryd.ntmps23
  go_wp2
  go_ret
  exact ⟨rfl, HB0.out⟩
set_option maxHeartbeats 800000 in
set_option maxRecDepth 20000 in
theorem mayOrd_out (n : Int) (b : Bool) (D : Nat → Nat) (hc : ¬ (n = 0 ∨ n = 1 ∨ n = 2)) (w : World) : Calls Tryd.prog 23 #[ordV n b D] w fun e w' => e = .returned (.bool false) ∧ Below w.heap.size w w' := by
  have HB0 := Lib.hid (show Below w.heap.size w (w.alloc (.cells (ordC n b D) 25)) from (Below.refl _ _).alloc (Nat.le_refl _) _)
  unfold ordC at HB0
  unfold ordV ordC
  have e0 : (n == 0) = false := by rw [beq_eq_false_iff_ne]; omega
  have e1 : (n == 1) = false := by rw [beq_eq_false_iff_ne]; omega
  have e2 : (n == 2) = false := by rw [beq_eq_false_iff_ne]; omega
  clear hc
  go_enter Tryd.func23, Tryd.ntmps23
  go_wp2
  go_ret
  exact ⟨rfl, HB0.out⟩
set_option maxHeartbeats 1600000 in
set_option maxRecDepth 20000 in
theorem mayOrd_1 (b : Bool) (D : Nat → Nat) (hD : ∀ i, D i < 18446744073709551616) (w : World) : Calls Tryd.prog 23 #[ordV 1 b D] w fun e w' => e = .returned (.bool (days8 D 5)) ∧ Below w.heap.size w w' := by
  have HT := Lib.hid (show D 0 = 0 → (∀ i, 1 ≤ i → i < 8 → bitsI (D i) 1 5 = true) → days8 D 5 = true from fun h1 h2 => days8_iff.2 ⟨h1, h2⟩)
  have HF0 := Lib.hid (show ¬ D 0 = 0 → days8 D 5 = false from fun h => days8_no fun q => h q.1)
  have HF := Lib.hid (show ∀ i, 1 ≤ i → i < 8 → ¬ bitsI (D i) 1 5 = true → days8 D 5 = false from fun i h1 h2 h3 => days8_no fun q => h3 (q.2 i h1 h2))
  have HB0 := Lib.hid (show Below w.heap.size w (w.alloc (.cells (ordC 1 b D) 25)) from (Below.refl _ _).alloc (Nat.le_refl _) _)
  have HG := Lib.hid (fun (j : Nat) (hj : j < 8) W => idx8 D j hj W)
  have HO := Lib.hid (fun (j : Nat) => ovr_zero (D j) 62 (hD j) (by decide) 1 5 (by decide +kernel))
  have HN := Lib.hid (fun (j : Nat) => show bits BinOp.andNot IntKind.u64 (D j : Int) 62 = ((ovr (D j) 62 : Nat) : Int) from ovr_nat (D j) 62 (hD j) (by decide))
  generalize days8 D 5 = bb at HT HF HF0 ⊢
  unfold ordC at HB0
  unfold c8 at HG
  unfold ordV ordC
  clear hD
  go_enter Tryd.func23, Tryd.ntmps23
  go_wp2
  go_loop [19] (fun i => ∃ j : Nat, j ≤ 8 ∧ i = .int .i64 j ∧ Hid (∀ k, k < j → (k = 0 → D 0 = 0) ∧ (1 ≤ k → bitsI (D k) 1 5 = true))) (fun i => 8 - (intOf i).toNat)
  case atStart => exact ⟨0, by omega, rfl, Lib.hid fun k h1 => by omega⟩
  case round =>
    obtain ⟨j, hj, rfl, HIN⟩ := hrel
    by_cases h : j < 8
    · have d0 : decide ((j : Int) < 8) = true := dec_t (by omega)
      have hg := HG.out j h
      have ho := HN.out j
      by_cases hz : ovr (D j) 62 = 0
      · rw [hz] at ho
        have hbt := (HO.out j).1 hz
        by_cases hj0 : j = 0
        · have e0 : ((j : Int) == 0) = true := by rw [beq_iff_eq]; omega
          by_cases hd : D 0 = 0
          · have e1 : ((D j : Int) != 0) = false := by rw [bne_eq_false_iff_eq, hj0]; omega
            have HNX := Lib.hid (show ∀ k, k < j + 1 → (k = 0 → D 0 = 0) ∧ (1 ≤ k → bitsI (D k) 1 5 = true) from fun k h1 => ⟨fun _ => hd, fun h2 => by omega⟩)
            clear hz hbt hj0 hd HIN
            go_wp2
            go_round
            case rel => exact ⟨j + 1, by omega, by go_num, HNX⟩
            case measure => simp [intOf]; omega
          · have e1 : ((D j : Int) != 0) = true := by rw [bne_iff_ne, hj0]; omega
            have HE := Lib.hid (HF0.out hd)
            clear hz hbt hj0 hd HIN
            go_wp2
            go_ret
            exact ⟨by rw [HE.out]; rfl, HB0.out⟩
        · have e0 : ((j : Int) == 0) = false := by rw [beq_eq_false_iff_ne]; omega
          have HNX := Lib.hid (show ∀ k, k < j + 1 → (k = 0 → D 0 = 0) ∧ (1 ≤ k → bitsI (D k) 1 5 = true) from fun k h1 => by
            rcases Nat.lt_or_ge k j with g | g
            · exact HIN.out k g
            · obtain rfl : k = j := by omega
              exact ⟨fun q => absurd q hj0, fun _ => hbt⟩)
          clear hz hbt hj0 HIN
          go_wp2
          go_round
          case rel => exact ⟨j + 1, by omega, by go_num, HNX⟩
          case measure => simp [intOf]; omega
      · have HE := Lib.hid (show bb = false by
          by_cases hj0 : j = 0
          · subst hj0
            refine HF0.out fun q => hz ?_
            rw [q]; exact Nat.zero_and _
          · exact HF.out j (by omega) h fun q => hz ((HO.out j).2 q))
        have e1 : (((ovr (D j) 62 : Nat) : Int) != 0) = true := by rw [bne_iff_ne]; omega
        generalize ovr (D j) 62 = x at ho e1 hz
        clear hz HIN
        go_wp2
        go_ret
        exact ⟨by rw [HE.out]; rfl, HB0.out⟩
    · have d0 : decide ((j : Int) < 8) = false := dec_n (by omega)
      have HE := Lib.hid (HT.out ((HIN.out 0 (by omega)).1 rfl) fun k h1 h2 => (HIN.out k (by omega)).2 h1)
      clear HIN
      go_wp2
      go_ret
      exact ⟨by rw [HE.out]; rfl, HB0.out⟩
set_option maxHeartbeats 1600000 in
set_option maxRecDepth 20000 in
theorem mayOrd_2 (b : Bool) (D : Nat → Nat) (hD : ∀ i, D i < 18446744073709551616) (w : World) : Calls Tryd.prog 23 #[ordV 2 b D] w fun e w' => e = .returned (.bool (days8 D 53)) ∧ Below w.heap.size w w' := by
  have HT := Lib.hid (show D 0 = 0 → (∀ i, 1 ≤ i → i < 8 → bitsI (D i) 1 53 = true) → days8 D 53 = true from fun h1 h2 => days8_iff.2 ⟨h1, h2⟩)
  have HF0 := Lib.hid (show ¬ D 0 = 0 → days8 D 53 = false from fun h => days8_no fun q => h q.1)
  have HF := Lib.hid (show ∀ i, 1 ≤ i → i < 8 → ¬ bitsI (D i) 1 53 = true → days8 D 53 = false from fun i h1 h2 h3 => days8_no fun q => h3 (q.2 i h1 h2))
  have HB0 := Lib.hid (show Below w.heap.size w (w.alloc (.cells (ordC 2 b D) 25)) from (Below.refl _ _).alloc (Nat.le_refl _) _)
  have HG := Lib.hid (fun (j : Nat) (hj : j < 8) W => idx8 D j hj W)
  have HO := Lib.hid (fun (j : Nat) => ovr_zero (D j) 18014398509481982 (hD j) (by decide) 1 53 (by decide +kernel))
  have HN := Lib.hid (fun (j : Nat) => show bits BinOp.andNot IntKind.u64 (D j : Int) 18014398509481982 = ((ovr (D j) 18014398509481982 : Nat) : Int) from ovr_nat (D j) 18014398509481982 (hD j) (by decide))
  generalize days8 D 53 = bb at HT HF HF0 ⊢
  unfold ordC at HB0
  unfold c8 at HG
  unfold ordV ordC
  clear hD
  go_enter Tryd.func23, Tryd.ntmps23
  go_wp2
  go_loop [19] (fun i => ∃ j : Nat, j ≤ 8 ∧ i = .int .i64 j ∧ Hid (∀ k, k < j → (k = 0 → D 0 = 0) ∧ (1 ≤ k → bitsI (D k) 1 53 = true))) (fun i => 8 - (intOf i).toNat)
  case atStart => exact ⟨0, by omega, rfl, Lib.hid fun k h1 => by omega⟩
  case round =>
    obtain ⟨j, hj, rfl, HIN⟩ := hrel
    by_cases h : j < 8
    · have d0 : decide ((j : Int) < 8) = true := dec_t (by omega)
      have hg := HG.out j h
      have ho := HN.out j
      by_cases hz : ovr (D j) 18014398509481982 = 0
      · rw [hz] at ho
        have hbt := (HO.out j).1 hz
        by_cases hj0 : j = 0
        · have e0 : ((j : Int) == 0) = true := by rw [beq_iff_eq]; omega
          by_cases hd : D 0 = 0
          · have e1 : ((D j : Int) != 0) = false := by rw [bne_eq_false_iff_eq, hj0]; omega
            have HNX := Lib.hid (show ∀ k, k < j + 1 → (k = 0 → D 0 = 0) ∧ (1 ≤ k → bitsI (D k) 1 53 = true) from fun k h1 => ⟨fun _ => hd, fun h2 => by omega⟩)
            clear hz hbt hj0 hd HIN
            go_wp2
            go_round
            case rel => exact ⟨j + 1, by omega, by go_num, HNX⟩
            case measure => simp [intOf]; omega
          · have e1 : ((D j : Int) != 0) = true := by rw [bne_iff_ne, hj0]; omega
            have HE := Lib.hid (HF0.out hd)
            clear hz hbt hj0 hd HIN
            go_wp2
            go_ret
            exact ⟨by rw [HE.out]; rfl, HB0.out⟩
        · have e0 : ((j : Int) == 0) = false := by rw [beq_eq_false_iff_ne]; omega
          have HNX := Lib.hid (show ∀ k, k < j + 1 → (k = 0 → D 0 = 0) ∧ (1 ≤ k → bitsI (D k) 1 53 = true) from fun k h1 => by
            rcases Nat.lt_or_ge k j with g | g
            · exact HIN.out k g
            · obtain rfl : k = j := by omega
              exact ⟨fun q => absurd q hj0, fun _ => hbt⟩)
          clear hz hbt hj0 HIN
          go_wp2
          go_round
          case rel => exact ⟨j + 1, by omega, by go_num, HNX⟩
          case measure => simp [intOf]; omega
      · have HE := Lib.hid (show bb = false by
          by_cases hj0 : j = 0
          · subst hj0
            refine HF0.out fun q => hz ?_
            rw [q]; exact Nat.zero_and _
          · exact HF.out j (by omega) h fun q => hz ((HO.out j).2 q))
        have e1 : (((ovr (D j) 18014398509481982 : Nat) : Int) != 0) = true := by rw [bne_iff_ne]; omega
        generalize ovr (D j) 18014398509481982 = x at ho e1 hz
        clear hz HIN
        go_wp2
        go_ret
        exact ⟨by rw [HE.out]; rfl, HB0.out⟩
    · have d0 : decide ((j : Int) < 8) = false := dec_n (by omega)
      have HE := Lib.hid (HT.out ((HIN.out 0 (by omega)).1 rfl) fun k h1 h2 => (HIN.out k (by omega)).2 h1)
      clear HIN
      go_wp2
      go_ret
      exact ⟨by rw [HE.out]; rfl, HB0.out⟩
theorem mayOrd_any (n : Int) (b : Bool) (D : Nat → Nat) (hD : ∀ i, D i < 18446744073709551616) (w : World) : Calls Tryd.prog 23 #[ordV n b D] w fun e w' => e = .returned (.bool (ordB n b D)) ∧ Below w.heap.size w w' := by
  unfold ordB
  by_cases h0 : n = 0
  · rw [if_pos h0, h0]; exact mayOrd_zero b D hD w
  · rw [if_neg h0]
    by_cases h1 : n = 1
    · rw [if_pos h1, h1]; exact mayOrd_1 b D hD w
    · rw [if_neg h1]
      by_cases h2 : n = 2
      · rw [if_pos h2, h2]; exact mayOrd_2 b D hD w
      · rw [if_neg h2]; exact mayOrd_out n b D (by omega) w
end Go.Proofs.YtbfndcogieiejaaDoor
