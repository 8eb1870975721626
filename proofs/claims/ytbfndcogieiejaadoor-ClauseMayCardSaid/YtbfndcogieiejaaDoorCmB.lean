/- Whether an Ord may be, by the document (layer 13). -/
import Derived.Test.YtbfndcogieiejaaDoorCmA
namespace Go.Proofs.YtbfndcogieiejaaDoor
open Go.RowKit
set_option linter.unusedVariables false

/-- the eight words of an Ord -/
def c8 (D : Nat → Nat) : Array Value := #[.int .u64 (D 0 : Nat), .int .u64 (D 1 : Nat), .int .u64 (D 2 : Nat), .int .u64 (D 3 : Nat), .int .u64 (D 4 : Nat), .int .u64 (D 5 : Nat), .int .u64 (D 6 : Nat), .int .u64 (D 7 : Nat)]
def ordC (n : Int) (b : Bool) (D : Nat → Nat) : Array Value := #[.int .i64 n, .bool b, .int .u64 (D 0 : Nat), .int .u64 (D 1 : Nat), .int .u64 (D 2 : Nat), .int .u64 (D 3 : Nat), .int .u64 (D 4 : Nat), .int .u64 (D 5 : Nat), .int .u64 (D 6 : Nat), .int .u64 (D 7 : Nat)]
def ordV (n : Int) (b : Bool) (D : Nat → Nat) : Value := .agg (ordC n b D)
theorem ordC_get (n : Int) (b : Bool) (D : Nat → Nat) (j : Nat) (hj : j < 8) : (ordC n b D)[2 + j]? = some (.int .u64 (D j : Nat)) := by
  match j, hj with
  | 0, _ => rfl
  | 1, _ => rfl
  | 2, _ => rfl
  | 3, _ => rfl
  | 4, _ => rfl
  | 5, _ => rfl
  | 6, _ => rfl
  | 7, _ => rfl
def days8 (D : Nat → Nat) (hi : Int) : Bool := decide (D 0 = 0) && (List.range 8).all fun i => decide (i = 0) || bitsI (D i) 1 hi
theorem days8_iff {D : Nat → Nat} {hi : Int} : days8 D hi = true ↔ D 0 = 0 ∧ ∀ i, 1 ≤ i → i < 8 → bitsI (D i) 1 hi = true := by
  unfold days8
  rw [Bool.and_eq_true, decide_eq_true_eq, List.all_eq_true]
  refine and_congr_right fun _ => ⟨fun h i h1 h2 => ?_, fun h i hi' => ?_⟩
  · have := h i (List.mem_range.2 h2)
    rw [dec_n (show ¬ i = 0 by omega)] at this
    simpa using this
  · by_cases e : i = 0
    · rw [dec_t e]; rfl
    · rw [h i (by omega) (List.mem_range.1 hi')]; simp
theorem days8_no {D : Nat → Nat} {hi : Int} (h : ¬ (D 0 = 0 ∧ ∀ i, 1 ≤ i → i < 8 → bitsI (D i) 1 hi = true)) : days8 D hi = false := by
  cases e : days8 D hi
  · rfl
  · exact absurd (days8_iff.1 e) h
set_option maxHeartbeats 1600000 in
set_option maxRecDepth 20000 in
theorem ord13_in (n hi : Int) (b : Bool) (D : Nat → Nat) (hc : (n = 0 ∧ b = false ∧ hi = 0) ∨ (n = 1 ∧ hi = 5) ∨ (n = 2 ∧ hi = 53)) (hD : ∀ i, D i < 18446744073709551616) (w : World) : Calls Tryd.prog 28 #[ordV n b D] w fun e w' => e = .returned (.bool (days8 D hi)) ∧ Below w.heap.size w w' := by
  have KB := Lib.hid (fun (j : Nat) (W : World) => bits13_any (D j) 1 hi (hD j) W)
  have HT := Lib.hid (show D 0 = 0 → (∀ i, 1 ≤ i → i < 8 → bitsI (D i) 1 hi = true) → days8 D hi = true from fun h1 h2 => days8_iff.2 ⟨h1, h2⟩)
  have HF0 := Lib.hid (show ¬ D 0 = 0 → days8 D hi = false from fun h => days8_no fun q => h q.1)
  have HF := Lib.hid (show ∀ i, 1 ≤ i → i < 8 → bitsI (D i) 1 hi = false → days8 D hi = false from fun i h1 h2 h3 => days8_no fun q => by rw [q.2 i h1 h2] at h3; cases h3)
  have HB0 := Lib.hid (show Below w.heap.size w (w.alloc (.cells (ordC n b D) 25)) from (Below.refl _ _).alloc (Nat.le_refl _) _)
  have HG0 := Lib.hid (blk_new w (.cells (ordC n b D) 25))
  have x0 := blk_cell HG0.out 0
  have x1 := blk_cell HG0.out 1
  have x2 := blk_cell HG0.out 2
  have HX := Lib.hid (fun (j : Nat) (hj : j < 8) => (blk_cell HG0.out (2 + j)).trans (ordC_get n b D j hj))
  rw [show (ordC n b D)[0]? = some (.int .i64 n) from rfl] at x0
  rw [show (ordC n b D)[1]? = some (.bool b) from rfl] at x1
  rw [show (ordC n b D)[2]? = some (.int .u64 (D 0 : Nat)) from rfl] at x2
  generalize days8 D hi = bb at HT HF HF0 ⊢
  obtain ⟨W0, hW0⟩ : ∃ W0, w.alloc (.cells (ordC n b D) 25) = W0 := ⟨_, rfl⟩
  rw [hW0] at HB0 HG0 x0 x1 x2 HX
  unfold ordV ordC
  unfold ordC at hW0
  clear hD
  by_cases h0 : D 0 = 0
  · have z0 : ((D 0 : Nat) : Int) = 0 := by omega
    rcases hc with ⟨rfl, rfl, rfl⟩ | ⟨rfl, rfl⟩ | ⟨rfl, rfl⟩
    · clear HF0
      have HT1 := Lib.hid (HT.out h0)
      rw [z0] at x2
      clear h0 z0 HT
      go_enter Tryd.func28, Tryd.ntmps28
      go_wp2_with fail
      try rw [hW0]
      clear hW0 x0 x1 x2
      go_loop [4] (fun i => ∃ j : Nat, 1 ≤ j ∧ j ≤ 8 ∧ i = .int .i64 j ∧ Hid (∀ k, 1 ≤ k → k < j → bitsI (D k) 1 0 = true)) (fun i => 8 - (intOf i).toNat)
      case atStart => exact ⟨1, by omega, by omega, rfl, Lib.hid fun k h1 h2 => by omega⟩
      case round =>
        obtain ⟨j, hj1, hj, rfl, HIN⟩ := hrel
        by_cases h : j < 8
        · have d0 : decide ((j : Int) < 8) = true := dec_t (by omega)
          have x := HX.out j h
          have d1 : decide ((j : Int) < 0) = false := dec_n (by omega)
          cases hb : bitsI (D j) 1 0
          · have HE := Lib.hid (HF.out j hj1 h hb)
            have K := KB.out j
            rw [hb] at K
            clear hb HIN
            go_wp2_with fail
            refine (K _).mono ?_
            rintro e w' ⟨rfl, rfl⟩
            go_wp2
            go_ret
            exact ⟨by rw [HE.out]; rfl, HB0.out⟩
          · have K := KB.out j
            rw [hb] at K
            have HN := Lib.hid (show ∀ k, 1 ≤ k → k < j + 1 → bitsI (D k) 1 0 = true from fun k h1 h2 => by
              rcases Nat.lt_or_ge k j with g | g
              · exact HIN.out k h1 g
              · obtain rfl : k = j := by omega
                exact hb)
            clear hb HIN
            go_wp2_with fail
            refine (K _).mono ?_
            rintro e w' ⟨rfl, rfl⟩
            go_wp2
            go_round
            case rel => exact ⟨j + 1, by omega, by omega, by go_num, HN⟩
            case measure => simp [intOf]; omega
        · have d0 : decide ((j : Int) < 8) = false := dec_n (by omega)
          have HE := Lib.hid (HT1.out fun k h1 h2 => HIN.out k h1 (by omega))
          clear HIN
          go_wp2
          go_ret
          exact ⟨by rw [HE.out]; rfl, HB0.out⟩
    · clear HF0
      have HT1 := Lib.hid (HT.out h0)
      rw [z0] at x2
      clear h0 z0 HT
      go_enter Tryd.func28, Tryd.ntmps28
      go_wp2_with fail
      try rw [hW0]
      clear hW0 x0 x1 x2
      go_loop [4] (fun i => ∃ j : Nat, 1 ≤ j ∧ j ≤ 8 ∧ i = .int .i64 j ∧ Hid (∀ k, 1 ≤ k → k < j → bitsI (D k) 1 5 = true)) (fun i => 8 - (intOf i).toNat)
      case atStart => exact ⟨1, by omega, by omega, rfl, Lib.hid fun k h1 h2 => by omega⟩
      case round =>
        obtain ⟨j, hj1, hj, rfl, HIN⟩ := hrel
        by_cases h : j < 8
        · have d0 : decide ((j : Int) < 8) = true := dec_t (by omega)
          have x := HX.out j h
          have d1 : decide ((j : Int) < 0) = false := dec_n (by omega)
          cases hb : bitsI (D j) 1 5
          · have HE := Lib.hid (HF.out j hj1 h hb)
            have K := KB.out j
            rw [hb] at K
            clear hb HIN
            go_wp2_with fail
            refine (K _).mono ?_
            rintro e w' ⟨rfl, rfl⟩
            go_wp2
            go_ret
            exact ⟨by rw [HE.out]; rfl, HB0.out⟩
          · have K := KB.out j
            rw [hb] at K
            have HN := Lib.hid (show ∀ k, 1 ≤ k → k < j + 1 → bitsI (D k) 1 5 = true from fun k h1 h2 => by
              rcases Nat.lt_or_ge k j with g | g
              · exact HIN.out k h1 g
              · obtain rfl : k = j := by omega
                exact hb)
            clear hb HIN
            go_wp2_with fail
            refine (K _).mono ?_
            rintro e w' ⟨rfl, rfl⟩
            go_wp2
            go_round
            case rel => exact ⟨j + 1, by omega, by omega, by go_num, HN⟩
            case measure => simp [intOf]; omega
        · have d0 : decide ((j : Int) < 8) = false := dec_n (by omega)
          have HE := Lib.hid (HT1.out fun k h1 h2 => HIN.out k h1 (by omega))
          clear HIN
          go_wp2
          go_ret
          exact ⟨by rw [HE.out]; rfl, HB0.out⟩
    · clear HF0
      have HT1 := Lib.hid (HT.out h0)
      rw [z0] at x2
      clear h0 z0 HT
      go_enter Tryd.func28, Tryd.ntmps28
      go_wp2_with fail
      try rw [hW0]
      clear hW0 x0 x1 x2
      go_loop [4] (fun i => ∃ j : Nat, 1 ≤ j ∧ j ≤ 8 ∧ i = .int .i64 j ∧ Hid (∀ k, 1 ≤ k → k < j → bitsI (D k) 1 53 = true)) (fun i => 8 - (intOf i).toNat)
      case atStart => exact ⟨1, by omega, by omega, rfl, Lib.hid fun k h1 h2 => by omega⟩
      case round =>
        obtain ⟨j, hj1, hj, rfl, HIN⟩ := hrel
        by_cases h : j < 8
        · have d0 : decide ((j : Int) < 8) = true := dec_t (by omega)
          have x := HX.out j h
          have d1 : decide ((j : Int) < 0) = false := dec_n (by omega)
          cases hb : bitsI (D j) 1 53
          · have HE := Lib.hid (HF.out j hj1 h hb)
            have K := KB.out j
            rw [hb] at K
            clear hb HIN
            go_wp2_with fail
            refine (K _).mono ?_
            rintro e w' ⟨rfl, rfl⟩
            go_wp2
            go_ret
            exact ⟨by rw [HE.out]; rfl, HB0.out⟩
          · have K := KB.out j
            rw [hb] at K
            have HN := Lib.hid (show ∀ k, 1 ≤ k → k < j + 1 → bitsI (D k) 1 53 = true from fun k h1 h2 => by
              rcases Nat.lt_or_ge k j with g | g
              · exact HIN.out k h1 g
              · obtain rfl : k = j := by omega
                exact hb)
            clear hb HIN
            go_wp2_with fail
            refine (K _).mono ?_
            rintro e w' ⟨rfl, rfl⟩
            go_wp2
            go_round
            case rel => exact ⟨j + 1, by omega, by omega, by go_num, HN⟩
            case measure => simp [intOf]; omega
        · have d0 : decide ((j : Int) < 8) = false := dec_n (by omega)
          have HE := Lib.hid (HT1.out fun k h1 h2 => HIN.out k h1 (by omega))
          clear HIN
          go_wp2
          go_ret
          exact ⟨by rw [HE.out]; rfl, HB0.out⟩
  · have HE := Lib.hid (HF0.out h0)
    have z0 : (((D 0 : Nat) : Int) != 0) = true := by rw [bne_iff_ne]; omega
    have z1 : (D 0 != 0) = true := by rw [bne_iff_ne]; omega
    clear HF0 h0 HT HF HX KB
    rcases hc with ⟨rfl, rfl, rfl⟩ | ⟨rfl, rfl⟩ | ⟨rfl, rfl⟩
    all_goals
      go_enter Tryd.func28, Tryd.ntmps28
      go_wp2
      go_ret
      exact ⟨by rw [HE.out]; rfl, HB0.out⟩
end Go.Proofs.YtbfndcogieiejaaDoor
