/- The walk of UnitWhich (layer 10). -/
import Derived.Test.YtediadckcpedkaaDoorUnC
namespace Go.Proofs.YtediadckcpedkaaDoor
open Go.RowKit Civ
set_option linter.unusedVariables false

theorem TabUn.quiet {w w' : World} (h : TabUn w) (k : w = w') : TabUn w' := k ▸ h
set_option maxHeartbeats 3200000 in
set_option maxRecDepth 20000 in
theorem unit_in_yes (u : Nat) (hu : u < 7) (t : Int) (h1 : 0 ≤ t) (h2 : t < 12622780800) (i0 : Nat) (hi0 : i0 < 7) (w : World) (hT : TabUn w) :
    Calls Tryd.prog 4 #[.int .i64 (u : Int), .int .i64 t, .string (nmU i0)] w fun e w' => e = .returned (.bool true) ∧ Below w.heap.size w w' := by
  have HT := Lib.hid hT
  obtain ⟨V, hV1, hV2⟩ := both_any (u : Int) t (by omega) (by omega) h1 h2
  have K1 := hV1 w
  have K2 := fun W => rumay_in (u : Int) W (by omega) (by omega)
  have K3 := fun W => rIn_yes t W h1 (by omega)
  have K4 := fun W => usize_any (u : Int) W
  have K5 := fun W => rusize_any (u : Int) W
  generalize sz (u : Int) = S at K4 K5
  have dS : (S != S) = false := by rw [bne_eq_false_iff_eq]
  have dV : (V != V) = false := by rw [bne_eq_false_iff_eq]
  have KN := fun W hW => uname_any u hu W hW
  clear hV1
  have KO := fun W hW => uof_yes i0 hi0 W hW
  have HI := Lib.hid nmU_inj
  obtain ⟨nm, hnm⟩ : ∃ nm : Nat → ByteArray, nmU = nm := ⟨_, rfl⟩
  have KNA := fun W => rnames_any W
  rw [hnm] at HI KO KNA
  try rw [hnm] at KN
  rw [hnm]
  clear hnm
  clear hT
  go_enter Tryd.func4, Tryd.ntmps4
  go_wp2_with fail
  refine K1.mono ?_
  rintro e w1 ⟨rfl, hb1⟩
  have HB1 := Lib.hid hb1
  clear K1 hb1
  go_wp2_with fail
  refine (K2 _).mono ?_
  rintro e w' ⟨rfl, rfl⟩
  go_wp2_with fail
  refine (K3 _).mono ?_
  rintro e w' ⟨rfl, rfl⟩
  go_wp2_with fail
  refine (hV2 _).mono ?_
  rintro e w2 ⟨rfl, hb2⟩
  have HB2 := Lib.hid (HB1.out.trans (hb2.mono HB1.out.size))
  clear hV2 hb2
  go_wp2_with fail
  refine (K4 _).mono ?_
  rintro e w' ⟨rfl, rfl⟩
  go_wp2_with fail
  refine (K5 _).mono ?_
  rintro e w' ⟨rfl, rfl⟩
  clear K4 K5
  go_wp2_with fail
  refine (KNA _).mono ?_
  rintro e w3 ⟨A, c, rfl, hat, hb3⟩
  have HB3 := Lib.hid (HB2.out.trans (hb3.mono HB2.out.size))
  obtain ⟨B, rfl, hBl, hcell⟩ := hat
  have HC := Lib.hid hcell
  clear KNA hb3 hcell
  have cu := HC.out u hu
  have iu0 : (0 : Int) ≤ (u : Int) := by omega
  have iu1 : (u : Int) < 7 := by omega
  go_wp2_with fail
  refine (K2 _).mono ?_
  rintro e w' ⟨rfl, rfl⟩
  clear K2
  go_wp2
  clear cu
  go_loop [12, 13] (fun x i => ∃ k : Nat, k ≤ 7 ∧ i = .int .i64 k ∧ x = .int .i64 (if i0 < k then (i0 : Int) else -1)) (fun _ i => 7 - (intOf i).toNat)
  case atStart => exact ⟨0, Nat.zero_le _, rfl, by simp⟩
  case round =>
    obtain ⟨k, hk, rfl, rfl⟩ := hrel
    by_cases hlt : k < 7
    · have ck := HC.out k hlt
      have dk : decide ((k : Int) < 7) = true := dec_t (by omega)
      have ik0 : (0 : Int) ≤ (k : Int) := by omega
      have ik1 : (k : Int) < 7 := by omega
      by_cases h : k = i0
      · subst h
        have hb := beq_yes (rfl : nm k = nm k)
        have HX := Lib.hid (show (if k < k + 1 then (k : Int) else -1) = (k : Int) from if_pos (by omega))
        generalize (if k < k then (k : Int) else -1) = z
        go_wp2
        go_round
        case rel => exact ⟨k + 1, by omega, by go_num, by rw [HX.out]⟩
        case measure => simp [intOf]; omega
      · have hb := beq_no (show nm k ≠ nm i0 from fun e => h (HI.out k i0 hlt hi0 e))
        have HX := Lib.hid (show (if i0 < k + 1 then (i0 : Int) else -1) = (if i0 < k then (i0 : Int) else -1) by
          by_cases g : i0 < k
          · rw [if_pos g, if_pos (by omega)]
          · rw [if_neg g, if_neg (by omega)])
        clear h
        generalize (if i0 < k then (i0 : Int) else -1) = z at HX ⊢
        go_wp2
        go_round
        case rel => exact ⟨k + 1, by omega, by go_num, by rw [HX.out]⟩
        case measure => simp [intOf]; omega
    · obtain rfl : k = 7 := by omega
      rw [if_pos hi0]
      have dz : decide ((0 : Int) ≤ (i0 : Int)) = true := dec_t (by omega)
      have dmx : max (0 : Int) (i0 : Int) = (i0 : Int) := by omega
      have de : ((i0 : Int) == (i0 : Int)) = true := by rw [beq_iff_eq]
      have hbn := beq_yes (rfl : nm u = nm u)
      have HT3 := HT.out.below HB3.out
      go_wp2_with fail
      refine (KO _ HT3).mono ?_
      rintro e w' ⟨rfl, rfl⟩
      clear KO
      go_wp2_with fail
      refine (KN _ HT3).mono ?_
      rintro e w' ⟨rfl, rfl⟩
      clear KN
      go_wp2_with fail
      all_goals (
        refine (lives10_any _).mono ?_
        rintro e w4 ⟨rfl, hb4⟩
        go_wp2
        go_ret
        first
          | exact ⟨rfl, HB3.out.trans (hb4.mono HB3.out.size)⟩
          | exact ⟨ret_bool (by rw [beq_iff_eq]; omega), HB3.out.trans (hb4.mono HB3.out.size)⟩)
set_option maxHeartbeats 3200000 in
set_option maxRecDepth 20000 in
theorem unit_in_no (u : Nat) (hu : u < 7) (t : Int) (h1 : 0 ≤ t) (h2 : t < 12622780800) (s : ByteArray) (hs : ∀ i, i < 7 → nmU i ≠ s) (w : World) (hT : TabUn w) :
    Calls Tryd.prog 4 #[.int .i64 (u : Int), .int .i64 t, .string (s)] w fun e w' => e = .returned (.bool true) ∧ Below w.heap.size w w' := by
  have HT := Lib.hid hT
  obtain ⟨V, hV1, hV2⟩ := both_any (u : Int) t (by omega) (by omega) h1 h2
  have K1 := hV1 w
  have K2 := fun W => rumay_in (u : Int) W (by omega) (by omega)
  have K3 := fun W => rIn_yes t W h1 (by omega)
  have K4 := fun W => usize_any (u : Int) W
  have K5 := fun W => rusize_any (u : Int) W
  generalize sz (u : Int) = S at K4 K5
  have dS : (S != S) = false := by rw [bne_eq_false_iff_eq]
  have dV : (V != V) = false := by rw [bne_eq_false_iff_eq]
  have KN := fun W hW => uname_any u hu W hW
  clear hV1
  have KO := fun W hW => uof_no s hs W hW
  have HI := Lib.hid hs
  obtain ⟨nm, hnm⟩ : ∃ nm : Nat → ByteArray, nmU = nm := ⟨_, rfl⟩
  have KNA := fun W => rnames_any W
  rw [hnm] at HI KNA
  try rw [hnm] at KN
  clear hnm hs
  clear hT
  go_enter Tryd.func4, Tryd.ntmps4
  go_wp2_with fail
  refine K1.mono ?_
  rintro e w1 ⟨rfl, hb1⟩
  have HB1 := Lib.hid hb1
  clear K1 hb1
  go_wp2_with fail
  refine (K2 _).mono ?_
  rintro e w' ⟨rfl, rfl⟩
  go_wp2_with fail
  refine (K3 _).mono ?_
  rintro e w' ⟨rfl, rfl⟩
  go_wp2_with fail
  refine (hV2 _).mono ?_
  rintro e w2 ⟨rfl, hb2⟩
  have HB2 := Lib.hid (HB1.out.trans (hb2.mono HB1.out.size))
  clear hV2 hb2
  go_wp2_with fail
  refine (K4 _).mono ?_
  rintro e w' ⟨rfl, rfl⟩
  go_wp2_with fail
  refine (K5 _).mono ?_
  rintro e w' ⟨rfl, rfl⟩
  clear K4 K5
  go_wp2_with fail
  refine (KNA _).mono ?_
  rintro e w3 ⟨A, c, rfl, hat, hb3⟩
  have HB3 := Lib.hid (HB2.out.trans (hb3.mono HB2.out.size))
  obtain ⟨B, rfl, hBl, hcell⟩ := hat
  have HC := Lib.hid hcell
  clear KNA hb3 hcell
  have cu := HC.out u hu
  have iu0 : (0 : Int) ≤ (u : Int) := by omega
  have iu1 : (u : Int) < 7 := by omega
  go_wp2_with fail
  refine (K2 _).mono ?_
  rintro e w' ⟨rfl, rfl⟩
  clear K2
  go_wp2
  clear cu
  go_loop [12, 13] (fun x i => ∃ k : Nat, k ≤ 7 ∧ i = .int .i64 k ∧ x = .int .i64 (-1)) (fun _ i => 7 - (intOf i).toNat)
  case atStart => exact ⟨0, Nat.zero_le _, rfl, by simp⟩
  case round =>
    obtain ⟨k, hk, rfl, rfl⟩ := hrel
    by_cases hlt : k < 7
    · have ck := HC.out k hlt
      have dk : decide ((k : Int) < 7) = true := dec_t (by omega)
      have ik0 : (0 : Int) ≤ (k : Int) := by omega
      have ik1 : (k : Int) < 7 := by omega
      have hb := beq_no (HI.out k hlt)
      go_wp2
      go_round
      case rel => exact ⟨k + 1, by omega, by go_num, rfl⟩
      case measure => simp [intOf]; omega
    · obtain rfl : k = 7 := by omega
      have hbn := beq_yes (rfl : nm u = nm u)
      have HT3 := HT.out.below HB3.out
      go_wp2_with fail
      refine (KO _ HT3).mono ?_
      rintro e w' ⟨rfl, rfl⟩
      clear KO
      go_wp2_with fail
      refine (KN _ HT3).mono ?_
      rintro e w' ⟨rfl, rfl⟩
      clear KN
      go_wp2_with fail
      all_goals (
        refine (lives10_any _).mono ?_
        rintro e w4 ⟨rfl, hb4⟩
        go_wp2
        go_ret
        first
          | exact ⟨rfl, HB3.out.trans (hb4.mono HB3.out.size)⟩
          | exact ⟨ret_bool (by rw [beq_iff_eq]; omega), HB3.out.trans (hb4.mono HB3.out.size)⟩)
set_option maxHeartbeats 3200000 in
set_option maxRecDepth 20000 in
theorem unit_t_yes (u : Nat) (hu : u < 7) (t : Int) (ht : t < 0 ∨ 12622780800 ≤ t) (i0 : Nat) (hi0 : i0 < 7) (w : World) (hT : TabUn w) :
    Calls Tryd.prog 4 #[.int .i64 (u : Int), .int .i64 t, .string (nmU i0)] w fun e w' => e = .returned (.bool true) ∧ Below w.heap.size w w' := by
  have HT := Lib.hid hT
  have K1 := uwhich_t (u : Int) t w ht
  have K2 := fun W => rumay_in (u : Int) W (by omega) (by omega)
  have K3 := fun W => rIn_no t W ht
  have K4 := fun W => usize_any (u : Int) W
  have K5 := fun W => rusize_any (u : Int) W
  generalize sz (u : Int) = S at K4 K5
  have dS : (S != S) = false := by rw [bne_eq_false_iff_eq]
  have KN := fun W hW => uname_any u hu W hW
  clear ht
  have KO := fun W hW => uof_yes i0 hi0 W hW
  have HI := Lib.hid nmU_inj
  obtain ⟨nm, hnm⟩ : ∃ nm : Nat → ByteArray, nmU = nm := ⟨_, rfl⟩
  have KNA := fun W => rnames_any W
  rw [hnm] at HI KO KNA
  try rw [hnm] at KN
  rw [hnm]
  clear hnm
  clear hT
  go_enter Tryd.func4, Tryd.ntmps4
  go_wp2_with fail
  refine K1.mono ?_
  rintro e w2 ⟨rfl, hb1⟩
  have HB2 := Lib.hid hb1
  clear K1 hb1
  go_wp2_with fail
  refine (K2 _).mono ?_
  rintro e w' ⟨rfl, rfl⟩
  go_wp2_with fail
  refine (K3 _).mono ?_
  rintro e w' ⟨rfl, rfl⟩
  go_wp2_with fail
  refine (K4 _).mono ?_
  rintro e w' ⟨rfl, rfl⟩
  go_wp2_with fail
  refine (K5 _).mono ?_
  rintro e w' ⟨rfl, rfl⟩
  clear K4 K5
  go_wp2_with fail
  refine (KNA _).mono ?_
  rintro e w3 ⟨A, c, rfl, hat, hb3⟩
  have HB3 := Lib.hid (HB2.out.trans (hb3.mono HB2.out.size))
  obtain ⟨B, rfl, hBl, hcell⟩ := hat
  have HC := Lib.hid hcell
  clear KNA hb3 hcell
  have cu := HC.out u hu
  have iu0 : (0 : Int) ≤ (u : Int) := by omega
  have iu1 : (u : Int) < 7 := by omega
  go_wp2_with fail
  refine (K2 _).mono ?_
  rintro e w' ⟨rfl, rfl⟩
  clear K2
  go_wp2
  clear cu
  go_loop [12, 13] (fun x i => ∃ k : Nat, k ≤ 7 ∧ i = .int .i64 k ∧ x = .int .i64 (if i0 < k then (i0 : Int) else -1)) (fun _ i => 7 - (intOf i).toNat)
  case atStart => exact ⟨0, Nat.zero_le _, rfl, by simp⟩
  case round =>
    obtain ⟨k, hk, rfl, rfl⟩ := hrel
    by_cases hlt : k < 7
    · have ck := HC.out k hlt
      have dk : decide ((k : Int) < 7) = true := dec_t (by omega)
      have ik0 : (0 : Int) ≤ (k : Int) := by omega
      have ik1 : (k : Int) < 7 := by omega
      by_cases h : k = i0
      · subst h
        have hb := beq_yes (rfl : nm k = nm k)
        have HX := Lib.hid (show (if k < k + 1 then (k : Int) else -1) = (k : Int) from if_pos (by omega))
        generalize (if k < k then (k : Int) else -1) = z
        go_wp2
        go_round
        case rel => exact ⟨k + 1, by omega, by go_num, by rw [HX.out]⟩
        case measure => simp [intOf]; omega
      · have hb := beq_no (show nm k ≠ nm i0 from fun e => h (HI.out k i0 hlt hi0 e))
        have HX := Lib.hid (show (if i0 < k + 1 then (i0 : Int) else -1) = (if i0 < k then (i0 : Int) else -1) by
          by_cases g : i0 < k
          · rw [if_pos g, if_pos (by omega)]
          · rw [if_neg g, if_neg (by omega)])
        clear h
        generalize (if i0 < k then (i0 : Int) else -1) = z at HX ⊢
        go_wp2
        go_round
        case rel => exact ⟨k + 1, by omega, by go_num, by rw [HX.out]⟩
        case measure => simp [intOf]; omega
    · obtain rfl : k = 7 := by omega
      rw [if_pos hi0]
      have dz : decide ((0 : Int) ≤ (i0 : Int)) = true := dec_t (by omega)
      have dmx : max (0 : Int) (i0 : Int) = (i0 : Int) := by omega
      have de : ((i0 : Int) == (i0 : Int)) = true := by rw [beq_iff_eq]
      have hbn := beq_yes (rfl : nm u = nm u)
      have HT3 := HT.out.below HB3.out
      go_wp2_with fail
      refine (KO _ HT3).mono ?_
      rintro e w' ⟨rfl, rfl⟩
      clear KO
      go_wp2_with fail
      refine (KN _ HT3).mono ?_
      rintro e w' ⟨rfl, rfl⟩
      clear KN
      go_wp2_with fail
      all_goals (
        refine (lives10_any _).mono ?_
        rintro e w4 ⟨rfl, hb4⟩
        go_wp2
        go_ret
        first
          | exact ⟨rfl, HB3.out.trans (hb4.mono HB3.out.size)⟩
          | exact ⟨ret_bool (by rw [beq_iff_eq]; omega), HB3.out.trans (hb4.mono HB3.out.size)⟩)
set_option maxHeartbeats 3200000 in
set_option maxRecDepth 20000 in
theorem unit_t_no (u : Nat) (hu : u < 7) (t : Int) (ht : t < 0 ∨ 12622780800 ≤ t) (s : ByteArray) (hs : ∀ i, i < 7 → nmU i ≠ s) (w : World) (hT : TabUn w) :
    Calls Tryd.prog 4 #[.int .i64 (u : Int), .int .i64 t, .string (s)] w fun e w' => e = .returned (.bool true) ∧ Below w.heap.size w w' := by
  have HT := Lib.hid hT
  have K1 := uwhich_t (u : Int) t w ht
  have K2 := fun W => rumay_in (u : Int) W (by omega) (by omega)
  have K3 := fun W => rIn_no t W ht
  have K4 := fun W => usize_any (u : Int) W
  have K5 := fun W => rusize_any (u : Int) W
  generalize sz (u : Int) = S at K4 K5
  have dS : (S != S) = false := by rw [bne_eq_false_iff_eq]
  have KN := fun W hW => uname_any u hu W hW
  clear ht
  have KO := fun W hW => uof_no s hs W hW
  have HI := Lib.hid hs
  obtain ⟨nm, hnm⟩ : ∃ nm : Nat → ByteArray, nmU = nm := ⟨_, rfl⟩
  have KNA := fun W => rnames_any W
  rw [hnm] at HI KNA
  try rw [hnm] at KN
  clear hnm hs
  clear hT
  go_enter Tryd.func4, Tryd.ntmps4
  go_wp2_with fail
  refine K1.mono ?_
  rintro e w2 ⟨rfl, hb1⟩
  have HB2 := Lib.hid hb1
  clear K1 hb1
  go_wp2_with fail
  refine (K2 _).mono ?_
  rintro e w' ⟨rfl, rfl⟩
  go_wp2_with fail
  refine (K3 _).mono ?_
  rintro e w' ⟨rfl, rfl⟩
  go_wp2_with fail
  refine (K4 _).mono ?_
  rintro e w' ⟨rfl, rfl⟩
  go_wp2_with fail
  refine (K5 _).mono ?_
  rintro e w' ⟨rfl, rfl⟩
  clear K4 K5
  go_wp2_with fail
  refine (KNA _).mono ?_
  rintro e w3 ⟨A, c, rfl, hat, hb3⟩
  have HB3 := Lib.hid (HB2.out.trans (hb3.mono HB2.out.size))
  obtain ⟨B, rfl, hBl, hcell⟩ := hat
  have HC := Lib.hid hcell
  clear KNA hb3 hcell
  have cu := HC.out u hu
  have iu0 : (0 : Int) ≤ (u : Int) := by omega
  have iu1 : (u : Int) < 7 := by omega
  go_wp2_with fail
  refine (K2 _).mono ?_
  rintro e w' ⟨rfl, rfl⟩
  clear K2
  go_wp2
  clear cu
  go_loop [12, 13] (fun x i => ∃ k : Nat, k ≤ 7 ∧ i = .int .i64 k ∧ x = .int .i64 (-1)) (fun _ i => 7 - (intOf i).toNat)
  case atStart => exact ⟨0, Nat.zero_le _, rfl, by simp⟩
  case round =>
    obtain ⟨k, hk, rfl, rfl⟩ := hrel
    by_cases hlt : k < 7
    · have ck := HC.out k hlt
      have dk : decide ((k : Int) < 7) = true := dec_t (by omega)
      have ik0 : (0 : Int) ≤ (k : Int) := by omega
      have ik1 : (k : Int) < 7 := by omega
      have hb := beq_no (HI.out k hlt)
      go_wp2
      go_round
      case rel => exact ⟨k + 1, by omega, by go_num, rfl⟩
      case measure => simp [intOf]; omega
    · obtain rfl : k = 7 := by omega
      have hbn := beq_yes (rfl : nm u = nm u)
      have HT3 := HT.out.below HB3.out
      go_wp2_with fail
      refine (KO _ HT3).mono ?_
      rintro e w' ⟨rfl, rfl⟩
      clear KO
      go_wp2_with fail
      refine (KN _ HT3).mono ?_
      rintro e w' ⟨rfl, rfl⟩
      clear KN
      go_wp2_with fail
      all_goals (
        refine (lives10_any _).mono ?_
        rintro e w4 ⟨rfl, hb4⟩
        go_wp2
        go_ret
        first
          | exact ⟨rfl, HB3.out.trans (hb4.mono HB3.out.size)⟩
          | exact ⟨ret_bool (by rw [beq_iff_eq]; omega), HB3.out.trans (hb4.mono HB3.out.size)⟩)
set_option maxHeartbeats 3200000 in
set_option maxRecDepth 20000 in
theorem unit_u_yes (u : Int) (hu : u < 0 ∨ 7 ≤ u) (t : Int) (i0 : Nat) (hi0 : i0 < 7) (w : World) (hT : TabUn w) :
    Calls Tryd.prog 4 #[.int .i64 u, .int .i64 t, .string (nmU i0)] w fun e w' => e = .returned (.bool true) ∧ Below w.heap.size w w' := by
  have HT := Lib.hid hT
  have K1 : Calls Tryd.prog 13 #[.int .i64 u, .int .i64 t] w fun e w' => e = .returned (.tuple #[.int .i64 0, .bool false]) ∧ Below w.heap.size w w' := by
    by_cases h : t < 0 ∨ 12622780800 ≤ t
    · exact uwhich_t u t w h
    · exact uwhich_u u t w (by omega) (by omega) hu
  have K2 := fun W => rumay_out u W hu
  have K4 := fun W => usize_any u W
  have K5 := fun W => rusize_any u W
  generalize sz u = S at K4 K5
  have dS : (S != S) = false := by rw [bne_eq_false_iff_eq]
  have KN := fun W (hW : TabUn W) => uname_no u hu W
  clear hu
  have KO := fun W hW => uof_yes i0 hi0 W hW
  have HI := Lib.hid nmU_inj
  obtain ⟨nm, hnm⟩ : ∃ nm : Nat → ByteArray, nmU = nm := ⟨_, rfl⟩
  have KNA := fun W => rnames_any W
  rw [hnm] at HI KO KNA
  try rw [hnm] at KN
  rw [hnm]
  clear hnm
  clear hT
  go_enter Tryd.func4, Tryd.ntmps4
  go_wp2_with fail
  refine K1.mono ?_
  rintro e w2 ⟨rfl, hb1⟩
  have HB2 := Lib.hid hb1
  clear K1 hb1
  go_wp2_with fail
  refine (K2 _).mono ?_
  rintro e w' ⟨rfl, rfl⟩
  go_wp2_with fail
  refine (K4 _).mono ?_
  rintro e w' ⟨rfl, rfl⟩
  go_wp2_with fail
  refine (K5 _).mono ?_
  rintro e w' ⟨rfl, rfl⟩
  clear K4 K5
  go_wp2_with fail
  refine (KNA _).mono ?_
  rintro e w3 ⟨A, c, rfl, hat, hb3⟩
  have HB3 := Lib.hid (HB2.out.trans (hb3.mono HB2.out.size))
  obtain ⟨B, rfl, hBl, hcell⟩ := hat
  have HC := Lib.hid hcell
  clear KNA hb3 hcell
  go_wp2_with fail
  refine (K2 _).mono ?_
  rintro e w' ⟨rfl, rfl⟩
  clear K2
  go_wp2
  go_loop [12, 13] (fun x i => ∃ k : Nat, k ≤ 7 ∧ i = .int .i64 k ∧ x = .int .i64 (if i0 < k then (i0 : Int) else -1)) (fun _ i => 7 - (intOf i).toNat)
  case atStart => exact ⟨0, Nat.zero_le _, rfl, by simp⟩
  case round =>
    obtain ⟨k, hk, rfl, rfl⟩ := hrel
    by_cases hlt : k < 7
    · have ck := HC.out k hlt
      have dk : decide ((k : Int) < 7) = true := dec_t (by omega)
      have ik0 : (0 : Int) ≤ (k : Int) := by omega
      have ik1 : (k : Int) < 7 := by omega
      by_cases h : k = i0
      · subst h
        have hb := beq_yes (rfl : nm k = nm k)
        have HX := Lib.hid (show (if k < k + 1 then (k : Int) else -1) = (k : Int) from if_pos (by omega))
        generalize (if k < k then (k : Int) else -1) = z
        go_wp2
        go_round
        case rel => exact ⟨k + 1, by omega, by go_num, by rw [HX.out]⟩
        case measure => simp [intOf]; omega
      · have hb := beq_no (show nm k ≠ nm i0 from fun e => h (HI.out k i0 hlt hi0 e))
        have HX := Lib.hid (show (if i0 < k + 1 then (i0 : Int) else -1) = (if i0 < k then (i0 : Int) else -1) by
          by_cases g : i0 < k
          · rw [if_pos g, if_pos (by omega)]
          · rw [if_neg g, if_neg (by omega)])
        clear h
        generalize (if i0 < k then (i0 : Int) else -1) = z at HX ⊢
        go_wp2
        go_round
        case rel => exact ⟨k + 1, by omega, by go_num, by rw [HX.out]⟩
        case measure => simp [intOf]; omega
    · obtain rfl : k = 7 := by omega
      rw [if_pos hi0]
      have dz : decide ((0 : Int) ≤ (i0 : Int)) = true := dec_t (by omega)
      have dmx : max (0 : Int) (i0 : Int) = (i0 : Int) := by omega
      have de : ((i0 : Int) == (i0 : Int)) = true := by rw [beq_iff_eq]
      have hbn := beq_yes (rfl : (⟨#[]⟩ : ByteArray) = (⟨#[]⟩ : ByteArray))
      have HT3 := HT.out.below HB3.out
      go_wp2_with fail
      refine (KO _ HT3).mono ?_
      rintro e w' ⟨rfl, rfl⟩
      clear KO
      go_wp2_with fail
      refine (KN _ HT3).mono ?_
      rintro e w' ⟨rfl, rfl⟩
      clear KN
      go_wp2_with fail
      all_goals (
        refine (lives10_any _).mono ?_
        rintro e w4 ⟨rfl, hb4⟩
        go_wp2
        go_ret
        first
          | exact ⟨rfl, HB3.out.trans (hb4.mono HB3.out.size)⟩
          | exact ⟨ret_bool (by rw [beq_iff_eq]; omega), HB3.out.trans (hb4.mono HB3.out.size)⟩)
set_option maxHeartbeats 3200000 in
set_option maxRecDepth 20000 in
theorem unit_u_no (u : Int) (hu : u < 0 ∨ 7 ≤ u) (t : Int) (s : ByteArray) (hs : ∀ i, i < 7 → nmU i ≠ s) (w : World) (hT : TabUn w) :
    Calls Tryd.prog 4 #[.int .i64 u, .int .i64 t, .string (s)] w fun e w' => e = .returned (.bool true) ∧ Below w.heap.size w w' := by
  have HT := Lib.hid hT
  have K1 : Calls Tryd.prog 13 #[.int .i64 u, .int .i64 t] w fun e w' => e = .returned (.tuple #[.int .i64 0, .bool false]) ∧ Below w.heap.size w w' := by
    by_cases h : t < 0 ∨ 12622780800 ≤ t
    · exact uwhich_t u t w h
    · exact uwhich_u u t w (by omega) (by omega) hu
  have K2 := fun W => rumay_out u W hu
  have K4 := fun W => usize_any u W
  have K5 := fun W => rusize_any u W
  generalize sz u = S at K4 K5
  have dS : (S != S) = false := by rw [bne_eq_false_iff_eq]
  have KN := fun W (hW : TabUn W) => uname_no u hu W
  clear hu
  have KO := fun W hW => uof_no s hs W hW
  have HI := Lib.hid hs
  obtain ⟨nm, hnm⟩ : ∃ nm : Nat → ByteArray, nmU = nm := ⟨_, rfl⟩
  have KNA := fun W => rnames_any W
  rw [hnm] at HI KNA
  try rw [hnm] at KN
  clear hnm hs
  clear hT
  go_enter Tryd.func4, Tryd.ntmps4
  go_wp2_with fail
  refine K1.mono ?_
  rintro e w2 ⟨rfl, hb1⟩
  have HB2 := Lib.hid hb1
  clear K1 hb1
  go_wp2_with fail
  refine (K2 _).mono ?_
  rintro e w' ⟨rfl, rfl⟩
  go_wp2_with fail
  refine (K4 _).mono ?_
  rintro e w' ⟨rfl, rfl⟩
  go_wp2_with fail
  refine (K5 _).mono ?_
  rintro e w' ⟨rfl, rfl⟩
  clear K4 K5
  go_wp2_with fail
  refine (KNA _).mono ?_
  rintro e w3 ⟨A, c, rfl, hat, hb3⟩
  have HB3 := Lib.hid (HB2.out.trans (hb3.mono HB2.out.size))
  obtain ⟨B, rfl, hBl, hcell⟩ := hat
  have HC := Lib.hid hcell
  clear KNA hb3 hcell
  go_wp2_with fail
  refine (K2 _).mono ?_
  rintro e w' ⟨rfl, rfl⟩
  clear K2
  go_wp2
  go_loop [12, 13] (fun x i => ∃ k : Nat, k ≤ 7 ∧ i = .int .i64 k ∧ x = .int .i64 (-1)) (fun _ i => 7 - (intOf i).toNat)
  case atStart => exact ⟨0, Nat.zero_le _, rfl, by simp⟩
  case round =>
    obtain ⟨k, hk, rfl, rfl⟩ := hrel
    by_cases hlt : k < 7
    · have ck := HC.out k hlt
      have dk : decide ((k : Int) < 7) = true := dec_t (by omega)
      have ik0 : (0 : Int) ≤ (k : Int) := by omega
      have ik1 : (k : Int) < 7 := by omega
      have hb := beq_no (HI.out k hlt)
      go_wp2
      go_round
      case rel => exact ⟨k + 1, by omega, by go_num, rfl⟩
      case measure => simp [intOf]; omega
    · obtain rfl : k = 7 := by omega
      have hbn := beq_yes (rfl : (⟨#[]⟩ : ByteArray) = (⟨#[]⟩ : ByteArray))
      have HT3 := HT.out.below HB3.out
      go_wp2_with fail
      refine (KO _ HT3).mono ?_
      rintro e w' ⟨rfl, rfl⟩
      clear KO
      go_wp2_with fail
      refine (KN _ HT3).mono ?_
      rintro e w' ⟨rfl, rfl⟩
      clear KN
      go_wp2_with fail
      all_goals (
        refine (lives10_any _).mono ?_
        rintro e w4 ⟨rfl, hb4⟩
        go_wp2
        go_ret
        first
          | exact ⟨rfl, HB3.out.trans (hb4.mono HB3.out.size)⟩
          | exact ⟨ret_bool (by rw [beq_iff_eq]; omega), HB3.out.trans (hb4.mono HB3.out.size)⟩)
theorem unitWhich_walk (u t : Int) (s : ByteArray) (w : World) (wu : (Lit.int .i64 u).wf = true) (wt : (Lit.int .i64 t).wf = true) (ws : s.size ≤ maxLen) (hT : TabUn w) :
    Calls Tryd.prog 4 #[.int .i64 u, .int .i64 t, .string s] w fun e w' => e = .returned (.bool true) ∧ Below w.heap.size w w' := by
  by_cases hu : u < 0 ∨ 7 ≤ u
  · by_cases hs : ∃ i0, i0 < 7 ∧ nmU i0 = s
    · obtain ⟨i0, hi0, rfl⟩ := hs
      exact unit_u_yes u hu t i0 hi0 w hT
    · exact unit_u_no u hu t s (fun i hi e => hs ⟨i, hi, e⟩) w hT
  · obtain ⟨k, rfl⟩ : ∃ k : Nat, u = (k : Int) := ⟨u.toNat, by omega⟩
    have hk : k < 7 := by omega
    by_cases ht : t < 0 ∨ 12622780800 ≤ t
    · by_cases hs : ∃ i0, i0 < 7 ∧ nmU i0 = s
      · obtain ⟨i0, hi0, rfl⟩ := hs
        exact unit_t_yes k hk t ht i0 hi0 w hT
      · exact unit_t_no k hk t ht s (fun i hi e => hs ⟨i, hi, e⟩) w hT
    · by_cases hs : ∃ i0, i0 < 7 ∧ nmU i0 = s
      · obtain ⟨i0, hi0, rfl⟩ := hs
        exact unit_in_yes k hk t (by omega) (by omega) i0 hi0 w hT
      · exact unit_in_no k hk t (by omega) (by omega) s (fun i hi e => hs ⟨i, hi, e⟩) w hT
end Go.Proofs.YtediadckcpedkaaDoor
