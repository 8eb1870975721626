/- The walk of WeekNames (layer 6). -/
import Derived.Test.YtediadckcpedkaaDoorWnC
import Derived.Test.YtediadckcpedkaaDoorWalk06
import Derived.Deep.RegionHeld3
import Derived.LoopTactic
import Derived.BigRegion
namespace Go.Proofs.YtediadckcpedkaaDoor
open Go.RowKit Civ
set_option linter.unusedVariables false

theorem wn_reg {W0 X : World} {P : Prop} (H : Below W0.heap.size W0 X ∧ P) : Below W0.heap.size W0 X := H.1
theorem keepWn {W0 X Y : World} {g k : Nat} {p : Value} (hg : g < W0.heap.size) (hb : Below X.heap.size X Y)
    (H : Below W0.heap.size W0 X ∧ X.cell? ⟨g, k, none⟩ = some p) : Below W0.heap.size W0 Y ∧ Y.cell? ⟨g, k, none⟩ = some p := by
  obtain ⟨h1, u⟩ := H
  have hz := h1.size
  exact ⟨h1.trans (hb.mono h1.size), (hb.cell (p := ⟨g, k, none⟩) (by show g < _; omega)).trans u⟩
set_option maxHeartbeats 3200000 in
set_option maxRecDepth 100000 in
theorem wn_in_yes (d : Int) (h1 : 1 ≤ d) (h2 : d ≤ 7) (s : ByteArray) (hz : s.size ≤ 140737488351232) (i0 : Nat) (hi0 : i0 < 7) (hs : low (nmW i0) = low s) (w : World) (hT : TabWk w) :
    Calls Tryd.prog 3 #[.int .i64 d, .string s] w fun e w' => e = .returned (.bool true) ∧ Below w.heap.size w w' := by
  have HT := Lib.hid hT
  have KNA := fun W => rwnames_any W
  have KS1 : ∀ W, Calls Tryd.prog 9 #[.string s] W fun e w' => e = .returned (.string (low s)) ∧ Below W.heap.size W w' := fun W => rsmall_any s W hz
  have KS2 := Lib.hid (show ∀ k, k < 7 → ∀ W, Calls Tryd.prog 9 #[.string (nmW k)] W fun e w' => e = .returned (.string (low (nmW k))) ∧ Below W.heap.size W w' from fun k hk W => rsmall_any (nmW k) W (by rw [nmW_size k hk]; omega))
  have KO := fun W hW => wof_yes i0 hi0 s hs W hW
  have HNE := Lib.hid (show ∀ k, k < 7 → k ≠ i0 → low s ≠ low (nmW k) from fun k hk h e => h (nmW_low k i0 hk hi0 (hs.trans e).symm))
  have HEQ := Lib.hid hs.symm
  have KB : ∀ W, TabWk W → Calls Tryd.prog 10 #[.string (nmW (d.toNat - 1))] W fun e w' => e = .returned (.tuple #[.int .i64 d, .bool true]) ∧ Below W.heap.size W w' := fun W hW => by
    have h := wof_yes (d.toNat - 1) (by omega) (nmW (d.toNat - 1)) rfl W hW
    rw [show (((d.toNat - 1 : Nat) : Int) + 1) = d by omega] at h
    exact h
  have KN := fun W hW => wname_any d h1 h2 W hW
  have hwe : ((nmW (d.toNat - 1)).toList == (⟨#[]⟩ : ByteArray).toList) = false := beq_no fun e => by
    have h := congrArg ByteArray.size e
    rw [nmW_size _ (by omega)] at h
    cases h
  have dd1 : decide (1 ≤ d) = true := dec_t h1
  have dd2 : decide (d ≤ 7) = true := dec_t h2
  have hd0 : (0 : Int) ≤ d - 1 := by omega
  have hd7 : d - 1 < 7 := by omega
  have HDN := Lib.hid (show d.toNat - 1 < 7 by omega)
  have dde : (d == d) = true := by rw [beq_iff_eq]
  obtain ⟨lw, hlw⟩ : ∃ f : ByteArray → ByteArray, low = f := ⟨_, rfl⟩
  obtain ⟨nm, hnm⟩ : ∃ nm : Nat → ByteArray, nmW = nm := ⟨_, rfl⟩
  rw [hlw, hnm] at HNE KS2
  rw [hlw] at KS1
  rw [hnm] at KNA KB KN hwe
  rw [hlw, hnm] at HEQ
  clear hlw hnm hT hs hz
  go_enter Tryd.func3, Tryd.ntmps3
  go_wp2_with fail
  refine (KNA _).mono ?_
  rintro e W0 ⟨A, c, rfl, hat, hb3⟩
  have HB0 := Lib.hid hb3
  obtain ⟨B, rfl, hBl, hcell⟩ := hat
  have HC := Lib.hid hcell
  clear KNA hb3 hcell
  have cd := HC.out (d.toNat - 1) HDN.out
  go_wp2
  clear cd
  go_loopw [7, 8] (fun x i wr => ∃ k : Nat, k ≤ 7 ∧ i = .int .i64 k ∧ x = .int .i64 (if i0 < k then (i0 : Int) + 1 else 0) ∧ Below W0.heap.size W0 wr) (fun _ i _ => 7 - (intOf i).toNat)
  case atStart => exact ⟨0, Nat.zero_le _, rfl, by simp, Below.refl _ _⟩
  case round =>
    obtain ⟨k, hk, rfl, rfl, hb⟩ := hrel
    have HB := Lib.hid hb
    clear hb
    by_cases hlt : k < 7
    · have hBw : B < wr.heap.size := Nat.lt_of_lt_of_le hBl HB.out.size
      have ck : wr.cell? ⟨B, k, none⟩ = some (.string (nm k)) := (HB.out.cell (p := ⟨B, k, none⟩) hBl).trans (HC.out k hlt)
      have HS := keepWn hBw (show Below wr.heap.size wr wr.drew from (Below.refl _ _).drew) ⟨Below.refl _ _, ck⟩
      have dk : decide ((k : Int) < 7) = true := dec_t (by omega)
      have ik0 : (0 : Int) ≤ (k : Int) := by omega
      have ik1 : (k : Int) < 7 := by omega
      have KS2k := fun W => KS2.out k hlt W
      clear ck
      by_cases h : k = i0
      · subst h
        have hb := beq_yes HEQ.out
        have HX := Lib.hid (show (if k < k + 1 then (k : Int) + 1 else 0) = (k : Int) + 1 from if_pos (by omega))
        generalize (if k < k then (k : Int) + 1 else 0) = z
        go_wp2_with fail
        go_region_held3 (fun w' => Below wr.heap.size wr w' ∧ w'.cell? ⟨B, k, none⟩ = some (.string (nm k))) (first | exact HS | exact keepWn hBw (by assumption) (by assumption)) (first | (go_at_call 9; with_reducible refine (KS1 _).mono ?_; rintro e w2 ⟨rfl, hb1⟩) | (go_at_call 9; with_reducible refine (KS2k _).mono ?_; rintro e w2 ⟨rfl, hb2⟩))
        have hH : Below wr.heap.size wr w2 := wn_reg (by assumption)
        have HB2 := Lib.hid (HB.out.trans (hH.mono HB.out.size))
        rename_i hHeld
        clear hHeld hb1 hb2 HS hH
        go_wp2
        go_roundw
        case rel => exact ⟨k + 1, by omega, by go_num, by rw [HX.out], HB2.out⟩
        case measure => simp [intOf]; omega
      · have hb := beq_no (HNE.out k hlt h)
        have HX := Lib.hid (show (if i0 < k + 1 then (i0 : Int) + 1 else 0) = (if i0 < k then (i0 : Int) + 1 else 0) by
          by_cases g : i0 < k
          · rw [if_pos g, if_pos (by omega)]
          · rw [if_neg g, if_neg (by omega)])
        clear h
        generalize (if i0 < k then (i0 : Int) + 1 else 0) = z at HX ⊢
        go_wp2_with fail
        go_region_held3 (fun w' => Below wr.heap.size wr w' ∧ w'.cell? ⟨B, k, none⟩ = some (.string (nm k))) (first | exact HS | exact keepWn hBw (by assumption) (by assumption)) (first | (go_at_call 9; with_reducible refine (KS1 _).mono ?_; rintro e w2 ⟨rfl, hb1⟩) | (go_at_call 9; with_reducible refine (KS2k _).mono ?_; rintro e w2 ⟨rfl, hb2⟩))
        have hH : Below wr.heap.size wr w2 := wn_reg (by assumption)
        have HB2 := Lib.hid (HB.out.trans (hH.mono HB.out.size))
        rename_i hHeld
        clear hHeld hb1 hb2 HS hH
        go_wp2
        go_roundw
        case rel => exact ⟨k + 1, by omega, by go_num, by rw [HX.out], HB2.out⟩
        case measure => simp [intOf]; omega
    · obtain rfl : k = 7 := by omega
      rw [if_pos hi0]
      have de : ((i0 : Int) + 1 == (i0 : Int) + 1) = true := by rw [beq_iff_eq]
      have dz : decide ((0 : Int) < (i0 : Int) + 1) = true := dec_t (by omega)
      have HTr := HT.out.below (HB0.out.trans (HB.out.mono HB0.out.size))
      have HBr := Lib.hid (HB0.out.trans (HB.out.mono HB0.out.size))
      have hbn := beq_yes (rfl : nm (d.toNat - 1) = nm (d.toNat - 1))
      go_wp2_with fail
      refine (KO _ HTr).mono ?_
      rintro e w4 ⟨rfl, hb4⟩
      have HT4 := HTr.below hb4
      have HB4 := Lib.hid (HBr.out.trans (hb4.mono HBr.out.size))
      clear KO hb4
      go_wp2_with fail
      refine (KB _ HT4).mono ?_
      rintro e w5 ⟨rfl, hb5⟩
      have HT5 := HT4.below hb5
      have HB5 := Lib.hid (HB4.out.trans (hb5.mono HB4.out.size))
      clear KB hb5
      go_wp2_with fail
      refine (KN _ HT5).mono ?_
      rintro e w' ⟨rfl, rfl⟩
      clear KN
      go_wp2_with fail
      all_goals (
        refine (lives06_any _).mono ?_
        rintro e w6 ⟨rfl, hb6⟩
        go_wp2
        go_ret
        exact ⟨rfl, HB5.out.trans (hb6.mono HB5.out.size)⟩)
set_option maxHeartbeats 3200000 in
set_option maxRecDepth 100000 in
theorem wn_in_no (d : Int) (h1 : 1 ≤ d) (h2 : d ≤ 7) (s : ByteArray) (hz : s.size ≤ 140737488351232) (hs : ∀ i, i < 7 → low (nmW i) ≠ low s) (w : World) (hT : TabWk w) :
    Calls Tryd.prog 3 #[.int .i64 d, .string s] w fun e w' => e = .returned (.bool true) ∧ Below w.heap.size w w' := by
  have HT := Lib.hid hT
  have KNA := fun W => rwnames_any W
  have KS1 : ∀ W, Calls Tryd.prog 9 #[.string s] W fun e w' => e = .returned (.string (low s)) ∧ Below W.heap.size W w' := fun W => rsmall_any s W hz
  have KS2 := Lib.hid (show ∀ k, k < 7 → ∀ W, Calls Tryd.prog 9 #[.string (nmW k)] W fun e w' => e = .returned (.string (low (nmW k))) ∧ Below W.heap.size W w' from fun k hk W => rsmall_any (nmW k) W (by rw [nmW_size k hk]; omega))
  have KO := fun W hW => wof_no s hs W hW
  have HNE := Lib.hid (show ∀ k, k < 7 → low s ≠ low (nmW k) from fun k hk e => hs k hk e.symm)
  have KB : ∀ W, TabWk W → Calls Tryd.prog 10 #[.string (nmW (d.toNat - 1))] W fun e w' => e = .returned (.tuple #[.int .i64 d, .bool true]) ∧ Below W.heap.size W w' := fun W hW => by
    have h := wof_yes (d.toNat - 1) (by omega) (nmW (d.toNat - 1)) rfl W hW
    rw [show (((d.toNat - 1 : Nat) : Int) + 1) = d by omega] at h
    exact h
  have KN := fun W hW => wname_any d h1 h2 W hW
  have hwe : ((nmW (d.toNat - 1)).toList == (⟨#[]⟩ : ByteArray).toList) = false := beq_no fun e => by
    have h := congrArg ByteArray.size e
    rw [nmW_size _ (by omega)] at h
    cases h
  have dd1 : decide (1 ≤ d) = true := dec_t h1
  have dd2 : decide (d ≤ 7) = true := dec_t h2
  have hd0 : (0 : Int) ≤ d - 1 := by omega
  have hd7 : d - 1 < 7 := by omega
  have HDN := Lib.hid (show d.toNat - 1 < 7 by omega)
  have dde : (d == d) = true := by rw [beq_iff_eq]
  obtain ⟨lw, hlw⟩ : ∃ f : ByteArray → ByteArray, low = f := ⟨_, rfl⟩
  obtain ⟨nm, hnm⟩ : ∃ nm : Nat → ByteArray, nmW = nm := ⟨_, rfl⟩
  rw [hlw, hnm] at HNE KS2
  rw [hlw] at KS1
  rw [hnm] at KNA KB KN hwe
  clear hlw hnm hT hs hz
  go_enter Tryd.func3, Tryd.ntmps3
  go_wp2_with fail
  refine (KNA _).mono ?_
  rintro e W0 ⟨A, c, rfl, hat, hb3⟩
  have HB0 := Lib.hid hb3
  obtain ⟨B, rfl, hBl, hcell⟩ := hat
  have HC := Lib.hid hcell
  clear KNA hb3 hcell
  have cd := HC.out (d.toNat - 1) HDN.out
  go_wp2
  clear cd
  go_loopw [7, 8] (fun x i wr => ∃ k : Nat, k ≤ 7 ∧ i = .int .i64 k ∧ x = .int .i64 (0) ∧ Below W0.heap.size W0 wr) (fun _ i _ => 7 - (intOf i).toNat)
  case atStart => exact ⟨0, Nat.zero_le _, rfl, by simp, Below.refl _ _⟩
  case round =>
    obtain ⟨k, hk, rfl, rfl, hb⟩ := hrel
    have HB := Lib.hid hb
    clear hb
    by_cases hlt : k < 7
    · have hBw : B < wr.heap.size := Nat.lt_of_lt_of_le hBl HB.out.size
      have ck : wr.cell? ⟨B, k, none⟩ = some (.string (nm k)) := (HB.out.cell (p := ⟨B, k, none⟩) hBl).trans (HC.out k hlt)
      have HS := keepWn hBw (show Below wr.heap.size wr wr.drew from (Below.refl _ _).drew) ⟨Below.refl _ _, ck⟩
      have dk : decide ((k : Int) < 7) = true := dec_t (by omega)
      have ik0 : (0 : Int) ≤ (k : Int) := by omega
      have ik1 : (k : Int) < 7 := by omega
      have KS2k := fun W => KS2.out k hlt W
      clear ck
      have hb := beq_no (HNE.out k hlt)
      go_wp2_with fail
      go_region_held3 (fun w' => Below wr.heap.size wr w' ∧ w'.cell? ⟨B, k, none⟩ = some (.string (nm k))) (first | exact HS | exact keepWn hBw (by assumption) (by assumption)) (first | (go_at_call 9; with_reducible refine (KS1 _).mono ?_; rintro e w2 ⟨rfl, hb1⟩) | (go_at_call 9; with_reducible refine (KS2k _).mono ?_; rintro e w2 ⟨rfl, hb2⟩))
      have hH : Below wr.heap.size wr w2 := wn_reg (by assumption)
      have HB2 := Lib.hid (HB.out.trans (hH.mono HB.out.size))
      rename_i hHeld
      clear hHeld hb1 hb2 HS hH
      go_wp2
      go_roundw
      case rel => exact ⟨k + 1, by omega, by go_num, rfl, HB2.out⟩
      case measure => simp [intOf]; omega
    · obtain rfl : k = 7 := by omega
      have HTr := HT.out.below (HB0.out.trans (HB.out.mono HB0.out.size))
      have HBr := Lib.hid (HB0.out.trans (HB.out.mono HB0.out.size))
      have hbn := beq_yes (rfl : nm (d.toNat - 1) = nm (d.toNat - 1))
      go_wp2_with fail
      refine (KO _ HTr).mono ?_
      rintro e w4 ⟨rfl, hb4⟩
      have HT4 := HTr.below hb4
      have HB4 := Lib.hid (HBr.out.trans (hb4.mono HBr.out.size))
      clear KO hb4
      go_wp2_with fail
      refine (KB _ HT4).mono ?_
      rintro e w5 ⟨rfl, hb5⟩
      have HT5 := HT4.below hb5
      have HB5 := Lib.hid (HB4.out.trans (hb5.mono HB4.out.size))
      clear KB hb5
      go_wp2_with fail
      refine (KN _ HT5).mono ?_
      rintro e w' ⟨rfl, rfl⟩
      clear KN
      go_wp2_with fail
      all_goals (
        refine (lives06_any _).mono ?_
        rintro e w6 ⟨rfl, hb6⟩
        go_wp2
        go_ret
        exact ⟨rfl, HB5.out.trans (hb6.mono HB5.out.size)⟩)
set_option maxHeartbeats 3200000 in
set_option maxRecDepth 100000 in
theorem wn_no_yes (d : Int) (hd : d < 1 ∨ 7 < d) (s : ByteArray) (hz : s.size ≤ 140737488351232) (i0 : Nat) (hi0 : i0 < 7) (hs : low (nmW i0) = low s) (w : World) (hT : TabWk w) :
    Calls Tryd.prog 3 #[.int .i64 d, .string s] w fun e w' => e = .returned (.bool true) ∧ Below w.heap.size w w' := by
  have HT := Lib.hid hT
  have KNA := fun W => rwnames_any W
  have KS1 : ∀ W, Calls Tryd.prog 9 #[.string s] W fun e w' => e = .returned (.string (low s)) ∧ Below W.heap.size W w' := fun W => rsmall_any s W hz
  have KS2 := Lib.hid (show ∀ k, k < 7 → ∀ W, Calls Tryd.prog 9 #[.string (nmW k)] W fun e w' => e = .returned (.string (low (nmW k))) ∧ Below W.heap.size W w' from fun k hk W => rsmall_any (nmW k) W (by rw [nmW_size k hk]; omega))
  have KO := fun W hW => wof_yes i0 hi0 s hs W hW
  have HNE := Lib.hid (show ∀ k, k < 7 → k ≠ i0 → low s ≠ low (nmW k) from fun k hk h e => h (nmW_low k i0 hk hi0 (hs.trans e).symm))
  have HEQ := Lib.hid hs.symm
  have KB := fun W hW => wof_no ⟨#[]⟩ (fun i hi => low_empty i hi) W hW
  have KN : ∀ W, TabWk W → Calls Tryd.prog 11 #[.int .i64 d] W fun e w' => e = .returned (.string ⟨#[]⟩) ∧ W = w' := fun W _ => wname_no d hd W
  have hwe : ((⟨#[]⟩ : ByteArray).toList == (⟨#[]⟩ : ByteArray).toList) = true := beq_yes rfl
  obtain ⟨lw, hlw⟩ : ∃ f : ByteArray → ByteArray, low = f := ⟨_, rfl⟩
  obtain ⟨nm, hnm⟩ : ∃ nm : Nat → ByteArray, nmW = nm := ⟨_, rfl⟩
  rw [hlw, hnm] at HNE KS2
  rw [hlw] at KS1
  rw [hnm] at KNA
  rw [hlw, hnm] at HEQ
  clear hlw hnm hT hs hz
  go_enter Tryd.func3, Tryd.ntmps3
  go_wp2_with fail
  refine (KNA _).mono ?_
  rintro e W0 ⟨A, c, rfl, hat, hb3⟩
  have HB0 := Lib.hid hb3
  obtain ⟨B, rfl, hBl, hcell⟩ := hat
  have HC := Lib.hid hcell
  clear KNA hb3 hcell
  by_cases g1 : 1 ≤ d
  · have dd1 : decide (1 ≤ d) = true := dec_t g1
    have dd2 : decide (d ≤ 7) = false := dec_n (by omega)
    clear hd
    go_wp2
    go_loopw [7, 8] (fun x i wr => ∃ k : Nat, k ≤ 7 ∧ i = .int .i64 k ∧ x = .int .i64 (if i0 < k then (i0 : Int) + 1 else 0) ∧ Below W0.heap.size W0 wr) (fun _ i _ => 7 - (intOf i).toNat)
    case atStart => exact ⟨0, Nat.zero_le _, rfl, by simp, Below.refl _ _⟩
    case round =>
      obtain ⟨k, hk, rfl, rfl, hb⟩ := hrel
      have HB := Lib.hid hb
      clear hb
      by_cases hlt : k < 7
      · have hBw : B < wr.heap.size := Nat.lt_of_lt_of_le hBl HB.out.size
        have ck : wr.cell? ⟨B, k, none⟩ = some (.string (nm k)) := (HB.out.cell (p := ⟨B, k, none⟩) hBl).trans (HC.out k hlt)
        have HS := keepWn hBw (show Below wr.heap.size wr wr.drew from (Below.refl _ _).drew) ⟨Below.refl _ _, ck⟩
        have dk : decide ((k : Int) < 7) = true := dec_t (by omega)
        have ik0 : (0 : Int) ≤ (k : Int) := by omega
        have ik1 : (k : Int) < 7 := by omega
        have KS2k := fun W => KS2.out k hlt W
        clear ck
        by_cases h : k = i0
        · subst h
          have hb := beq_yes HEQ.out
          have HX := Lib.hid (show (if k < k + 1 then (k : Int) + 1 else 0) = (k : Int) + 1 from if_pos (by omega))
          generalize (if k < k then (k : Int) + 1 else 0) = z
          go_wp2_with fail
          go_region_held3 (fun w' => Below wr.heap.size wr w' ∧ w'.cell? ⟨B, k, none⟩ = some (.string (nm k))) (first | exact HS | exact keepWn hBw (by assumption) (by assumption)) (first | (go_at_call 9; with_reducible refine (KS1 _).mono ?_; rintro e w2 ⟨rfl, hb1⟩) | (go_at_call 9; with_reducible refine (KS2k _).mono ?_; rintro e w2 ⟨rfl, hb2⟩))
          have hH : Below wr.heap.size wr w2 := wn_reg (by assumption)
          have HB2 := Lib.hid (HB.out.trans (hH.mono HB.out.size))
          rename_i hHeld
          clear hHeld hb1 hb2 HS hH
          go_wp2
          go_roundw
          case rel => exact ⟨k + 1, by omega, by go_num, by rw [HX.out], HB2.out⟩
          case measure => simp [intOf]; omega
        · have hb := beq_no (HNE.out k hlt h)
          have HX := Lib.hid (show (if i0 < k + 1 then (i0 : Int) + 1 else 0) = (if i0 < k then (i0 : Int) + 1 else 0) by
            by_cases g : i0 < k
            · rw [if_pos g, if_pos (by omega)]
            · rw [if_neg g, if_neg (by omega)])
          clear h
          generalize (if i0 < k then (i0 : Int) + 1 else 0) = z at HX ⊢
          go_wp2_with fail
          go_region_held3 (fun w' => Below wr.heap.size wr w' ∧ w'.cell? ⟨B, k, none⟩ = some (.string (nm k))) (first | exact HS | exact keepWn hBw (by assumption) (by assumption)) (first | (go_at_call 9; with_reducible refine (KS1 _).mono ?_; rintro e w2 ⟨rfl, hb1⟩) | (go_at_call 9; with_reducible refine (KS2k _).mono ?_; rintro e w2 ⟨rfl, hb2⟩))
          have hH : Below wr.heap.size wr w2 := wn_reg (by assumption)
          have HB2 := Lib.hid (HB.out.trans (hH.mono HB.out.size))
          rename_i hHeld
          clear hHeld hb1 hb2 HS hH
          go_wp2
          go_roundw
          case rel => exact ⟨k + 1, by omega, by go_num, by rw [HX.out], HB2.out⟩
          case measure => simp [intOf]; omega
      · obtain rfl : k = 7 := by omega
        rw [if_pos hi0]
        have de : ((i0 : Int) + 1 == (i0 : Int) + 1) = true := by rw [beq_iff_eq]
        have dz : decide ((0 : Int) < (i0 : Int) + 1) = true := dec_t (by omega)
        have HTr := HT.out.below (HB0.out.trans (HB.out.mono HB0.out.size))
        have HBr := Lib.hid (HB0.out.trans (HB.out.mono HB0.out.size))
        have hbn := beq_yes (rfl : (⟨#[]⟩ : ByteArray) = (⟨#[]⟩ : ByteArray))
        go_wp2_with fail
        refine (KO _ HTr).mono ?_
        rintro e w4 ⟨rfl, hb4⟩
        have HT4 := HTr.below hb4
        have HB4 := Lib.hid (HBr.out.trans (hb4.mono HBr.out.size))
        clear KO hb4
        go_wp2_with fail
        refine (KB _ HT4).mono ?_
        rintro e w5 ⟨rfl, hb5⟩
        have HT5 := HT4.below hb5
        have HB5 := Lib.hid (HB4.out.trans (hb5.mono HB4.out.size))
        clear KB hb5
        go_wp2_with fail
        refine (KN _ HT5).mono ?_
        rintro e w' ⟨rfl, rfl⟩
        clear KN
        go_wp2_with fail
        all_goals (
          refine (lives06_any _).mono ?_
          rintro e w6 ⟨rfl, hb6⟩
          go_wp2
          go_ret
          exact ⟨rfl, HB5.out.trans (hb6.mono HB5.out.size)⟩)
  · have dd1 : decide (1 ≤ d) = false := dec_n g1
    clear hd
    go_wp2
    go_loopw [7, 8] (fun x i wr => ∃ k : Nat, k ≤ 7 ∧ i = .int .i64 k ∧ x = .int .i64 (if i0 < k then (i0 : Int) + 1 else 0) ∧ Below W0.heap.size W0 wr) (fun _ i _ => 7 - (intOf i).toNat)
    case atStart => exact ⟨0, Nat.zero_le _, rfl, by simp, Below.refl _ _⟩
    case round =>
      obtain ⟨k, hk, rfl, rfl, hb⟩ := hrel
      have HB := Lib.hid hb
      clear hb
      by_cases hlt : k < 7
      · have hBw : B < wr.heap.size := Nat.lt_of_lt_of_le hBl HB.out.size
        have ck : wr.cell? ⟨B, k, none⟩ = some (.string (nm k)) := (HB.out.cell (p := ⟨B, k, none⟩) hBl).trans (HC.out k hlt)
        have HS := keepWn hBw (show Below wr.heap.size wr wr.drew from (Below.refl _ _).drew) ⟨Below.refl _ _, ck⟩
        have dk : decide ((k : Int) < 7) = true := dec_t (by omega)
        have ik0 : (0 : Int) ≤ (k : Int) := by omega
        have ik1 : (k : Int) < 7 := by omega
        have KS2k := fun W => KS2.out k hlt W
        clear ck
        by_cases h : k = i0
        · subst h
          have hb := beq_yes HEQ.out
          have HX := Lib.hid (show (if k < k + 1 then (k : Int) + 1 else 0) = (k : Int) + 1 from if_pos (by omega))
          generalize (if k < k then (k : Int) + 1 else 0) = z
          go_wp2_with fail
          go_region_held3 (fun w' => Below wr.heap.size wr w' ∧ w'.cell? ⟨B, k, none⟩ = some (.string (nm k))) (first | exact HS | exact keepWn hBw (by assumption) (by assumption)) (first | (go_at_call 9; with_reducible refine (KS1 _).mono ?_; rintro e w2 ⟨rfl, hb1⟩) | (go_at_call 9; with_reducible refine (KS2k _).mono ?_; rintro e w2 ⟨rfl, hb2⟩))
          have hH : Below wr.heap.size wr w2 := wn_reg (by assumption)
          have HB2 := Lib.hid (HB.out.trans (hH.mono HB.out.size))
          rename_i hHeld
          clear hHeld hb1 hb2 HS hH
          go_wp2
          go_roundw
          case rel => exact ⟨k + 1, by omega, by go_num, by rw [HX.out], HB2.out⟩
          case measure => simp [intOf]; omega
        · have hb := beq_no (HNE.out k hlt h)
          have HX := Lib.hid (show (if i0 < k + 1 then (i0 : Int) + 1 else 0) = (if i0 < k then (i0 : Int) + 1 else 0) by
            by_cases g : i0 < k
            · rw [if_pos g, if_pos (by omega)]
            · rw [if_neg g, if_neg (by omega)])
          clear h
          generalize (if i0 < k then (i0 : Int) + 1 else 0) = z at HX ⊢
          go_wp2_with fail
          go_region_held3 (fun w' => Below wr.heap.size wr w' ∧ w'.cell? ⟨B, k, none⟩ = some (.string (nm k))) (first | exact HS | exact keepWn hBw (by assumption) (by assumption)) (first | (go_at_call 9; with_reducible refine (KS1 _).mono ?_; rintro e w2 ⟨rfl, hb1⟩) | (go_at_call 9; with_reducible refine (KS2k _).mono ?_; rintro e w2 ⟨rfl, hb2⟩))
          have hH : Below wr.heap.size wr w2 := wn_reg (by assumption)
          have HB2 := Lib.hid (HB.out.trans (hH.mono HB.out.size))
          rename_i hHeld
          clear hHeld hb1 hb2 HS hH
          go_wp2
          go_roundw
          case rel => exact ⟨k + 1, by omega, by go_num, by rw [HX.out], HB2.out⟩
          case measure => simp [intOf]; omega
      · obtain rfl : k = 7 := by omega
        rw [if_pos hi0]
        have de : ((i0 : Int) + 1 == (i0 : Int) + 1) = true := by rw [beq_iff_eq]
        have dz : decide ((0 : Int) < (i0 : Int) + 1) = true := dec_t (by omega)
        have HTr := HT.out.below (HB0.out.trans (HB.out.mono HB0.out.size))
        have HBr := Lib.hid (HB0.out.trans (HB.out.mono HB0.out.size))
        have hbn := beq_yes (rfl : (⟨#[]⟩ : ByteArray) = (⟨#[]⟩ : ByteArray))
        go_wp2_with fail
        refine (KO _ HTr).mono ?_
        rintro e w4 ⟨rfl, hb4⟩
        have HT4 := HTr.below hb4
        have HB4 := Lib.hid (HBr.out.trans (hb4.mono HBr.out.size))
        clear KO hb4
        go_wp2_with fail
        refine (KB _ HT4).mono ?_
        rintro e w5 ⟨rfl, hb5⟩
        have HT5 := HT4.below hb5
        have HB5 := Lib.hid (HB4.out.trans (hb5.mono HB4.out.size))
        clear KB hb5
        go_wp2_with fail
        refine (KN _ HT5).mono ?_
        rintro e w' ⟨rfl, rfl⟩
        clear KN
        go_wp2_with fail
        all_goals (
          refine (lives06_any _).mono ?_
          rintro e w6 ⟨rfl, hb6⟩
          go_wp2
          go_ret
          exact ⟨rfl, HB5.out.trans (hb6.mono HB5.out.size)⟩)
set_option maxHeartbeats 3200000 in
set_option maxRecDepth 100000 in
theorem wn_no_no (d : Int) (hd : d < 1 ∨ 7 < d) (s : ByteArray) (hz : s.size ≤ 140737488351232) (hs : ∀ i, i < 7 → low (nmW i) ≠ low s) (w : World) (hT : TabWk w) :
    Calls Tryd.prog 3 #[.int .i64 d, .string s] w fun e w' => e = .returned (.bool true) ∧ Below w.heap.size w w' := by
  have HT := Lib.hid hT
  have KNA := fun W => rwnames_any W
  have KS1 : ∀ W, Calls Tryd.prog 9 #[.string s] W fun e w' => e = .returned (.string (low s)) ∧ Below W.heap.size W w' := fun W => rsmall_any s W hz
  have KS2 := Lib.hid (show ∀ k, k < 7 → ∀ W, Calls Tryd.prog 9 #[.string (nmW k)] W fun e w' => e = .returned (.string (low (nmW k))) ∧ Below W.heap.size W w' from fun k hk W => rsmall_any (nmW k) W (by rw [nmW_size k hk]; omega))
  have KO := fun W hW => wof_no s hs W hW
  have HNE := Lib.hid (show ∀ k, k < 7 → low s ≠ low (nmW k) from fun k hk e => hs k hk e.symm)
  have KB := fun W hW => wof_no ⟨#[]⟩ (fun i hi => low_empty i hi) W hW
  have KN : ∀ W, TabWk W → Calls Tryd.prog 11 #[.int .i64 d] W fun e w' => e = .returned (.string ⟨#[]⟩) ∧ W = w' := fun W _ => wname_no d hd W
  have hwe : ((⟨#[]⟩ : ByteArray).toList == (⟨#[]⟩ : ByteArray).toList) = true := beq_yes rfl
  obtain ⟨lw, hlw⟩ : ∃ f : ByteArray → ByteArray, low = f := ⟨_, rfl⟩
  obtain ⟨nm, hnm⟩ : ∃ nm : Nat → ByteArray, nmW = nm := ⟨_, rfl⟩
  rw [hlw, hnm] at HNE KS2
  rw [hlw] at KS1
  rw [hnm] at KNA
  clear hlw hnm hT hs hz
  go_enter Tryd.func3, Tryd.ntmps3
  go_wp2_with fail
  refine (KNA _).mono ?_
  rintro e W0 ⟨A, c, rfl, hat, hb3⟩
  have HB0 := Lib.hid hb3
  obtain ⟨B, rfl, hBl, hcell⟩ := hat
  have HC := Lib.hid hcell
  clear KNA hb3 hcell
  by_cases g1 : 1 ≤ d
  · have dd1 : decide (1 ≤ d) = true := dec_t g1
    have dd2 : decide (d ≤ 7) = false := dec_n (by omega)
    clear hd
    go_wp2
    go_loopw [7, 8] (fun x i wr => ∃ k : Nat, k ≤ 7 ∧ i = .int .i64 k ∧ x = .int .i64 (0) ∧ Below W0.heap.size W0 wr) (fun _ i _ => 7 - (intOf i).toNat)
    case atStart => exact ⟨0, Nat.zero_le _, rfl, by simp, Below.refl _ _⟩
    case round =>
      obtain ⟨k, hk, rfl, rfl, hb⟩ := hrel
      have HB := Lib.hid hb
      clear hb
      by_cases hlt : k < 7
      · have hBw : B < wr.heap.size := Nat.lt_of_lt_of_le hBl HB.out.size
        have ck : wr.cell? ⟨B, k, none⟩ = some (.string (nm k)) := (HB.out.cell (p := ⟨B, k, none⟩) hBl).trans (HC.out k hlt)
        have HS := keepWn hBw (show Below wr.heap.size wr wr.drew from (Below.refl _ _).drew) ⟨Below.refl _ _, ck⟩
        have dk : decide ((k : Int) < 7) = true := dec_t (by omega)
        have ik0 : (0 : Int) ≤ (k : Int) := by omega
        have ik1 : (k : Int) < 7 := by omega
        have KS2k := fun W => KS2.out k hlt W
        clear ck
        have hb := beq_no (HNE.out k hlt)
        go_wp2_with fail
        go_region_held3 (fun w' => Below wr.heap.size wr w' ∧ w'.cell? ⟨B, k, none⟩ = some (.string (nm k))) (first | exact HS | exact keepWn hBw (by assumption) (by assumption)) (first | (go_at_call 9; with_reducible refine (KS1 _).mono ?_; rintro e w2 ⟨rfl, hb1⟩) | (go_at_call 9; with_reducible refine (KS2k _).mono ?_; rintro e w2 ⟨rfl, hb2⟩))
        have hH : Below wr.heap.size wr w2 := wn_reg (by assumption)
        have HB2 := Lib.hid (HB.out.trans (hH.mono HB.out.size))
        rename_i hHeld
        clear hHeld hb1 hb2 HS hH
        go_wp2
        go_roundw
        case rel => exact ⟨k + 1, by omega, by go_num, rfl, HB2.out⟩
        case measure => simp [intOf]; omega
      · obtain rfl : k = 7 := by omega
        have HTr := HT.out.below (HB0.out.trans (HB.out.mono HB0.out.size))
        have HBr := Lib.hid (HB0.out.trans (HB.out.mono HB0.out.size))
        have hbn := beq_yes (rfl : (⟨#[]⟩ : ByteArray) = (⟨#[]⟩ : ByteArray))
        go_wp2_with fail
        refine (KO _ HTr).mono ?_
        rintro e w4 ⟨rfl, hb4⟩
        have HT4 := HTr.below hb4
        have HB4 := Lib.hid (HBr.out.trans (hb4.mono HBr.out.size))
        clear KO hb4
        go_wp2_with fail
        refine (KB _ HT4).mono ?_
        rintro e w5 ⟨rfl, hb5⟩
        have HT5 := HT4.below hb5
        have HB5 := Lib.hid (HB4.out.trans (hb5.mono HB4.out.size))
        clear KB hb5
        go_wp2_with fail
        refine (KN _ HT5).mono ?_
        rintro e w' ⟨rfl, rfl⟩
        clear KN
        go_wp2_with fail
        all_goals (
          refine (lives06_any _).mono ?_
          rintro e w6 ⟨rfl, hb6⟩
          go_wp2
          go_ret
          exact ⟨rfl, HB5.out.trans (hb6.mono HB5.out.size)⟩)
  · have dd1 : decide (1 ≤ d) = false := dec_n g1
    clear hd
    go_wp2
    go_loopw [7, 8] (fun x i wr => ∃ k : Nat, k ≤ 7 ∧ i = .int .i64 k ∧ x = .int .i64 (0) ∧ Below W0.heap.size W0 wr) (fun _ i _ => 7 - (intOf i).toNat)
    case atStart => exact ⟨0, Nat.zero_le _, rfl, by simp, Below.refl _ _⟩
    case round =>
      obtain ⟨k, hk, rfl, rfl, hb⟩ := hrel
      have HB := Lib.hid hb
      clear hb
      by_cases hlt : k < 7
      · have hBw : B < wr.heap.size := Nat.lt_of_lt_of_le hBl HB.out.size
        have ck : wr.cell? ⟨B, k, none⟩ = some (.string (nm k)) := (HB.out.cell (p := ⟨B, k, none⟩) hBl).trans (HC.out k hlt)
        have HS := keepWn hBw (show Below wr.heap.size wr wr.drew from (Below.refl _ _).drew) ⟨Below.refl _ _, ck⟩
        have dk : decide ((k : Int) < 7) = true := dec_t (by omega)
        have ik0 : (0 : Int) ≤ (k : Int) := by omega
        have ik1 : (k : Int) < 7 := by omega
        have KS2k := fun W => KS2.out k hlt W
        clear ck
        have hb := beq_no (HNE.out k hlt)
        go_wp2_with fail
        go_region_held3 (fun w' => Below wr.heap.size wr w' ∧ w'.cell? ⟨B, k, none⟩ = some (.string (nm k))) (first | exact HS | exact keepWn hBw (by assumption) (by assumption)) (first | (go_at_call 9; with_reducible refine (KS1 _).mono ?_; rintro e w2 ⟨rfl, hb1⟩) | (go_at_call 9; with_reducible refine (KS2k _).mono ?_; rintro e w2 ⟨rfl, hb2⟩))
        have hH : Below wr.heap.size wr w2 := wn_reg (by assumption)
        have HB2 := Lib.hid (HB.out.trans (hH.mono HB.out.size))
        rename_i hHeld
        clear hHeld hb1 hb2 HS hH
        go_wp2
        go_roundw
        case rel => exact ⟨k + 1, by omega, by go_num, rfl, HB2.out⟩
        case measure => simp [intOf]; omega
      · obtain rfl : k = 7 := by omega
        have HTr := HT.out.below (HB0.out.trans (HB.out.mono HB0.out.size))
        have HBr := Lib.hid (HB0.out.trans (HB.out.mono HB0.out.size))
        have hbn := beq_yes (rfl : (⟨#[]⟩ : ByteArray) = (⟨#[]⟩ : ByteArray))
        go_wp2_with fail
        refine (KO _ HTr).mono ?_
        rintro e w4 ⟨rfl, hb4⟩
        have HT4 := HTr.below hb4
        have HB4 := Lib.hid (HBr.out.trans (hb4.mono HBr.out.size))
        clear KO hb4
        go_wp2_with fail
        refine (KB _ HT4).mono ?_
        rintro e w5 ⟨rfl, hb5⟩
        have HT5 := HT4.below hb5
        have HB5 := Lib.hid (HB4.out.trans (hb5.mono HB4.out.size))
        clear KB hb5
        go_wp2_with fail
        refine (KN _ HT5).mono ?_
        rintro e w' ⟨rfl, rfl⟩
        clear KN
        go_wp2_with fail
        all_goals (
          refine (lives06_any _).mono ?_
          rintro e w6 ⟨rfl, hb6⟩
          go_wp2
          go_ret
          exact ⟨rfl, HB5.out.trans (hb6.mono HB5.out.size)⟩)
theorem weekNames_walk (d : Int) (s : ByteArray) (w : World) (wd : (Lit.int .i64 d).wf = true) (ws : s.size ≤ 140737488351232) (hT : TabWk w) :
    Calls Tryd.prog 3 #[.int .i64 d, .string s] w fun e w' => e = .returned (.bool true) ∧ Below w.heap.size w w' := by
  by_cases hd : d < 1 ∨ 7 < d
  · by_cases hs : ∃ i0, i0 < 7 ∧ low (nmW i0) = low s
    · obtain ⟨i0, hi0, hs⟩ := hs
      exact wn_no_yes d hd s ws i0 hi0 hs w hT
    · exact wn_no_no d hd s ws (fun i hi e => hs ⟨i, hi, e⟩) w hT
  · by_cases hs : ∃ i0, i0 < 7 ∧ low (nmW i0) = low s
    · obtain ⟨i0, hi0, hs⟩ := hs
      exact wn_in_yes d (by omega) (by omega) s ws i0 hi0 hs w hT
    · exact wn_in_no d (by omega) (by omega) s ws (fun i hi e => hs ⟨i, hi, e⟩) w hT
end Go.Proofs.YtediadckcpedkaaDoor
