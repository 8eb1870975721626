/- Contract of the document's May (layer 3), in the door seat. -/
import Derived.Test.YtjlieamjlelipaaDoorCvO
namespace Go.Proofs.YtjlieamjlelipaaDoor
open Go.RowKit
set_option linter.unusedVariables false

set_option maxHeartbeats 1600000 in
theorem may_any (b : Bool) (A : Option Addr) (c : Nat) (zs : List Int) (w : World) (hl : zs.length ≤ 1000000) (hc : Ints .i64 w A zs) (hb : b = true ↔ Rise zs) :
    Calls Tryd.prog 63 #[.slice A zs.length c] w fun e w' => e = .returned (.bool b) ∧ Quiet w w' := by
  have HC := Lib.hid hc
  have HB := Lib.hid hb
  clear hc hb
  go_enter Tryd.func63, Tryd.ntmps63
  go_wp2
  go_loopw [3] (fun i wr => ∃ k : Nat, k ≤ zs.length ∧ i = .int .i64 k ∧ Hid (∀ j, j < k → goodAt zs j) ∧ Quiet w wr) (fun i _ => zs.length - (intOf i).toNat)
  case atStart => exact ⟨0, Nat.zero_le _, rfl, Lib.hid (fun j hj => by omega), Quiet.refl _⟩
  case round =>
    obtain ⟨k, hk, rfl, HP, hq⟩ := hrel
    have QQ := Lib.hid hq
    clear hq
    by_cases hlt : k < zs.length
    · obtain ⟨b', off, rfl, hb', e0⟩ := HC.out k hlt
      have c0 := (QQ.out.cell ⟨b', off + k, none⟩).trans e0
      have i0 : (0 : Int) ≤ (k : Int) := by omega
      have i1 : (k : Int) < ((zs.length : Nat) : Int) := by omega
      have HW := Lib.hid (show ¬ goodAt zs k → false = b from fun hn => by
        cases b
        · rfl
        · exact absurd (HB.out.1 rfl k hlt) hn)
      have HG := Lib.hid (show goodAt zs k → ∀ j, j < k + 1 → goodAt zs j from fun hg j hj => by
        by_cases e : j = k
        · subst e; exact hg
        · exact HP.out j (by omega))
      unfold goodAt at HW HG
      by_cases h1 : zs[k]?.getD 0 < 0
      · have HX := Lib.hid (HW.out (fun h => by omega))
        have d1 := dec_t h1
        generalize zs[k]?.getD 0 = z at c0 d1
        clear h1 e0
        go_wp2
        go_quiet (fail)
        go_wp2
        go_ret
        exact ⟨ret_bool HX.out, QQ.out.trans (Quiet.of _ _)⟩
      · have d1 := dec_n h1
        by_cases h2 : 9999 < zs[k]?.getD 0
        · have HX := Lib.hid (HW.out (fun h => by omega))
          have d2 := dec_t h2
          generalize zs[k]?.getD 0 = z at c0 d1 d2
          clear h1 h2 e0
          go_wp2
          go_quiet (fail)
          go_wp2
          go_ret
          exact ⟨ret_bool HX.out, QQ.out.trans (Quiet.of _ _)⟩
        · have d2 := dec_n h2
          by_cases h3 : k = 0
          · have HX := Lib.hid (HG.out ⟨by omega, by omega, fun h => by omega⟩)
            have d3 : decide ((0 : Int) < (k : Int)) = false := dec_n (by omega)
            have d4 : decide (0 < k) = false := dec_n (by omega)
            generalize zs[k]?.getD 0 = z at c0 d1 d2
            clear h1 h2 h3 e0
            go_wp2
            go_quiet (fail)
            go_wp2
            go_roundw
            case rel => exact ⟨k + 1, by omega, by go_num, Lib.hid (fun j hj => HX.out j hj), QQ.out.trans (Quiet.of _ _)⟩
            case measure => simp [intOf]; omega
          · obtain ⟨b3, off3, hA, _, e1⟩ := HC.out (k - 1) (by omega)
            cases hA
            have c1 := (QQ.out.cell ⟨b', off + (k - 1), none⟩).trans e1
            have d3 : decide ((0 : Int) < (k : Int)) = true := dec_t (by omega)
            have d4 : decide (0 < k) = true := dec_t (by omega)
            have t3 : IntKind.i64.wrap ((k : Int) - 1) = (k : Int) - 1 := IntWalk.i64_in _ ⟨by omega, by omega⟩
            have t4 : ((k : Int) - 1).toNat = k - 1 := by omega
            have j0 : (0 : Int) ≤ (k : Int) - 1 := by omega
            have j1 : (k : Int) - 1 < ((zs.length : Nat) : Int) := by omega
            by_cases h4 : zs[k]?.getD 0 ≤ zs[k - 1]?.getD 0
            · have HX := Lib.hid (HW.out (fun h => by have := h.2.2 (by omega); omega))
              have d5 := dec_t h4
              generalize zs[k]?.getD 0 = z at c0 d1 d2 d5
              generalize zs[k - 1]?.getD 0 = y at c1 d5
              clear h1 h2 h3 h4 e0 e1
              go_wp2
              go_quiet (fail)
              go_wp2
              go_ret
              exact ⟨ret_bool HX.out, QQ.out.trans (Quiet.of _ _)⟩
            · have HX := Lib.hid (HG.out ⟨by omega, by omega, fun h => by omega⟩)
              have d5 := dec_n h4
              generalize zs[k]?.getD 0 = z at c0 d1 d2 d5
              generalize zs[k - 1]?.getD 0 = y at c1 d5
              clear h1 h2 h3 h4 e0 e1
              go_wp2
              go_quiet (fail)
              go_wp2
              go_roundw
              case rel => exact ⟨k + 1, by omega, by go_num, Lib.hid (fun j hj => HX.out j hj), QQ.out.trans (Quiet.of _ _)⟩
              case measure => simp [intOf]; omega
    · obtain rfl : k = zs.length := by omega
      have HX := Lib.hid (show true = b from (HB.out.2 (fun j hj => HP.out j hj)).symm)
      go_wp2
      go_ret
      exact ⟨ret_bool HX.out, QQ.out⟩
end Go.Proofs.YtjlieamjlelipaaDoor
