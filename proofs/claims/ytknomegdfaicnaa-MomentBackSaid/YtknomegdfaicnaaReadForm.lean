/- Contracts of moment.formed, the function inside moment.Read, and of the document's number (layer 8). -/
import Derived.Test.YtknomegdfaicnaaReadMath
import Derived.LoopTactic
import Derived.WalkMore
namespace Go.Proofs.Ytknomegdfaicnaa
open Go.RowKit Civ

theorem fit_no8 {k c : Nat} (h : k ≠ 8) (hc : c < 48 ∨ 57 < c) : fitB k c = false := by
  unfold fitB; rw [if_neg h]; exact decide_eq_false (by omega)
theorem fit_not {c : Nat} (hc : c ≠ 84) : fitB 8 c = false := by
  unfold fitB; rw [if_pos rfl]; simpa using hc
theorem byte_at (s : ByteArray) (k : Nat) (h : k < s.size) : (s.data.toList.getD k 0).toNat = (s[k]'h).toNat := by
  simp only [List.getD, Array.getElem?_toList]
  rw [Array.getElem?_eq_getElem (by simpa using h)]
  rfl
theorem size_list (s : ByteArray) : s.data.toList.length = s.size := by rw [Array.length_toList]; rfl
set_option maxHeartbeats 1600000 in
theorem formed_any (s : ByteArray) (w : World) (hs : s.size ≤ 1000) : Calls Try.prog 51 #[.string s] w fun e w' => e = .returned (.tuple #[.int .i64 (scan s.data.toList 0 15).1, .int .i64 (scan s.data.toList 0 15).2]) ∧ w = w' := by
  go_enter Try.func51, Try.ntmps51
  go_wp2
  go_step3
  go_wp2
  go_step3
  go_wp2
  go_loop [4, 5] (fun at' e => ∃ k : Nat, k ≤ 15 ∧ k ≤ s.size ∧ at' = .int .i64 k ∧ e = .int .i64 0 ∧ Hid (scan s.data.toList k (15 - k) = scan s.data.toList 0 15)) (fun at' _ => (15 - intOf at').toNat)
  case atStart => exact ⟨0, by omega, by omega, rfl, rfl, Lib.hid rfl⟩
  case round =>
    obtain ⟨k, hk, hks, rfl, rfl, HP⟩ := hrel
    have hlen := size_list s
    by_cases h15 : k < 15
    · by_cases hz : k < s.size
      · have hb := byte_at s k hz
        have e0 : ((k : Int) == (s.size : Int)) = false := by rw [beq_eq_false_iff_ne]; omega
        by_cases h8 : k = 8
        · subst h8
          by_cases ht : (s[8]'hz).toNat = 84
          · have HQ := Lib.hid (show scan s.data.toList (8 + 1) (15 - (8 + 1)) = scan s.data.toList 0 15 by
              rw [← HP.out]; exact (scan_go _ 8 6 (by omega) (fit_T.2 (by rw [hb]; exact ht))).symm)
            have e1 : (((s[8]'hz).toNat : Int) == 84) = true := by rw [beq_iff_eq]; omega
            clear hb hlen ht HP
            go_wp2
            go_round
            case rel => exact ⟨9, by omega, by omega, rfl, rfl, HQ⟩
            case measure => simp [intOf]
          · have HQ := Lib.hid (show scan s.data.toList 0 15 = (((8 : Nat) : Int), 3) by
              rw [← HP.out]; exact scan_bad _ 8 6 (by omega) (by rw [hb]; exact fit_not ht))
            have e1 : (((s[8]'hz).toNat : Int) == 84) = false := by rw [beq_eq_false_iff_ne]; omega
            clear hb hlen ht HP
            go_wp2
            try rw [Exit.noGoto_ret]
            go_ret2
            exact ⟨by rw [HQ.out]; rfl, rfl⟩
        · have e8 : ((k : Int) == 8) = false := by rw [beq_eq_false_iff_ne]; omega
          by_cases hlo : (s[k]'hz).toNat < 48
          · have HQ := Lib.hid (show scan s.data.toList 0 15 = ((k : Int), 3) by
              rw [← HP.out, show 15 - k = 14 - k + 1 by omega]; exact scan_bad _ k (14 - k) (by omega) (by rw [hb]; exact fit_no8 h8 (by omega)))
            have e1 : decide (((s[k]'hz).toNat : Int) < 48) = true := decide_eq_true (by omega)
            clear hb hlen HP
            go_wp2
            try rw [Exit.noGoto_ret]
            go_ret2
            exact ⟨by rw [HQ.out]; rfl, rfl⟩
          · have n1 : decide (((s[k]'hz).toNat : Int) < 48) = false := decide_eq_false (by omega)
            by_cases hhi : 57 < (s[k]'hz).toNat
            · have HQ := Lib.hid (show scan s.data.toList 0 15 = ((k : Int), 3) by
                rw [← HP.out, show 15 - k = 14 - k + 1 by omega]; exact scan_bad _ k (14 - k) (by omega) (by rw [hb]; exact fit_no8 h8 (by omega)))
              have e1 : decide (57 < ((s[k]'hz).toNat : Int)) = true := decide_eq_true (by omega)
              clear hb hlen HP hlo
              go_wp2
              try rw [Exit.noGoto_ret]
              go_ret2
              exact ⟨by rw [HQ.out]; rfl, rfl⟩
            · have n2 : decide (57 < ((s[k]'hz).toNat : Int)) = false := decide_eq_false (by omega)
              have HQ := Lib.hid (show scan s.data.toList (k + 1) (15 - (k + 1)) = scan s.data.toList 0 15 by
                rw [← HP.out, show 15 - k = 15 - (k + 1) + 1 by omega]; exact (scan_go _ k _ (by omega) ((fit_dig h8).2 (by rw [hb]; omega))).symm)
              clear hb hlen HP hlo hhi
              go_wp2
              go_round
              case rel => exact ⟨k + 1, by omega, by omega, by go_num, rfl, HQ⟩
              case measure => simp [intOf]; omega
      · have HQ := Lib.hid (show scan s.data.toList 0 15 = ((k : Int), 2) by
          rw [← HP.out, show 15 - k = 14 - k + 1 by omega]; exact scan_end _ k (14 - k) (by omega))
        have e0 : ((k : Int) == (s.size : Int)) = true := by rw [beq_iff_eq]; omega
        clear HP hlen
        go_wp2
        try rw [Exit.noGoto_ret]
        go_ret2
        exact ⟨by rw [HQ.out]; rfl, rfl⟩
    · obtain rfl : k = 15 := by omega
      have HQ := Lib.hid (show scan s.data.toList 0 15 = (15, 0) by rw [← HP.out]; rfl)
      clear HP hlen
      go_wp2
      try rw [Exit.noGoto_ret]
      go_ret2
      exact ⟨by rw [HQ.out]; rfl, rfl⟩
end Go.Proofs.Ytknomegdfaicnaa
