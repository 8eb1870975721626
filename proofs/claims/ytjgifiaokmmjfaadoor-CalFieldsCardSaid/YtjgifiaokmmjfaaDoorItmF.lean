/- Contract of the document's compare of two lists of items (layer 12). -/
import Derived.Test.YtjgifiaokmmjfaaDoorItmE
namespace Go.Proofs.YtjgifiaokmmjfaaDoor
open Go.RowKit
set_option linter.unusedVariables false

set_option maxHeartbeats 1600000 in
theorem isame_any (A B : Option Addr) (c d : Nat) (qs rs : List Q4) (w : World) (hl : qs.length ≤ 1000000) (hl2 : rs.length ≤ 1000000) (ha : ItemsAt w A qs) (hb : ItemsAt w B rs) :
    Calls Tryd.prog 16 #[.slice A qs.length c, .slice B rs.length d] w fun e w' => e = .returned (.bool (sameQ qs rs)) ∧ Quiet w w' := by
  have HA := Lib.hid ha
  have HB := Lib.hid hb
  clear ha hb
  by_cases hn : qs.length = rs.length
  · have HNL := Lib.hid hn
    have dn : (((qs.length : Nat) : Int) == ((rs.length : Nat) : Int)) = true := by rw [beq_iff_eq]; omega
    have dm : (((qs.length : Nat) : Int) != ((rs.length : Nat) : Int)) = false := by rw [bne_eq_false_iff_eq]; omega
    clear hn
    go_enter Tryd.func16, Tryd.ntmps16
    go_wp2
    clear dn dm
    go_loopw [5] (fun i wr => ∃ k : Nat, k ≤ qs.length ∧ i = .int .i64 k ∧ Hid (∀ j, j < k → nthQ qs j = nthQ rs j) ∧ Quiet w wr) (fun i _ => qs.length - (intOf i).toNat)
    case atStart => exact ⟨0, Nat.zero_le _, rfl, Lib.hid (fun j hj => by omega), Quiet.refl _⟩
    case round =>
      obtain ⟨k, hk, rfl, HP, hq⟩ := hrel
      have QQ := Lib.hid hq
      clear hq
      by_cases hlt : k < qs.length
      · have hlt2 : k < rs.length := by have := HNL.out; omega
        obtain ⟨b1, o1, rfl, _, x0, x1, x2, x3⟩ := HA.out k hlt
        obtain ⟨b2, o2, rfl, _, y0, y1, y2, y3⟩ := HB.out k hlt2
        rw [← QQ.out.cell] at x0 x1 x2 x3 y0 y1 y2 y3
        have i0 : (0 : Int) ≤ (k : Int) := by omega
        have i1 : (k : Int) < ((qs.length : Nat) : Int) := by omega
        have i2 : (k : Int) < ((rs.length : Nat) : Int) := by omega
        by_cases he : nthQ qs k = nthQ rs k
        · have HP2 := Lib.hid (show ∀ j, j < k + 1 → nthQ qs j = nthQ rs j from fun j hj => by
            by_cases ej : j = k
            · subst ej; exact he
            · exact HP.out j (by omega))
          rw [← he] at y0 y1 y2 y3
          generalize nthQ qs k = q at x0 x1 x2 x3 y0 y1 y2 y3
          obtain ⟨q0, q1, q2, q3⟩ := q
          simp only [] at x0 x1 x2 x3 y0 y1 y2 y3
          clear he
          go_wp2
          go_quiet (fail)
          go_wp2
          go_roundw
          case rel => exact ⟨k + 1, by omega, by go_num, HP2, QQ.out.trans (Quiet.of _ _)⟩
          case measure => simp [intOf]; omega
        · have HX := Lib.hid (show false = sameQ qs rs from (decide_eq_false fun h => he (by rw [h])).symm)
          have hne := q_ne he
          generalize nthQ qs k = q at x0 x1 x2 x3 hne
          generalize nthQ rs k = r at y0 y1 y2 y3 hne
          obtain ⟨q0, q1, q2, q3⟩ := q
          obtain ⟨r0, r1, r2, r3⟩ := r
          simp only [] at x0 x1 x2 x3 y0 y1 y2 y3 hne
          clear he
          by_cases e0 : q0 = r0
          · subst e0
            by_cases e1 : q1 = r1
            · subst e1
              by_cases e2 : q2 = r2
              · subst e2
                have e3 : (q3 == r3) = false := by rw [beq_eq_false_iff_ne]; exact fun h => hne ⟨rfl, rfl, rfl, h⟩
                clear hne
                go_wp2
                go_quiet (fail)
                go_wp2
                go_ret
                exact ⟨ret_bool HX.out, QQ.out.trans (Quiet.of _ _)⟩
              · have e2' : (q2 == r2) = false := by rw [beq_eq_false_iff_ne]; exact e2
                clear hne e2
                go_wp2
                go_quiet (fail)
                go_wp2
                go_ret
                exact ⟨ret_bool HX.out, QQ.out.trans (Quiet.of _ _)⟩
            · have e1' : (q1 == r1) = false := by rw [beq_eq_false_iff_ne]; exact e1
              clear hne e1
              go_wp2
              go_quiet (fail)
              go_wp2
              go_ret
              exact ⟨ret_bool HX.out, QQ.out.trans (Quiet.of _ _)⟩
          · have e0' : (q0 == r0) = false := by rw [beq_eq_false_iff_ne]; exact e0
            clear hne e0
            go_wp2
            go_quiet (fail)
            go_wp2
            go_ret
            exact ⟨ret_bool HX.out, QQ.out.trans (Quiet.of _ _)⟩
      · obtain rfl : k = qs.length := by omega
        have HX := Lib.hid (show true = sameQ qs rs from (decide_eq_true (qs_ext HNL.out HP.out)).symm)
        clear hlt
        go_wp2
        go_ret
        exact ⟨ret_bool HX.out, QQ.out⟩
  · have dn : (((qs.length : Nat) : Int) == ((rs.length : Nat) : Int)) = false := by rw [beq_eq_false_iff_ne]; omega
    have dm : (((qs.length : Nat) : Int) != ((rs.length : Nat) : Int)) = true := by rw [bne_iff_ne]; omega
    have HX := Lib.hid (show false = sameQ qs rs from (decide_eq_false fun h => hn (by rw [h])).symm)
    clear hn
    go_enter Tryd.func16, Tryd.ntmps16
    go_wp2
    go_ret
    exact ⟨ret_bool HX.out, Quiet.refl _⟩
end Go.Proofs.YtjgifiaokmmjfaaDoor
