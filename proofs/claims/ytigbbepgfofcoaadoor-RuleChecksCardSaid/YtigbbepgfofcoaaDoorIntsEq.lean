/- Contract of the compare of two lists of integers. -/
import Derived.Test.YtigbbepgfofcoaaDoorOwn
import Derived.LoopN
import Derived.LoopTactic
import Derived.WalkMore
import Derived.Deep.QuietTactic
import Derived.BigQuiet
import Derived.StillTailTactics
namespace Go.Proofs.YtigbbepgfofcoaaDoor
open Go.RowKit
set_option linter.unusedVariables false

theorem quiet_cell {w w' : World} (h : Quiet w w') (a : Addr) : w'.cell? a = w.cell? a := by obtain ⟨n, rfl⟩ := h; rfl
theorem list_ext' {xs ys : List Int} (hl : xs.length = ys.length) (h : ∀ j, j < xs.length → xs[j]?.getD 0 = ys[j]?.getD 0) : xs = ys := by
  apply List.ext_getElem hl
  intro n h1 h2
  have := h n h1
  rw [List.getElem?_eq_getElem h1, List.getElem?_eq_getElem h2] at this
  exact this
set_option maxHeartbeats 800000 in
theorem ints_any (b : Bool) (A B : Option Addr) (c d : Nat) (xs ys : List Int) (w : World) (hl : xs.length ≤ 1000000000) (hl2 : ys.length ≤ 1000000000) (hx : Ints .i64 w A xs) (hy : Ints .i64 w B ys) (hb : b = true ↔ xs = ys) :
    Calls Tryd.prog 64 #[.slice A xs.length c, .slice B ys.length d] w fun e w' => e = .returned (.bool b) ∧ Quiet w w' := by
  have HX := Lib.hid hx
  have HY := Lib.hid hy
  have HB := Lib.hid hb
  clear hx hy hb
  by_cases hne : xs.length = ys.length
  · have dn : (((xs.length : Nat) : Int) == ((ys.length : Nat) : Int)) = true := by rw [beq_iff_eq]; omega
    have dm : (((xs.length : Nat) : Int) != ((ys.length : Nat) : Int)) = false := by rw [bne_eq_false_iff_eq]; omega
    have HN := Lib.hid hne
    clear hne
    go_enter Tryd.func64, Tryd.ntmps64
    go_wp2
    clear dn dm
    go_loopw [5] (fun i wr => ∃ k : Nat, k ≤ xs.length ∧ i = .int .i64 k ∧ Hid (∀ j, j < k → xs[j]?.getD 0 = ys[j]?.getD 0) ∧ Quiet w wr) (fun i _ => xs.length - (intOf i).toNat)
    case atStart => exact ⟨0, Nat.zero_le _, rfl, Lib.hid (fun j hj => by omega), Quiet.refl _⟩
    case round =>
      obtain ⟨k, hk, rfl, HP, hq⟩ := hrel
      have QQ := Lib.hid hq
      clear hq
      by_cases hlt : k < xs.length
      · have hlt2 : k < ys.length := by rw [← HN.out]; exact hlt
        obtain ⟨b1, o1, rfl, _, e1⟩ := HX.out k hlt
        obtain ⟨b2, o2, rfl, _, e2⟩ := HY.out k hlt2
        have c1 := (quiet_cell QQ.out ⟨b1, o1 + k, none⟩).trans e1
        have c2 := (quiet_cell QQ.out ⟨b2, o2 + k, none⟩).trans e2
        have i0 : (0 : Int) ≤ (k : Int) := by omega
        have i1 : (k : Int) < ((xs.length : Nat) : Int) := by omega
        have i2 : (k : Int) < ((ys.length : Nat) : Int) := by omega
        have HD := Lib.hid (show xs[k]?.getD 0 = xs[k]?.getD 0 from rfl)
        by_cases he : xs[k]?.getD 0 = ys[k]?.getD 0
        · have HP2 := Lib.hid (show ∀ j, j < k + 1 → xs[j]?.getD 0 = ys[j]?.getD 0 from fun j hj => by
            by_cases ej : j = k
            · subst ej; exact he
            · exact HP.out j (by omega))
          rw [← he] at c2
          generalize xs[k]?.getD 0 = z at c1 c2
          clear e1 e2 he HD
          go_wp2
          go_quiet (fail)
          go_wp2
          go_roundw
          case rel => exact ⟨k + 1, by omega, by go_num, HP2, QQ.out.trans (Quiet.of _ _)⟩
          case measure => simp [intOf]; omega
        · have HF := Lib.hid (show false = b by
            cases b
            · rfl
            · exact absurd (congrArg (fun l => l[k]?.getD 0) (HB.out.1 rfl)) he)
          have d1 : (xs[k]?.getD 0 == ys[k]?.getD 0) = false := by rw [beq_eq_false_iff_ne]; exact he
          have d2 : (xs[k]?.getD 0 != ys[k]?.getD 0) = true := by rw [bne_iff_ne]; exact he
          generalize xs[k]?.getD 0 = z at c1 d1 d2
          generalize ys[k]?.getD 0 = y at c2 d1 d2
          clear e1 e2 he HD
          go_wp2
          go_quiet (fail)
          go_wp2
          go_ret
          exact ⟨ret_bool HF.out, QQ.out.trans (Quiet.of _ _)⟩
      · obtain rfl : k = xs.length := by omega
        have HF := Lib.hid (show true = b from (HB.out.2 (list_ext' HN.out HP.out)).symm)
        clear hlt
        go_wp2
        go_ret
        exact ⟨ret_bool HF.out, QQ.out⟩
  · have dn : (((xs.length : Nat) : Int) == ((ys.length : Nat) : Int)) = false := by rw [beq_eq_false_iff_ne]; omega
    have dm : (((xs.length : Nat) : Int) != ((ys.length : Nat) : Int)) = true := by rw [bne_iff_ne]; omega
    have HF := Lib.hid (show false = b by
      cases b
      · rfl
      · exact absurd (congrArg List.length (HB.out.1 rfl)) hne)
    clear hne
    go_enter Tryd.func64, Tryd.ntmps64
    go_wp2
    go_ret
    exact ⟨ret_bool HF.out, Quiet.refl _⟩
end Go.Proofs.YtigbbepgfofcoaaDoor
