/- Contracts of the document's May and of Ints (layers 2 and 3). -/
import Derived.Test.YtjlieamjlelipaaCoverE
namespace Go.Proofs.Ytjlieamjlelipaa
open Go.RowKit
set_option linter.unusedVariables false

theorem list_ext' {xs ys : List Int} (hl : xs.length = ys.length) (h : ∀ j, j < xs.length → xs[j]?.getD 0 = ys[j]?.getD 0) : xs = ys := by
  apply List.ext_getElem hl
  intro n h1 h2
  have := h n h1
  rw [List.getElem?_eq_getElem h1, List.getElem?_eq_getElem h2] at this
  exact this
set_option maxHeartbeats 800000 in
theorem ints_any (b : Bool) (A B : Option Addr) (c d : Nat) (xs ys : List Int) (w : World) (hl : xs.length ≤ 1000000000) (hl2 : ys.length ≤ 1000000000) (hx : Ints .i64 w A xs) (hy : Ints .i64 w B ys) (hb : b = true ↔ xs = ys) :
    Calls Try.prog 8 #[.slice A xs.length c, .slice B ys.length d] w fun e w' => e = .returned (.bool b) ∧ Quiet w w' := by
  have HX := Lib.hid hx
  have HY := Lib.hid hy
  have HB := Lib.hid hb
  clear hx hy hb
  by_cases hne : xs.length = ys.length
  · have dn : (((xs.length : Nat) : Int) == ((ys.length : Nat) : Int)) = true := by rw [beq_iff_eq]; omega
    have dm : (((xs.length : Nat) : Int) != ((ys.length : Nat) : Int)) = false := by rw [bne_eq_false_iff_eq]; omega
    have HN := Lib.hid hne
    clear hne
    go_enter Try.func8, Try.ntmps8
    go_wp2
    clear dn dm
    go_loopw [5] (fun i wr => ∃ k : Nat, k ≤ xs.length ∧ i = .int .i64 k ∧ Hid (∀ j, j < k → xs[j]?.getD 0 = ys[j]?.getD 0) ∧ Quiet w wr) (fun i _ => xs.length - (intOf i).toNat)
    case atStart => exact ⟨0, Nat.zero_le _, rfl, Lib.hid (fun j hj => by omega), Quiet.refl _⟩
    case round =>
      obtain ⟨k, hk, rfl, HP, hq⟩ := hrel
      have QQ := Lib.hid hq
      clear hq
      by_cases hlt : k < xs.length
      · have hlt2 : k < ys.length := by rw [← HN.out]; exact hlt
        obtain ⟨b1, o1, rfl, _, e1⟩ := HX.out k hlt
        obtain ⟨b2, o2, rfl, _, e2⟩ := HY.out k hlt2
        have c1 := (QQ.out.cell ⟨b1, o1 + k, none⟩).trans e1
        have c2 := (QQ.out.cell ⟨b2, o2 + k, none⟩).trans e2
        have i0 : (0 : Int) ≤ (k : Int) := by omega
        have i1 : (k : Int) < ((xs.length : Nat) : Int) := by omega
        have i2 : (k : Int) < ((ys.length : Nat) : Int) := by omega
        have HD := Lib.hid (show xs[k]?.getD 0 = xs[k]?.getD 0 from rfl)
        by_cases he : xs[k]?.getD 0 = ys[k]?.getD 0
        · have HP2 := Lib.hid (show ∀ j, j < k + 1 → xs[j]?.getD 0 = ys[j]?.getD 0 from fun j hj => by
            by_cases ej : j = k
            · subst ej; exact he
            · exact HP.out j (by omega))
          rw [← he] at c2
          generalize xs[k]?.getD 0 = z at c1 c2
          clear e1 e2 he HD
          go_wp2
          go_quiet (fail)
          go_wp2
          go_roundw
          case rel => exact ⟨k + 1, by omega, by go_num, HP2, QQ.out.trans (Quiet.of _ _)⟩
          case measure => simp [intOf]; omega
        · have HF := Lib.hid (show false = b by
            cases b
            · rfl
            · exact absurd (congrArg (fun l => l[k]?.getD 0) (HB.out.1 rfl)) he)
          have d1 : (xs[k]?.getD 0 == ys[k]?.getD 0) = false := by rw [beq_eq_false_iff_ne]; exact he
          have d2 : (xs[k]?.getD 0 != ys[k]?.getD 0) = true := by rw [bne_iff_ne]; exact he
          generalize xs[k]?.getD 0 = z at c1 d1 d2
          generalize ys[k]?.getD 0 = y at c2 d1 d2
          clear e1 e2 he HD
          go_wp2
          go_quiet (fail)
          go_wp2
          go_ret
          exact ⟨ret_bool HF.out, QQ.out.trans (Quiet.of _ _)⟩
      · obtain rfl : k = xs.length := by omega
        have HF := Lib.hid (show true = b from (HB.out.2 (list_ext' HN.out HP.out)).symm)
        clear hlt
        go_wp2
        go_ret
        exact ⟨ret_bool HF.out, QQ.out⟩
  · have dn : (((xs.length : Nat) : Int) == ((ys.length : Nat) : Int)) = false := by rw [beq_eq_false_iff_ne]; omega
    have dm : (((xs.length : Nat) : Int) != ((ys.length : Nat) : Int)) = true := by rw [bne_iff_ne]; omega
    have HF := Lib.hid (show false = b by
      cases b
      · rfl
      · exact absurd (congrArg List.length (HB.out.1 rfl)) hne)
    clear hne
    go_enter Try.func8, Try.ntmps8
    go_wp2
    go_ret
    exact ⟨ret_bool HF.out, Quiet.refl _⟩
set_option maxHeartbeats 1600000 in
theorem may_any (b : Bool) (A : Option Addr) (c : Nat) (zs : List Int) (w : World) (hl : zs.length ≤ 1000000) (hc : Ints .i64 w A zs) (hb : b = true ↔ Rise zs) :
    Calls Try.prog 10 #[.slice A zs.length c] w fun e w' => e = .returned (.bool b) ∧ Quiet w w' := by
  have HC := Lib.hid hc
  have HB := Lib.hid hb
  clear hc hb
  go_enter Try.func10, Try.ntmps10
  go_wp2
  go_loopw [3] (fun i wr => ∃ k : Nat, k ≤ zs.length ∧ i = .int .i64 k ∧ Hid (∀ j, j < k → goodAt zs j) ∧ Quiet w wr) (fun i _ => zs.length - (intOf i).toNat)
  case atStart => exact ⟨0, Nat.zero_le _, rfl, Lib.hid (fun j hj => by omega), Quiet.refl _⟩
  case round =>
    obtain ⟨k, hk, rfl, HP, hq⟩ := hrel
    have QQ := Lib.hid hq
    clear hq
    by_cases hlt : k < zs.length
    · obtain ⟨b', off, rfl, hb', e0⟩ := HC.out k hlt
      have c0 := (QQ.out.cell ⟨b', off + k, none⟩).trans e0
      have i0 : (0 : Int) ≤ (k : Int) := by omega
      have i1 : (k : Int) < ((zs.length : Nat) : Int) := by omega
      have HW := Lib.hid (show ¬ goodAt zs k → false = b from fun hn => by
        cases b
        · rfl
        · exact absurd (HB.out.1 rfl k hlt) hn)
      have HG := Lib.hid (show goodAt zs k → ∀ j, j < k + 1 → goodAt zs j from fun hg j hj => by
        by_cases e : j = k
        · subst e; exact hg
        · exact HP.out j (by omega))
      unfold goodAt at HW HG
      by_cases h1 : zs[k]?.getD 0 < 0
      · have HX := Lib.hid (HW.out (fun h => by omega))
        have d1 := dec_t h1
        generalize zs[k]?.getD 0 = z at c0 d1
        clear h1 e0
        go_wp2
        go_quiet (fail)
        go_wp2
        go_ret
        exact ⟨ret_bool HX.out, QQ.out.trans (Quiet.of _ _)⟩
      · have d1 := dec_n h1
        by_cases h2 : 9999 < zs[k]?.getD 0
        · have HX := Lib.hid (HW.out (fun h => by omega))
          have d2 := dec_t h2
          generalize zs[k]?.getD 0 = z at c0 d1 d2
          clear h1 h2 e0
          go_wp2
          go_quiet (fail)
          go_wp2
          go_ret
          exact ⟨ret_bool HX.out, QQ.out.trans (Quiet.of _ _)⟩
        · have d2 := dec_n h2
          by_cases h3 : k = 0
          · have HX := Lib.hid (HG.out ⟨by omega, by omega, fun h => by omega⟩)
            have d3 : decide ((0 : Int) < (k : Int)) = false := dec_n (by omega)
            have d4 : decide (0 < k) = false := dec_n (by omega)
            generalize zs[k]?.getD 0 = z at c0 d1 d2
            clear h1 h2 h3 e0
            go_wp2
            go_quiet (fail)
            go_wp2
            go_roundw
            case rel => exact ⟨k + 1, by omega, by go_num, Lib.hid (fun j hj => HX.out j hj), QQ.out.trans (Quiet.of _ _)⟩
            case measure => simp [intOf]; omega
          · obtain ⟨b3, off3, hA, _, e1⟩ := HC.out (k - 1) (by omega)
            cases hA
            have c1 := (QQ.out.cell ⟨b', off + (k - 1), none⟩).trans e1
            have d3 : decide ((0 : Int) < (k : Int)) = true := dec_t (by omega)
            have d4 : decide (0 < k) = true := dec_t (by omega)
            have t3 : IntKind.i64.wrap ((k : Int) - 1) = (k : Int) - 1 := IntWalk.i64_in _ ⟨by omega, by omega⟩
            have t4 : ((k : Int) - 1).toNat = k - 1 := by omega
            have j0 : (0 : Int) ≤ (k : Int) - 1 := by omega
            have j1 : (k : Int) - 1 < ((zs.length : Nat) : Int) := by omega
            by_cases h4 : zs[k]?.getD 0 ≤ zs[k - 1]?.getD 0
            · have HX := Lib.hid (HW.out (fun h => by have := h.2.2 (by omega); omega))
              have d5 := dec_t h4
              generalize zs[k]?.getD 0 = z at c0 d1 d2 d5
              generalize zs[k - 1]?.getD 0 = y at c1 d5
              clear h1 h2 h3 h4 e0 e1
              go_wp2
              go_quiet (fail)
              go_wp2
              go_ret
              exact ⟨ret_bool HX.out, QQ.out.trans (Quiet.of _ _)⟩
            · have HX := Lib.hid (HG.out ⟨by omega, by omega, fun h => by omega⟩)
              have d5 := dec_n h4
              generalize zs[k]?.getD 0 = z at c0 d1 d2 d5
              generalize zs[k - 1]?.getD 0 = y at c1 d5
              clear h1 h2 h3 h4 e0 e1
              go_wp2
              go_quiet (fail)
              go_wp2
              go_roundw
              case rel => exact ⟨k + 1, by omega, by go_num, Lib.hid (fun j hj => HX.out j hj), QQ.out.trans (Quiet.of _ _)⟩
              case measure => simp [intOf]; omega
    · obtain rfl : k = zs.length := by omega
      have HX := Lib.hid (show true = b from (HB.out.2 (fun j hj => HP.out j hj)).symm)
      go_wp2
      go_ret
      exact ⟨ret_bool HX.out, QQ.out⟩
end Go.Proofs.Ytjlieamjlelipaa
