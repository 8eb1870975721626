/- Contracts of cover.Of over numbers that do not rise, and of same (layer 3). -/
import Derived.Test.YtjlieamjlelipaaDoorCvG
namespace Go.Proofs.YtjlieamjlelipaaDoor
open Go.RowKit
set_option linter.unusedVariables false

set_option maxHeartbeats 800000 in
theorem of_no (A : Option Addr) (c : Nat) (zs : List Int) (w : World) (hl : zs.length ≤ 100000) (hc : Ints .i64 w A zs) (hr : ¬ Rise zs) :
    Calls Tryd.prog 31 #[.slice A zs.length c] w fun e w' => e = .returned (.slice none 0 0) ∧ w = w' := by
  have K1 := rise_any false A c zs w (by omega) hc ⟨fun h => (by cases h), fun h => absurd h hr⟩
  clear hc hr
  go_enter Tryd.func31, Tryd.ntmps31
  go_wp2_with fail
  refine K1.mono ?_
  rintro e w' ⟨rfl, rfl⟩
  go_wp2
  go_ret
  exact ⟨rfl, rfl⟩
set_option maxHeartbeats 1600000 in
theorem same_any (A B : Option Addr) (c d : Nat) (ps : List P3) (w : World) (hl : ps.length ≤ 1000000) (ha : PiecesAt w A ps) (hb : PiecesAt w B ps) :
    Calls Tryd.prog 30 #[.slice A ps.length c, .slice B ps.length d] w fun e w' => e = .returned (.bool true) ∧ Quiet w w' := by
  have HA := Lib.hid ha
  have HB := Lib.hid hb
  clear ha hb
  have dn : (((ps.length : Nat) : Int) == ((ps.length : Nat) : Int)) = true := by rw [beq_iff_eq]
  have dm : (((ps.length : Nat) : Int) != ((ps.length : Nat) : Int)) = false := by rw [bne_eq_false_iff_eq]
  go_enter Tryd.func30, Tryd.ntmps30
  go_wp2
  clear dn dm
  go_loopw [5] (fun i wr => ∃ k : Nat, k ≤ ps.length ∧ i = .int .i64 k ∧ Quiet w wr) (fun i _ => ps.length - (intOf i).toNat)
  case atStart => exact ⟨0, Nat.zero_le _, rfl, Quiet.refl _⟩
  case round =>
    obtain ⟨k, hk, rfl, hq⟩ := hrel
    have QQ := Lib.hid hq
    clear hq
    by_cases hlt : k < ps.length
    · obtain ⟨b1, o1, rfl, _, x0, x1, x2⟩ := HA.out k hlt
      obtain ⟨b2, o2, rfl, _, y0, y1, y2⟩ := HB.out k hlt
      rw [← QQ.out.cell] at x0 x1 x2 y0 y1 y2
      generalize nthP ps k = p at x0 x1 x2 y0 y1 y2
      obtain ⟨p1, p2, p3⟩ := p
      simp only [] at x0 x1 x2 y0 y1 y2
      have i0 : (0 : Int) ≤ (k : Int) := by omega
      have i1 : (k : Int) < ((ps.length : Nat) : Int) := by omega
      go_wp2
      go_quiet (fail)
      go_wp2
      go_roundw
      case rel => exact ⟨k + 1, by omega, by go_num, QQ.out.trans (Quiet.of _ _)⟩
      case measure => simp [intOf]; omega
    · obtain rfl : k = ps.length := by omega
      go_wp2
      go_ret
      exact ⟨rfl, QQ.out⟩
end Go.Proofs.YtjlieamjlelipaaDoor
