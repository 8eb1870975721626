/- Contracts of item.Right, of slices.ContainsFunc over items, of slices.Clone of items (layers 12, 24, 28). -/
import Derived.Test.YtahlegempjlbbaaDoorItmA
import Derived.LoopN
import Derived.LoopTactic
import Derived.WalkMore
import Derived.Deep.QuietTactic
import Derived.BigQuiet
import Derived.StillTailTactics
import Derived.OwnWalk
import Derived.Laws.AppendOwn
import Derived.Laws.OwnMore
namespace Go.Proofs.YtahlegempjlbbaaDoor
open Go.RowKit
set_option linter.unusedVariables false

theorem all_iff (p : Q4 → Bool) (qs : List Q4) : qs.all p = true ↔ ∀ j, j < qs.length → p (nthQ qs j) = true := by
  rw [List.all_eq_true]
  constructor
  · intro h j hj
    unfold nthQ
    rw [List.getElem?_eq_getElem hj]
    exact h _ (List.getElem_mem hj)
  · intro h q hq
    obtain ⟨j, hj, rfl⟩ := List.getElem_of_mem hq
    have := h j hj
    unfold nthQ at this
    rwa [List.getElem?_eq_getElem hj] at this
theorem all_no (p : Q4 → Bool) (qs : List Q4) (j : Nat) (hj : j < qs.length) (h : p (nthQ qs j) = false) : qs.all p = false := by
  cases hh : qs.all p
  · rfl
  · rw [(all_iff p qs).1 hh j hj] at h; cases h
def rightB (lo hi most : Int) (qs : List Q4) : Bool := decide (1 ≤ qs.length) && (decide ((qs.length : Int) ≤ most) && qs.all (mayB lo hi))
set_option maxHeartbeats 1600000 in
set_option maxRecDepth 20000 in
theorem right_any (lo hi most : Int) (A : Option Addr) (c : Nat) (qs : List Q4) (w : World) (hl : qs.length ≤ 1000000) (hq : ItemsAt w A qs) :
    Calls Tryd.prog 26 #[.int .i64 lo, .int .i64 hi, .int .i64 most, .slice A qs.length c] w fun e w' => e = .returned (.bool (rightB lo hi most qs)) ∧ Below w.heap.size w w' := by
  have HQ := Lib.hid hq
  clear hq
  by_cases h1 : 1 ≤ qs.length
  · have d1 : decide ((qs.length : Int) < 1) = false := dec_n (by omega)
    have d1' : decide (qs.length < 1) = false := dec_n (by omega)
    by_cases h2 : (qs.length : Int) ≤ most
    · have d2 : decide (most < (qs.length : Int)) = false := dec_n (by omega)
      have HR := Lib.hid (show rightB lo hi most qs = qs.all (mayB lo hi) by unfold rightB; rw [dec_t h1, dec_t h2]; rfl)
      have HA := Lib.hid (all_iff (mayB lo hi) qs)
      have HN := Lib.hid (all_no (mayB lo hi) qs)
      have KM := Lib.hid (fun q W => imay_any q lo hi W)
      rw [HR.out]
      go_enter Tryd.func26, Tryd.ntmps26
      go_wp2
      clear d1 d1' d2
      go_loopw [22] (fun i wr => ∃ k : Nat, k ≤ qs.length ∧ i = .int .i64 k ∧ Hid (∀ j, j < k → mayB lo hi (nthQ qs j) = true) ∧ Below w.heap.size w wr) (fun i _ => qs.length - (intOf i).toNat)
      case atStart => exact ⟨0, Nat.zero_le _, rfl, Lib.hid (fun j hj => by omega), Below.refl _ _⟩
      case round =>
        obtain ⟨k, hk, rfl, HP, hb⟩ := hrel
        have HB := Lib.hid hb
        by_cases hlt : k < qs.length
        · obtain ⟨b, off, rfl, hbl, x0, x1, x2, x3⟩ := HQ.out.below hb k hlt
          have hmn := HN.out k hlt
          have HG := Lib.hid (show mayB lo hi (nthQ qs k) = true → ∀ j, j < k + 1 → mayB lo hi (nthQ qs j) = true from fun h j hj => by
            by_cases e : j = k
            · subst e; exact h
            · exact HP.out j (by omega))
          have HNN := Lib.hid hmn
          clear hb hmn
          obtain ⟨q, hq⟩ : ∃ q, nthQ qs k = q := ⟨_, rfl⟩
          rw [hq] at x0 x1 x2 x3 HG HNN
          clear hq
          have K := KM.out q
          obtain ⟨q0, q1, q2, q3⟩ := q
          simp only [] at x0 x1 x2 x3
          unfold qv at K
          simp only [] at K
          cases hm : mayB lo hi (q0, q1, q2, q3)
          · rw [hm] at HNN K
            have HX := Lib.hid (HNN.out rfl)
            clear hm HG
            go_wp2_with fail
            refine (K _).mono ?_
            rintro e w' ⟨rfl, hb2⟩
            go_wp2
            go_ret
            exact ⟨ret_bool HX.out.symm, (HB.out.alloc HB.out.size _).trans (hb2.mono (by have := HB.out.size; simp; omega))⟩
          · rw [hm] at HG K
            have HP2 := HG.out rfl
            have HP2 := Lib.hid HP2
            clear hm HNN
            go_wp2_with fail
            refine (K _).mono ?_
            rintro e w' ⟨rfl, hb2⟩
            have HB2 := Lib.hid ((HB.out.alloc HB.out.size _).trans (hb2.mono (by have := HB.out.size; simp; omega)))
            clear hb2
            go_wp2
            go_roundw
            case rel => exact ⟨k + 1, by omega, by go_num, HP2, HB2.out⟩
            case measure => simp [intOf]; omega
        · obtain rfl : k = qs.length := by omega
          have HX := Lib.hid (HA.out.2 HP.out)
          clear hb hlt
          go_wp2
          go_ret
          exact ⟨ret_bool HX.out.symm, HB.out⟩
    · have d2 : decide (most < (qs.length : Int)) = true := dec_t (by omega)
      have HR := Lib.hid (show false = rightB lo hi most qs by unfold rightB; rw [dec_n h2]; simp)
      go_enter Tryd.func26, Tryd.ntmps26
      go_wp2
      go_ret
      exact ⟨ret_bool HR.out, Below.refl _ _⟩
  · have d1 : decide ((qs.length : Int) < 1) = true := dec_t (by omega)
    have d1' : decide (qs.length < 1) = true := dec_t (by omega)
    have HR := Lib.hid (show false = rightB lo hi most qs by unfold rightB; rw [dec_n h1]; rfl)
    go_enter Tryd.func26, Tryd.ntmps26
    go_wp2
    go_ret
    exact ⟨ret_bool HR.out, Below.refl _ _⟩
end Go.Proofs.YtahlegempjlbbaaDoor
