/- Contracts of slices.ContainsFunc over items (a rest among them), and of the compare of two lists of items (layers 12, 24). -/
import Derived.Test.YtahlegempjlbbaaDoorItmD
namespace Go.Proofs.YtahlegempjlbbaaDoor
open Go.RowKit
set_option linter.unusedVariables false

def restB (q : Q4) : Bool := decide (q.1 = 3)
theorem rest_one (q : Q4) (w : World) : Calls Tryd.prog 25 #[qv q] w fun e w' => e = .returned (.bool (restB q)) ∧ Below w.heap.size w w' := by
  obtain ⟨k, f, t, s⟩ := q
  unfold qv
  simp only []
  have HB := Lib.hid (show Below w.heap.size w (w.alloc (.cells #[.int .i64 k, .int .i64 f, .int .i64 t, .int .i64 s] 36)) from (Below.refl _ _).alloc (Nat.le_refl _) _)
  go_enter Tryd.func25, Tryd.ntmps25
  go_wp2
  go_ret
  refine ⟨ret_bool ?_, HB.out⟩
  unfold restB
  by_cases h : k = 3
  · subst h; rfl
  · rw [decide_eq_false h, beq_eq_false_iff_ne]; exact h
theorem any_no (p : Q4 → Bool) (qs : List Q4) (h : ∀ j, j < qs.length → p (nthQ qs j) = false) : qs.any p = false := by
  cases hh : qs.any p
  · rfl
  · obtain ⟨q, hq, hp⟩ := List.any_eq_true.1 hh
    obtain ⟨j, hj, rfl⟩ := List.getElem_of_mem hq
    have := h j hj
    unfold nthQ at this
    rw [List.getElem?_eq_getElem hj] at this
    rw [show p (qs[j]) = false from this] at hp
    cases hp
theorem any_yes (p : Q4 → Bool) (qs : List Q4) (j : Nat) (hj : j < qs.length) (h : p (nthQ qs j) = true) : qs.any p = true := by
  refine List.any_eq_true.2 ⟨qs[j], List.getElem_mem hj, ?_⟩
  unfold nthQ at h
  rw [List.getElem?_eq_getElem hj] at h
  exact h
set_option maxHeartbeats 1600000 in
theorem index_any (A : Option Addr) (c : Nat) (qs : List Q4) (w : World) (hl : qs.length ≤ 1000000) (hq : ItemsAt w A qs) :
    Calls Tryd.prog 34 #[.slice A qs.length c, .func (.func 25) #[] #[]] w fun e w' => ∃ n : Int, e = .returned (.int .i64 n) ∧ decide (0 ≤ n) = qs.any restB ∧ Below w.heap.size w w' := by
  have HQ := Lib.hid hq
  have HY := Lib.hid (any_yes restB qs)
  have HN := Lib.hid (any_no restB qs)
  have KR := Lib.hid (fun q W => rest_one q W)
  clear hq
  go_enter Tryd.func34, Tryd.ntmps34
  go_wp2
  go_loopw [8] (fun i wr => ∃ k : Nat, k ≤ qs.length ∧ i = .int .i64 k ∧ Hid (∀ j, j < k → restB (nthQ qs j) = false) ∧ Below w.heap.size w wr) (fun i _ => qs.length - (intOf i).toNat)
  case atStart => exact ⟨0, Nat.zero_le _, rfl, Lib.hid (fun j hj => by omega), Below.refl _ _⟩
  case round =>
    obtain ⟨k, hk, rfl, HP, hb⟩ := hrel
    have HB := Lib.hid hb
    by_cases hlt : k < qs.length
    · obtain ⟨b, off, rfl, hbl, x0, x1, x2, x3⟩ := HQ.out.below hb k hlt
      have HG := Lib.hid (show restB (nthQ qs k) = false → ∀ j, j < k + 1 → restB (nthQ qs j) = false from fun h j hj => by
        by_cases e : j = k
        · subst e; exact h
        · exact HP.out j (by omega))
      have HYY := Lib.hid (HY.out k hlt)
      clear hb
      obtain ⟨q, hq⟩ : ∃ q, nthQ qs k = q := ⟨_, rfl⟩
      rw [hq] at x0 x1 x2 x3 HG HYY
      clear hq
      have K := KR.out q wr
      obtain ⟨q0, q1, q2, q3⟩ := q
      simp only [] at x0 x1 x2 x3
      unfold qv at K
      simp only [] at K
      cases hm : restB (q0, q1, q2, q3)
      · rw [hm] at HG K
        have HP2 := Lib.hid (HG.out rfl)
        clear hm HYY
        go_wp2_with fail
        refine K.mono ?_
        rintro e w' ⟨rfl, hb2⟩
        have HB2 := Lib.hid (HB.out.trans (hb2.mono HB.out.size))
        clear hb2
        go_wp2
        go_roundw
        case rel => exact ⟨k + 1, by omega, by go_num, HP2, HB2.out⟩
        case measure => simp [intOf]; omega
      · rw [hm] at HYY K
        have HX := Lib.hid (HYY.out rfl)
        clear hm HG
        go_wp2_with fail
        refine K.mono ?_
        rintro e w' ⟨rfl, hb2⟩
        go_wp2
        go_ret
        exact ⟨(k : Int), rfl, by rw [HX.out]; exact decide_eq_true (by omega), HB.out.trans (hb2.mono HB.out.size)⟩
    · obtain rfl : k = qs.length := by omega
      have HX := Lib.hid (HN.out HP.out)
      clear hb hlt
      go_wp2
      go_ret
      exact ⟨-1, rfl, by rw [HX.out]; rfl, HB.out⟩
theorem contains_any (A : Option Addr) (c : Nat) (qs : List Q4) (w : World) (hl : qs.length ≤ 1000000) (hq : ItemsAt w A qs) :
    Calls Tryd.prog 27 #[.slice A qs.length c, .func (.func 25) #[] #[]] w fun e w' => e = .returned (.bool (qs.any restB)) ∧ Below w.heap.size w w' := by
  have K := index_any A c qs w hl hq
  go_enter Tryd.func27, Tryd.ntmps27
  go_wp2_with fail
  refine K.mono ?_
  rintro e w' ⟨n, rfl, hn, hb⟩
  go_wp2
  go_ret
  first
    | exact ⟨rfl, hb⟩
    | exact ⟨ret_bool hn, hb⟩
/-- two lists of items are the same if they are as long, and item by item -/
theorem qs_ext {qs rs : List Q4} (hl : qs.length = rs.length) (h : ∀ j, j < qs.length → nthQ qs j = nthQ rs j) : qs = rs := by
  apply List.ext_getElem hl
  intro n h1 h2
  have := h n h1
  unfold nthQ at this
  rwa [List.getElem?_eq_getElem h1, List.getElem?_eq_getElem h2] at this
def sameQ (qs rs : List Q4) : Bool := decide (qs = rs)
theorem q_ne {q r : Q4} (h : q ≠ r) : ¬ (q.1 = r.1 ∧ q.2.1 = r.2.1 ∧ q.2.2.1 = r.2.2.1 ∧ q.2.2.2 = r.2.2.2) := by
  obtain ⟨a, b, c, d⟩ := q
  obtain ⟨a', b', c', d'⟩ := r
  rintro ⟨h1, h2, h3, h4⟩
  simp only [] at h1 h2 h3 h4
  subst h1 h2 h3 h4
  exact h rfl
end Go.Proofs.YtahlegempjlbbaaDoor
