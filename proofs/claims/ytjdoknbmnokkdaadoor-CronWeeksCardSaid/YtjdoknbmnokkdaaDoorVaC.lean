/- What numbers items have, by the document (layer 12). -/
import Derived.Test.YtjdoknbmnokkdaaDoorVaB
namespace Go.Proofs.YtjdoknbmnokkdaaDoor
open Go.RowKit
set_option linter.unusedVariables false

def hitZ (f l st : Int) (n : Int) : Bool := decide (f ≤ n ∧ n ≤ l ∧ (n - f) % st = 0)
theorem hit_nat (f l st : Int) (j : Nat) : hitN f l st j = hitZ f l st (j : Int) := rfl
theorem tmod_nn (d st : Int) (h : 0 ≤ d) : Int.tmod d st = d % st := Int.tmod_eq_emod_of_nonneg h
theorem emod_bd (d st : Int) (h : 1 ≤ st) (hs : st ≤ 999) : 0 ≤ d % st ∧ d % st < 999 := by
  have a := Int.emod_nonneg d (show st ≠ 0 by omega)
  have b := Int.emod_lt_of_pos d (show 0 < st by omega)
  omega
theorem beq_dec (a b : Int) : (a == b) = decide (a = b) := by rw [Bool.eq_iff_iff, beq_iff_eq, decide_eq_true_eq]
set_option maxHeartbeats 3200000 in
set_option maxRecDepth 20000 in
theorem rihas_any (q : Q4) (lo hi n : Int) (hm : mayB lo hi q = true) (hn1 : -20000 ≤ n) (hn2 : n ≤ 20000) (w : World) : Calls Tryd.prog 121 #[qv q, .int .i64 lo, .int .i64 hi, .int .i64 n] w fun e w' => e = .returned (.bool (hitZ (nb lo hi q).1 (nb lo hi q).2.1 (nb lo hi q).2.2 n)) ∧ Below w.heap.size w w' := by
  unfold mayB at hm
  rw [decide_eq_true_eq] at hm
  obtain ⟨a, b, c, d⟩ := q
  obtain ⟨⟨h1, h2, h3⟩, hk⟩ := hm
  simp only at hk
  have HB0 := Lib.hid (show Below w.heap.size w (w.alloc (.cells #[.int .i64 a, .int .i64 b, .int .i64 c, .int .i64 d] 32)) from (Below.refl _ _).alloc (Nat.le_refl _) _)
  have hx := blk_new w (.cells #[.int .i64 a, .int .i64 b, .int .i64 c, .int .i64 d] 32)
  have x0 := blk_cell hx 0
  have x1 := blk_cell hx 1
  have x2 := blk_cell hx 2
  have x3 := blk_cell hx 3
  unfold qv nb hitZ
  simp only
  generalize hW0 : w.alloc (.cells #[.int .i64 a, .int .i64 b, .int .i64 c, .int .i64 d] 32) = W0 at *
  clear hx
  by_cases g1 : n < lo
  · have d1 : decide (n < lo) = true := dec_t g1
    have HE := Lib.hid (show ∀ f l st : Int, lo ≤ f → decide (f ≤ n ∧ n ≤ l ∧ (n - f) % st = 0) = false from fun f l st h => dec_n (by omega))
    have HF := Lib.hid (show lo ≤ (if a = 0 then (lo, hi, d) else if a = 1 then (b, b, 1) else if a = 2 then (b, c, d) else (b, hi, d)).1 by
      split
      · exact Int.le_refl _
      · split
        · show lo ≤ b; omega
        · split <;> (show lo ≤ b; omega))
    rw [HE.out _ _ _ HF.out]
    clear HE HF hk h1 h2 h3 g1 hn1 hn2
    go_enter Tryd.func121, Tryd.ntmps121
    go_wp2
    go_ret
    exact ⟨rfl, HB0.out⟩
  · have d1 : decide (n < lo) = false := dec_n g1
    by_cases g2 : hi < n
    · have d2 : decide (hi < n) = true := dec_t g2
      have HE := Lib.hid (show ∀ f l st : Int, l ≤ hi → decide (f ≤ n ∧ n ≤ l ∧ (n - f) % st = 0) = false from fun f l st h => dec_n (by omega))
      have HF := Lib.hid (show (if a = 0 then (lo, hi, d) else if a = 1 then (b, b, 1) else if a = 2 then (b, c, d) else (b, hi, d)).2.1 ≤ hi by
        split
        · exact Int.le_refl _
        · split
          · show b ≤ hi; omega
          · split
            · show c ≤ hi; omega
            · exact Int.le_refl _)
      rw [HE.out _ _ _ HF.out]
      clear HE HF hk h1 h2 h3 g1 g2 hn1 hn2
      go_enter Tryd.func121, Tryd.ntmps121
      go_wp2
      go_ret
      exact ⟨rfl, HB0.out⟩
    · have d2 : decide (hi < n) = false := dec_n g2
      rcases hk with ⟨k0, k1, k2, k3, k4⟩ | ⟨k0, k1, k2, k3, k4⟩ | ⟨k0, k1, k2, k3, k4, k5⟩ | ⟨k0, k1, k2, k3, k4, k5⟩
      · subst k0
        rw [if_pos rfl]
        have t1 : IntKind.i64.wrap (n - lo) = n - lo := IntWalk.i64_in _ ⟨by omega, by omega⟩
        have t2 := tmod_nn (n - lo) d (by omega)
        obtain ⟨m1, m2⟩ := emod_bd (n - lo) d k3 k4
        have t3 : IntKind.i64.wrap ((n - lo) % d) = (n - lo) % d := IntWalk.i64_in _ ⟨by omega, by omega⟩
        have t4 : (d == 0) = false := by rw [beq_eq_false_iff_ne]; omega
        have t5 : ¬ d = 0 := by omega
        have t6 := beq_dec ((n - lo) % d) 0
        have HE := Lib.hid (show decide (lo ≤ n ∧ n ≤ hi ∧ (n - lo) % d = 0) = decide ((n - lo) % d = 0) from decide_eq_decide.2 ⟨fun h => h.2.2, fun h => ⟨by omega, by omega, h⟩⟩)
        show Calls Tryd.prog 121 #[.agg #[.int .i64 0, .int .i64 b, .int .i64 c, .int .i64 d], .int .i64 lo, .int .i64 hi, .int .i64 n] w fun e w' => e = .returned (.bool (decide (lo ≤ n ∧ n ≤ hi ∧ (n - lo) % d = 0))) ∧ Below w.heap.size w w'
        rw [HE.out]
        generalize decide ((n - lo) % d = 0) = z at t6 ⊢
        clear HE h1 h2 h3 g1 g2 hn1 hn2 k1 k2 k3 k4 m1 m2
        go_enter Tryd.func121, Tryd.ntmps121
        go_wp2
        go_ret
        exact ⟨rfl, HB0.out⟩
      · subst k0
        rw [if_neg (by decide), if_pos rfl]
        have t6 := beq_dec n b
        have HE := Lib.hid (show decide (b ≤ n ∧ n ≤ b ∧ (n - b) % 1 = 0) = decide (n = b) from decide_eq_decide.2 ⟨fun h => by omega, fun h => ⟨by omega, by omega, by omega⟩⟩)
        show Calls Tryd.prog 121 #[.agg #[.int .i64 1, .int .i64 b, .int .i64 c, .int .i64 d], .int .i64 lo, .int .i64 hi, .int .i64 n] w fun e w' => e = .returned (.bool (decide (b ≤ n ∧ n ≤ b ∧ (n - b) % 1 = 0))) ∧ Below w.heap.size w w'
        rw [HE.out]
        generalize decide (n = b) = z at t6 ⊢
        clear HE h1 h2 h3 g1 g2 hn1 hn2 k1 k2 k3 k4
        go_enter Tryd.func121, Tryd.ntmps121
        go_wp2
        go_ret
        exact ⟨rfl, HB0.out⟩
      · subst k0
        rw [if_neg (by decide), if_neg (by decide), if_pos rfl]
        show Calls Tryd.prog 121 #[.agg #[.int .i64 2, .int .i64 b, .int .i64 c, .int .i64 d], .int .i64 lo, .int .i64 hi, .int .i64 n] w fun e w' => e = .returned (.bool (decide (b ≤ n ∧ n ≤ c ∧ (n - b) % d = 0))) ∧ Below w.heap.size w w'
        by_cases g3 : b ≤ n
        · have d3 : decide (b ≤ n) = true := dec_t g3
          by_cases g4 : n ≤ c
          · have d4 : decide (n ≤ c) = true := dec_t g4
            have t1 : IntKind.i64.wrap (n - b) = n - b := IntWalk.i64_in _ ⟨by omega, by omega⟩
            have t2 := tmod_nn (n - b) d (by omega)
            obtain ⟨m1, m2⟩ := emod_bd (n - b) d k4 k5
            have t3 : IntKind.i64.wrap ((n - b) % d) = (n - b) % d := IntWalk.i64_in _ ⟨by omega, by omega⟩
            have t4 : (d == 0) = false := by rw [beq_eq_false_iff_ne]; omega
            have t5 : ¬ d = 0 := by omega
            have t6 := beq_dec ((n - b) % d) 0
            have HE := Lib.hid (show decide (b ≤ n ∧ n ≤ c ∧ (n - b) % d = 0) = decide ((n - b) % d = 0) from decide_eq_decide.2 ⟨fun h => h.2.2, fun h => ⟨by omega, by omega, h⟩⟩)
            rw [HE.out]
            generalize decide ((n - b) % d = 0) = z at t6 ⊢
            clear HE h1 h2 h3 g1 g2 hn1 hn2 k1 k2 k3 k4 k5 m1 m2 g3 g4
            go_enter Tryd.func121, Tryd.ntmps121
            go_wp2
            go_ret
            exact ⟨rfl, HB0.out⟩
          · have d4 : decide (n ≤ c) = false := dec_n g4
            rw [dec_n (show ¬ (b ≤ n ∧ n ≤ c ∧ (n - b) % d = 0) by omega)]
            clear h1 h2 h3 g1 g2 hn1 hn2 k1 k2 k3 k4 k5 g3 g4
            go_enter Tryd.func121, Tryd.ntmps121
            go_wp2
            go_ret
            exact ⟨rfl, HB0.out⟩
        · have d3 : decide (b ≤ n) = false := dec_n g3
          rw [dec_n (show ¬ (b ≤ n ∧ n ≤ c ∧ (n - b) % d = 0) by omega)]
          clear h1 h2 h3 g1 g2 hn1 hn2 k1 k2 k3 k4 k5 g3
          go_enter Tryd.func121, Tryd.ntmps121
          go_wp2
          go_ret
          exact ⟨rfl, HB0.out⟩
      · subst k0
        rw [if_neg (by decide), if_neg (by decide), if_neg (by decide)]
        show Calls Tryd.prog 121 #[.agg #[.int .i64 3, .int .i64 b, .int .i64 c, .int .i64 d], .int .i64 lo, .int .i64 hi, .int .i64 n] w fun e w' => e = .returned (.bool (decide (b ≤ n ∧ n ≤ hi ∧ (n - b) % d = 0))) ∧ Below w.heap.size w w'
        by_cases g3 : b ≤ n
        · have d3 : decide (b ≤ n) = true := dec_t g3
          have t1 : IntKind.i64.wrap (n - b) = n - b := IntWalk.i64_in _ ⟨by omega, by omega⟩
          have t2 := tmod_nn (n - b) d (by omega)
          obtain ⟨m1, m2⟩ := emod_bd (n - b) d k4 k5
          have t3 : IntKind.i64.wrap ((n - b) % d) = (n - b) % d := IntWalk.i64_in _ ⟨by omega, by omega⟩
          have t4 : (d == 0) = false := by rw [beq_eq_false_iff_ne]; omega
          have t5 : ¬ d = 0 := by omega
          have t6 := beq_dec ((n - b) % d) 0
          have HE := Lib.hid (show decide (b ≤ n ∧ n ≤ hi ∧ (n - b) % d = 0) = decide ((n - b) % d = 0) from decide_eq_decide.2 ⟨fun h => h.2.2, fun h => ⟨by omega, by omega, h⟩⟩)
          rw [HE.out]
          generalize decide ((n - b) % d = 0) = z at t6 ⊢
          clear HE h1 h2 h3 g1 g2 hn1 hn2 k1 k2 k3 k4 k5 m1 m2 g3
          go_enter Tryd.func121, Tryd.ntmps121
          go_wp2
          go_ret
          exact ⟨rfl, HB0.out⟩
        · have d3 : decide (b ≤ n) = false := dec_n g3
          rw [dec_n (show ¬ (b ≤ n ∧ n ≤ hi ∧ (n - b) % d = 0) by omega)]
          clear h1 h2 h3 g1 g2 hn1 hn2 k1 k2 k3 k4 k5 g3
          go_enter Tryd.func121, Tryd.ntmps121
          go_wp2
          go_ret
          exact ⟨rfl, HB0.out⟩
/-- is a number one of items? -/
def inQ (lo hi n : Int) (q : Q4) : Bool := mayB lo hi q && hitZ (nb lo hi q).1 (nb lo hi q).2.1 (nb lo hi q).2.2 n
theorem any_nth (p : Q4 → Bool) (qs : List Q4) (k : Nat) (hk : k < qs.length) (h : p (nthQ qs k) = true) : qs.any p = true := by
  rw [List.any_eq_true]
  refine ⟨_, List.getElem_mem hk, ?_⟩
  unfold nthQ at h
  rwa [List.getElem?_eq_getElem hk] at h
theorem any_none (p : Q4 → Bool) (qs : List Q4) (h : ∀ k, k < qs.length → p (nthQ qs k) = false) : qs.any p = false := by
  rw [List.any_eq_false]
  intro q hq
  obtain ⟨j, hj, rfl⟩ := List.getElem_of_mem hq
  have := h j hj
  unfold nthQ at this
  rw [List.getElem?_eq_getElem hj] at this
  exact Bool.eq_false_iff.1 this
set_option maxHeartbeats 1600000 in
set_option maxRecDepth 20000 in
theorem riin_any (lo hi n : Int) (A : Option Addr) (c : Nat) (qs : List Q4) (w : World) (hl : qs.length ≤ 1000000) (hq : ItemsAt w A qs) (hn1 : -20000 ≤ n) (hn2 : n ≤ 20000) :
    Calls Tryd.prog 45 #[.slice A qs.length c, .int .i64 lo, .int .i64 hi, .int .i64 n] w fun e w' => e = .returned (.bool (qs.any (inQ lo hi n))) ∧ Below w.heap.size w w' := by
  have HQ := Lib.hid hq
  have KM := Lib.hid (fun q W => rimay_any q lo hi W)
  have KH := Lib.hid (fun q hm W => rihas_any q lo hi n hm hn1 hn2 W)
  have HY := Lib.hid (fun k hk h => any_nth (inQ lo hi n) qs k hk h)
  have HN := Lib.hid (fun h => any_none (inQ lo hi n) qs h)
  generalize qs.any (inQ lo hi n) = bb at HY HN ⊢
  have HL := Lib.hid hl
  clear hq hn1 hn2 hl
  go_enter Tryd.func45, Tryd.ntmps45
  go_wp2
  go_loopw [9] (fun i wr => ∃ k : Nat, k ≤ qs.length ∧ i = .int .i64 k ∧ Below w.heap.size w wr ∧ Hid (∀ j, j < k → inQ lo hi n (nthQ qs j) = false)) (fun i _ => qs.length - (intOf i).toNat)
  case atStart => exact ⟨0, by omega, rfl, Below.refl _ _, Lib.hid fun j hj => absurd hj (Nat.not_lt_zero j)⟩
  case round =>
    obtain ⟨k, hk, rfl, hb, HA⟩ := hrel
    have HB := Lib.hid hb
    by_cases hlt : k < qs.length
    · have d0 : decide (k < qs.length) = true := dec_t hlt
      obtain ⟨b, off, rfl, hbl, x0, x1, x2, x3⟩ := (HQ.out.below hb) k hlt
      have K := KM.out (nthQ qs k)
      have K2 := KH.out (nthQ qs k)
      unfold qv at K K2
      have HY1 := Lib.hid (HY.out k hlt)
      have ik0 : (0 : Int) ≤ (k : Int) := by omega
      have ik1 : (k : Int) < (qs.length : Int) := by omega
      have hw1 : IntKind.i64.wrap ((k : Int) + 1) = (k : Int) + 1 := IntWalk.i64_in _ ⟨by omega, by have := HL.out; omega⟩
      clear hb
      have HA1 := Lib.hid (show inQ lo hi n (nthQ qs k) = false → ∀ j, j < k + 1 → inQ lo hi n (nthQ qs j) = false from fun h j hj => by
        rcases Nat.lt_or_ge j k with g | g
        · exact HA.out j g
        · obtain rfl : j = k := by omega
          exact h)
      have HU := Lib.hid (show inQ lo hi n (nthQ qs k) = (mayB lo hi (nthQ qs k) && hitZ (nb lo hi (nthQ qs k)).1 (nb lo hi (nthQ qs k)).2.1 (nb lo hi (nthQ qs k)).2.2 n) from rfl)
      generalize inQ lo hi n (nthQ qs k) = iq at HY1 HA1 HU
      have hbl2 := Lib.hid hbl
      cases hm : mayB lo hi (nthQ qs k)
      · rw [hm] at K HU
        have HA2 := Lib.hid (HA1.out HU.out)
        clear hm K2 HU HA1 HY1
        generalize nthQ qs k = q at *
        go_wp2_with fail
        refine (K _).mono ?_
        rintro e w1 ⟨rfl, hb1⟩
        have HB1 := Lib.hid (HB.out.trans (hb1.mono HB.out.size))
        clear hb1
        go_wp2
        go_roundw
        case rel => exact ⟨k + 1, by omega, by go_num, HB1.out, HA2⟩
        case measure => simp [intOf]; omega
      · rw [hm] at K HU
        have K3 := K2 hm
        clear K2
        have HU2 := Lib.hid (HU.out.trans (Bool.true_and _))
        generalize hitZ (nb lo hi (nthQ qs k)).1 (nb lo hi (nthQ qs k)).2.1 (nb lo hi (nthQ qs k)).2.2 n = hz at K3 HU2
        have HU3 := Lib.hid (show iq = hz from HU2.out)
        clear hm HU HU2
        generalize nthQ qs k = q at x0 x1 x2 x3 K K3
        cases hz
        · have HA2 := Lib.hid (HA1.out HU3.out)
          clear HU3 HA1 HY1
          go_wp2_with fail
          refine (K _).mono ?_
          rintro e w1 ⟨rfl, hb1⟩
          have HB1 := Lib.hid (HB.out.trans (hb1.mono HB.out.size))
          have y0 := (hb1.cell (p := ⟨b, off + k * 4, none⟩) hbl2.out).trans x0
          have y1 := (hb1.cell (p := ⟨b, off + k * 4 + 1, none⟩) hbl2.out).trans x1
          have y2 := (hb1.cell (p := ⟨b, off + k * 4 + 2, none⟩) hbl2.out).trans x2
          have y3 := (hb1.cell (p := ⟨b, off + k * 4 + 3, none⟩) hbl2.out).trans x3
          clear hb1 x0 x1 x2 x3
          go_wp2_with fail
          refine (K3 _).mono ?_
          rintro e w2 ⟨rfl, hb2⟩
          have HB2 := Lib.hid (HB1.out.trans (hb2.mono HB1.out.size))
          clear hb2
          go_wp2
          go_roundw
          case rel => exact ⟨k + 1, by omega, by go_num, HB2.out, HA2⟩
          case measure => simp [intOf]; omega
        · obtain rfl : bb = true := HY1.out HU3.out
          clear HU3 HA1 HY1 HY HN
          go_wp2_with fail
          refine (K _).mono ?_
          rintro e w1 ⟨rfl, hb1⟩
          have HB1 := Lib.hid (HB.out.trans (hb1.mono HB.out.size))
          have y0 := (hb1.cell (p := ⟨b, off + k * 4, none⟩) hbl2.out).trans x0
          have y1 := (hb1.cell (p := ⟨b, off + k * 4 + 1, none⟩) hbl2.out).trans x1
          have y2 := (hb1.cell (p := ⟨b, off + k * 4 + 2, none⟩) hbl2.out).trans x2
          have y3 := (hb1.cell (p := ⟨b, off + k * 4 + 3, none⟩) hbl2.out).trans x3
          clear hb1 x0 x1 x2 x3
          go_wp2_with fail
          refine (K3 _).mono ?_
          rintro e w2 ⟨rfl, hb2⟩
          have HB2 := Lib.hid (HB1.out.trans (hb2.mono HB1.out.size))
          clear hb2
          go_wp2
          go_ret
          exact ⟨rfl, HB2.out⟩
    · obtain rfl : k = qs.length := by omega
      obtain rfl : bb = false := HN.out HA.out
      clear hb hlt HY HN
      go_wp2
      go_ret
      exact ⟨rfl, HB.out⟩
end Go.Proofs.YtjdoknbmnokkdaaDoor
