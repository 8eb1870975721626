/- A rule's weekdays, walked: never, places, Plain, unlike, withinMonths (layer 32). -/
import Derived.Test.YtigbbepgfofcoaaDoorRlD
import Derived.Test.YtigbbepgfofcoaaDoorRlF
import Derived.Laws.MakeOwn
namespace Go.Proofs.YtigbbepgfofcoaaDoor
open Go.RowKit
set_option linter.unusedVariables false

/-- may no rule have it? -/
def nevB (q : N2) : Bool := decide (q.2 < 1) || (decide (7 < q.2) || (decide (q.1 < -53) || decide (53 < q.1)))
theorem nev_bad (q : N2) : nevB q = badN q := by
  unfold nevB badN
  cases decide (q.2 < 1) <;> cases decide (7 < q.2) <;> cases decide (q.1 < -53) <;> cases decide (53 < q.1) <;> rfl
set_option maxRecDepth 20000 in
theorem never_any (q : N2) (w : World) : Calls Tryd.prog 41 #[.agg #[.int .i64 q.1, .int .i64 q.2]] w fun e w' => e = .returned (.bool (nevB q)) ∧ Below w.heap.size w w' := by
  have HB := Lib.hid (show Below w.heap.size w (w.alloc (.cells #[.int .i64 q.1, .int .i64 q.2] 29)) from (Below.refl _ _).alloc (Nat.le_refl _) _)
  unfold nevB
  obtain ⟨p1, hp1⟩ : ∃ p, decide (q.2 < 1) = p := ⟨_, rfl⟩
  obtain ⟨p2, hp2⟩ : ∃ p, decide (7 < q.2) = p := ⟨_, rfl⟩
  obtain ⟨p3, hp3⟩ : ∃ p, decide (q.1 < -53) = p := ⟨_, rfl⟩
  obtain ⟨p4, hp4⟩ : ∃ p, decide (53 < q.1) = p := ⟨_, rfl⟩
  rw [hp1, hp2, hp3, hp4]
  cases p1 <;> cases p2 <;> cases p3 <;> cases p4
  all_goals
    go_enter Tryd.func41, Tryd.ntmps41
    go_wp2
    go_ret
    exact ⟨rfl, HB.out⟩
set_option maxHeartbeats 1600000 in
set_option maxRecDepth 20000 in
theorem idxN_any (A : Option Addr) (c : Nat) (l : List N2) (w : World) (hl : l.length ≤ 9223372036854775807) (hN : NthsAt w A l) :
    Calls Tryd.prog 88 #[.slice A l.length c, .func (.func 41) #[] #[]] w fun e w' => ∃ n : Int, e = .returned (.int .i64 n) ∧ decide (0 ≤ n) = l.any nevB ∧ Below w.heap.size w w' := by
  have HN := Lib.hid hN
  have HL := Lib.hid hl
  have HS := Lib.hid (fun k h => any_dropN nevB l k h)
  have HE := Lib.hid (any_endN nevB l)
  have H0 := Lib.hid (show (l.drop 0).any nevB = l.any nevB from rfl)
  have hC := fun args w => entersR (P := Tryd.prog) Tryd.func41 (by kernel_rfl) rfl args w
  generalize l.any nevB = b at H0 ⊢
  clear hl hN
  go_enter Tryd.func88, Tryd.ntmps88
  go_wp2
  go_loopw [8] (fun i wr => ∃ k : Nat, k ≤ l.length ∧ i = .int .i64 k ∧ Below w.heap.size w wr ∧ Hid ((l.drop k).any nevB = b)) (fun i _ => l.length - (intOf i).toNat)
  case atStart => exact ⟨0, Nat.zero_le _, rfl, Below.refl _ _, H0⟩
  case round =>
    obtain ⟨k, hk, rfl, hb, HA⟩ := hrel
    have HB := Lib.hid hb
    by_cases hlt : k < l.length
    · obtain ⟨bk, off, rfl, hbl, x0, x1⟩ := (HN.out.below hb) k hlt
      have hst := HS.out k hlt
      rw [HA.out] at hst
      have HST := Lib.hid hst
      have hl := HL.out
      have d0 : decide (k < l.length) = true := dec_t hlt
      have ik0 : (0 : Int) ≤ (k : Int) := by omega
      have ik1 : (k : Int) < (l.length : Int) := by omega
      have hw1 : IntKind.i64.wrap ((k : Int) + 1) = (k : Int) + 1 := IntWalk.i64_in _ ⟨by omega, by omega⟩
      have HK := Lib.hid (And.intro hk hlt)
      generalize nthN l k = q at x0 x1 HST
      have K := never_any q wr
      clear hst hk hlt HA hb hbl
      cases hp : nevB q
      · rw [hp] at K
        have HC := Lib.hid (show (l.drop (k + 1)).any nevB = b by rw [HST.out, hp]; rfl)
        clear HST hp
        go_wp2_with fail
        refine K.mono ?_
        rintro e w1 ⟨rfl, hb1⟩
        have HB1 := Lib.hid (HB.out.trans (hb1.mono HB.out.size))
        clear hb1 K x0 x1
        go_wp2_with fail
        go_roundw
        case rel => exact ⟨k + 1, by have := HK.out; omega, by go_num, HB1.out, HC⟩
        case measure =>
          have := HK.out
          simp [intOf]; omega
      · rw [hp] at K
        have HC := Lib.hid (show b = true by rw [HST.out, hp]; rfl)
        clear HST hp
        go_wp2_with fail
        refine K.mono ?_
        rintro e w1 ⟨rfl, hb1⟩
        have HB1 := Lib.hid (HB.out.trans (hb1.mono HB.out.size))
        clear hb1 K x0 x1
        go_wp2_with fail
        go_ret
        exact ⟨(k : Int), rfl, by rw [HC.out]; exact dec_t (by omega), HB1.out⟩
    · obtain rfl : k = l.length := by omega
      have d0 : decide (l.length < l.length) = false := dec_n (by omega)
      have HC := Lib.hid (show b = false by rw [← HA.out]; exact HE.out)
      clear hk hlt hb
      go_wp2
      go_ret
      exact ⟨-1, rfl, by rw [HC.out]; rfl, HB.out⟩
theorem contN_any (A : Option Addr) (c : Nat) (l : List N2) (w : World) (hl : l.length ≤ 9223372036854775807) (hN : NthsAt w A l) :
    Calls Tryd.prog 40 #[.slice A l.length c, .func (.func 41) #[] #[]] w fun e w' => e = .returned (.bool (l.any nevB)) ∧ Below w.heap.size w w' := by
  have K := idxN_any A c l w hl hN
  clear hl hN
  go_enter Tryd.func40, Tryd.ntmps40
  go_wp2_with fail
  refine K.mono ?_
  rintro e w1 ⟨n, rfl, hn, hb⟩
  go_wp2
  go_ret
  exact ⟨by rw [← hn]; rfl, hb⟩
/-- is no weekday a certain one? -/
def plnB (l : List N2) : Bool := !(l.any fun q => decide (q.1 ≠ 0))
set_option maxHeartbeats 1600000 in
set_option maxRecDepth 20000 in
theorem plain_any (r : Rl) (w : World) (hr : RlAt w r) (hin : RlIn r) :
    Calls Tryd.prog 10 #[rlV r] w fun e w' => e = .returned (.bool (plnB r.N)) ∧ Below w.heap.size w w' := by
  have HG0 := Lib.hid (blk_new w (.cells (rlC r) 25))
  have HB0 := Lib.hid (show Below w.heap.size w (w.alloc (.cells (rlC r) 25)) from (Below.refl _ _).alloc (Nat.le_refl _) _)
  have HN := Lib.hid hr.2
  have HL := Lib.hid hin.2.2.2.2.2.2.2
  have HS := Lib.hid (fun k h => any_dropN (fun q => decide (q.1 ≠ 0)) r.N k h)
  have HE := Lib.hid (any_endN (fun q => decide (q.1 ≠ 0)) r.N)
  have H0 := Lib.hid (show (r.N.drop 0).any (fun q => decide (q.1 ≠ 0)) = r.N.any (fun q => decide (q.1 ≠ 0)) from rfl)
  have HP := Lib.hid (show plnB r.N = !(r.N.any fun q => decide (q.1 ≠ 0)) from rfl)
  generalize r.N.any (fun q => decide (q.1 ≠ 0)) = b at H0 HP
  generalize plnB r.N = res at HP ⊢
  obtain ⟨W0, hW0⟩ : ∃ W0, w.alloc (.cells (rlC r) 25) = W0 := ⟨_, rfl⟩
  rw [hW0] at HG0 HB0
  have x7 : W0.cell? ⟨w.heap.size, 7, none⟩ = some (.slice r.AW r.N.length r.cw) := blk_cell HG0.out 7
  unfold rlV rlC
  unfold rlC at hW0
  clear hr hin HG0
  go_enter Tryd.func10, Tryd.ntmps10
  go_wp2_with fail
  try rw [hW0]
  clear hW0
  try go_wp2_with fail
  generalize r.N = l at *
  generalize r.AW = A at *
  go_loopw [8] (fun i wr => ∃ k : Nat, k ≤ l.length ∧ i = .int .i64 k ∧ Below w.heap.size w wr ∧ Hid ((l.drop k).any (fun q => decide (q.1 ≠ 0)) = b)) (fun i _ => l.length - (intOf i).toNat)
  case atStart => exact ⟨0, Nat.zero_le _, rfl, HB0.out, H0⟩
  case round =>
    obtain ⟨k, hk, rfl, hb, HA⟩ := hrel
    have HB := Lib.hid hb
    by_cases hlt : k < l.length
    · obtain ⟨bk, off, rfl, hbl, x0, x1⟩ := (HN.out.below hb) k hlt
      have hst := HS.out k hlt
      rw [HA.out] at hst
      have HST := Lib.hid hst
      have hl := HL.out
      have d0 : decide (k < l.length) = true := dec_t hlt
      have ik0 : (0 : Int) ≤ (k : Int) := by omega
      have ik1 : (k : Int) < (l.length : Int) := by omega
      have hw1 : IntKind.i64.wrap ((k : Int) + 1) = (k : Int) + 1 := IntWalk.i64_in _ ⟨by omega, by omega⟩
      have HK := Lib.hid (And.intro hk hlt)
      generalize nthN l k = q at x0 x1 HST
      have HB1 := Lib.hid (HB.out.alloc HB.out.size (.cells #[.int .i64 q.1, .int .i64 q.2] 29))
      clear hst hk hlt HA hb hbl x7
      by_cases hp : q.1 = 0
      · have e1 : (q.1 != 0) = false := by simp [hp]
        have HC := Lib.hid (show (l.drop (k + 1)).any (fun q => decide (q.1 ≠ 0)) = b by rw [HST.out, dec_n (by simpa using hp)]; rfl)
        clear HST hp
        go_wp2_with fail
        go_roundw
        case rel => exact ⟨k + 1, by have := HK.out; omega, by go_num, HB1.out, HC⟩
        case measure =>
          have := HK.out
          simp [intOf]; omega
      · have e1 : (q.1 != 0) = true := by simp [hp]
        have HC := Lib.hid (show res = false by rw [HP.out, HST.out, dec_t hp]; rfl)
        clear HST hp
        go_wp2_with fail
        go_ret
        exact ⟨by rw [HC.out]; rfl, HB1.out⟩
    · obtain rfl : k = l.length := by omega
      have d0 : decide (l.length < l.length) = false := dec_n (by omega)
      have HC := Lib.hid (show res = true by rw [HP.out, ← HA.out, HE.out]; rfl)
      clear hk hlt hb
      go_wp2
      go_ret
      exact ⟨by rw [HC.out]; rfl, HB.out⟩
/-- are some numbers 0 and others not, or of both signs? -/
def unlB (zs : List Int) : Bool := (zs.any fun z => decide (z = 0)) || mixB zs
theorem unlike_any (A : Option Addr) (c : Nat) (zs : List Int) (w : World) (hl : zs.length ≤ 9223372036854775807) (hi : Ints .i64 w A zs) :
    Calls Tryd.prog 43 #[.slice A zs.length c] w fun e w' => e = .returned (.bool (unlB zs)) ∧ w = w' := by
  have K1 := contains_any 0 A c zs w hl hi
  have K2 := mixed_any A c zs w hl hi
  unfold unlB
  generalize (zs.any fun z => decide (z = 0)) = p at K1 ⊢
  generalize mixB zs = q at K2 ⊢
  clear hl hi
  go_enter Tryd.func43, Tryd.ntmps43
  go_wp2_with fail
  refine K1.mono ?_
  rintro e w1 ⟨rfl, rfl⟩
  cases p
  · go_wp2_with fail
    refine K2.mono ?_
    rintro e w2 ⟨rfl, rfl⟩
    go_wp2
    go_ret
    exact ⟨rfl, rfl⟩
  · go_wp2_with fail
    go_ret
    exact ⟨rfl, rfl⟩
def wimB (r : Rl) : Bool := decide (r.freq = 5) || decide (0 < (r.Z 0).length)
set_option maxRecDepth 20000 in
theorem withinR_any (r : Rl) (w : World) : Calls Tryd.prog 46 #[rlV r] w fun e w' => e = .returned (.bool (wimB r)) ∧ Below w.heap.size w w' := by
  have HB0 := Lib.hid (show Below w.heap.size w (w.alloc (.cells (rlC r) 25)) from (Below.refl _ _).alloc (Nat.le_refl _) _)
  unfold wimB
  obtain ⟨g5, hg5⟩ : ∃ p, decide (r.freq = 5) = p := ⟨_, rfl⟩
  have hg6 : (r.freq == 5) = g5 := by rw [← hg5]; rfl
  obtain ⟨m0, hm0⟩ : ∃ p, decide (0 < (r.Z 0).length) = p := ⟨_, rfl⟩
  have hm1 : decide ((0 : Int) < ((r.Z 0).length : Int)) = m0 := by rw [← hm0]; exact decide_eq_decide.2 (by omega)
  rw [hg5, hm0]
  unfold rlV rlC
  unfold rlC at HB0
  cases g5 <;> cases m0
  all_goals
    go_enter Tryd.func46, Tryd.ntmps46
    go_wp2
    go_ret
    exact ⟨rfl, HB0.out⟩
end Go.Proofs.YtigbbepgfofcoaaDoor
