/- The questions that rule.Check asks one behind the other: its functions (layer 32). -/
import Derived.Test.YtigbbepgfofcoaaDoorRlG
import Derived.Test.YtigbbepgfofcoaaDoorRlE
import Derived.Test.YtigbbepgfofcoaaDoorCmE
namespace Go.Proofs.YtigbbepgfofcoaaDoor
open Go.RowKit
set_option linter.unusedVariables false

set_option maxHeartbeats 1600000 in
set_option maxRecDepth 20000 in
theorem places_any (r : Rl) (w : World) (hr : RlAt w r) (hl : r.N.length ≤ 100000) :
    Calls Tryd.prog 44 #[rlV r] w fun e w' => ∃ B d, e = .returned (.slice B (nsL r.N).length d) ∧ Ints .i64 w' B (nsL r.N) ∧ Below w.heap.size w w' := by
  have HG0 := Lib.hid (blk_new w (.cells (rlC r) 25))
  have HB0 := Lib.hid (show Below w.heap.size w (w.alloc (.cells (rlC r) 25)) from (Below.refl _ _).alloc (Nat.le_refl _) _)
  have HN := Lib.hid hr.2
  have HL := Lib.hid hl
  have HST := Lib.hid (fun k h => ns_step r.N k h)
  have HLEN := Lib.hid (fun k h => ns_len r.N k h)
  have HALL := Lib.hid (ns_all r.N)
  obtain ⟨i0, hi', hz0, hz1, hz2⟩ := info_parts info_int
  obtain ⟨W0, hW0⟩ : ∃ W0, w.alloc (.cells (rlC r) 25) = W0 := ⟨_, rfl⟩
  rw [hW0] at HG0 HB0
  have x7 : W0.cell? ⟨w.heap.size, 7, none⟩ = some (.slice r.AW r.N.length r.cw) := blk_cell HG0.out 7
  obtain ⟨w0, hmake, hown0, hgr0⟩ := run_make_own W0 w.heap.size 22 3 i0 _ 1 Tryd.underlying22 hi' hz0 hz1 .i64 .i64 r.N.length (by rw [hz2]; omega) (by unfold maxLen; omega) HB0.out.size
  have HBM := Lib.hid (Below.grown HB0.out hgr0 HB0.out.size (fun k hk => by cases hk))
  have hbm0 : Below W0.heap.size W0 w0 := Below.grown (Below.refl _ _) hgr0 (Nat.le_refl _) (fun k hk => by cases hk)
  have HO0 := Lib.hid (show OwnI w0 w.heap.size (.slice (some ⟨W0.heap.size, 0, none⟩) 0 r.N.length) [] from hown0)
  have y7 : w0.cell? ⟨w.heap.size, 7, none⟩ = some (.slice r.AW r.N.length r.cw) := blk_cell ((hbm0.block _ (lt_of_block HG0.out)).trans HG0.out) 7
  unfold rlV rlC
  unfold rlC at hW0
  clear hr hl hown0 hgr0 hbm0 HG0
  generalize r.N = l at *
  generalize r.AW = A at *
  go_enter Tryd.func44, Tryd.ntmps44
  go_wp2_with fail
  clear hmake hW0
  go_loopw [3, 13] (fun v i wr => ∃ k : Nat, k ≤ l.length ∧ i = .int .i64 k ∧ OwnI wr w.heap.size v (nsL (l.take k)) ∧ Below w.heap.size w wr) (fun _ i _ => l.length - (intOf i).toNat)
  case atStart => exact ⟨0, Nat.zero_le _, rfl, HO0.out, HBM.out⟩
  case round =>
    obtain ⟨k, hk, rfl, hown, hb⟩ := hrel
    have HB := Lib.hid hb
    have HO := Lib.hid hown
    by_cases hlt : k < l.length
    · obtain ⟨b, off, rfl, hbl, z0, z1⟩ := (HN.out.below hb) k hlt
      have d0 : decide (k < l.length) = true := dec_t hlt
      have ik0 : (0 : Int) ≤ (k : Int) := by omega
      have ik1 : (k : Int) < (l.length : Int) := by omega
      have hl := HL.out
      have hw1 : IntKind.i64.wrap ((k : Int) + 1) = (k : Int) + 1 := IntWalk.i64_in _ ⟨by omega, by omega⟩
      have HT := Lib.hid (HST.out k hlt)
      have HLE := Lib.hid (HLEN.out k hk)
      have HK := Lib.hid hlt
      generalize nthN l k = q at z0 z1 HT
      have HB1 := Lib.hid (HB.out.alloc HB.out.size (.cells #[.int .i64 q.1, .int .i64 q.2] 29))
      have HO1 := Lib.hid (HO.out.alloc (.cells #[.int .i64 q.1, .int .i64 q.2] 29))
      have HZ := Lib.hid HB1.out.size
      clear hk hlt hown hb hl hbl x7 y7
      go_wp2_with ((at_builtin; refine wpList_append_own _ rfl _ _ 22 rfl w.heap.size 3 i0 (.int .i64 0) 1 8 Tryd.underlying22 hi' hz0 hz1 hz2 rfl (by decide) _ _ _ rfl (World.ownsRow.alloc HO1.out _) ⟨wr.heap.size + 1, 0, none⟩ 1 1 [.int .i64 q.1] rfl rfl ?e1 ?e2 ?e3 ?e4 ?e5 ?_))
      case e1 =>
        intro j u hj
        cases j with
        | zero =>
          cases hj
          have q := cell_new (wr.alloc (.cells #[.int .i64 q.1, .int .i64 q.2] 29)) #[.int .i64 q.1] 3 0
          rw [World.size_alloc] at q
          exact q
        | succ j => cases hj
      case e2 => simp [Value.oneCell']
      case e3 => have := HK.out; have := HLE.out; have := HL.out; unfold maxLen; omega
      case e4 => have := HK.out; have := HLE.out; have := HL.out; omega
      case e5 => have := HZ.out; simp at this ⊢; omega
      intro v' w2 hown1 hgrow _
      have HO2 := Lib.hid (OwnI.snoc hown1)
      have HB2 := Lib.hid (Below.grown (HB1.out.alloc HZ.out (.cells #[.int .i64 q.1] 3)) hgrow (by have := HZ.out; simp at this ⊢; omega) (own_block HO1.out))
      clear hown1 hgrow
      go_wp2
      go_roundw
      case rel => exact ⟨k + 1, by have := HK.out; omega, by go_num, by rw [HT.out]; exact HO2.out, HB2.out⟩
      case measure =>
        have := HK.out
        simp [intOf]; omega
    · obtain rfl : k = l.length := by omega
      have d0 : decide (l.length < l.length) = false := dec_n (by omega)
      rw [HALL.out] at hown
      obtain ⟨B, d, rfl, hin⟩ := hown.ints
      have HI := Lib.hid hin
      clear hin hk hlt hb HO hown
      go_wp2
      go_ret
      exact ⟨B, d, rfl, HI.out, HB.out⟩
theorem min32_any (t : Int) (w : World) : Calls Tryd.prog 23 #[.int .i64 t] w fun e w' => e = .returned (.bool (inWn t)) ∧ w = w' := by
  unfold inWn
  by_cases h : 0 ≤ t ∧ t < 12622780800
  · rw [dec_t h.1, dec_t h.2]; exact mIn_yes t w h.1 h.2
  · have e : (decide (0 ≤ t) && decide (t < 12622780800)) = false := by
      rw [← Bool.decide_and]; exact dec_n h
    rw [e]; exact mIn_no t w (by omega)
/-- a rule's block -/
def RlBlk (w : World) (g : Nat) (r : Rl) : Prop := w.heap[g]? = some (.cells (rlC r) 25 (0, 0))
set_option maxHeartbeats 800000 in
set_option maxRecDepth 20000 in
theorem ck1_any (r : Rl) (g : Nat) (w : World) (hg : RlBlk w g r) : Calls Tryd.prog 22 #[.pointer (some ⟨g, 0, none⟩)] w fun e w' => e = .returned (.bool (!inWn r.start)) ∧ Below w.heap.size w w' := by
  have x0 : w.cell? ⟨g, 0, none⟩ = some (.int .i64 r.start) := blk_cell hg 0
  have K := min32_any r.start w
  generalize inWn r.start = b at K ⊢
  clear hg
  go_enter Tryd.func22, Tryd.ntmps22
  go_wp2_with fail
  refine K.mono ?_
  rintro e w1 ⟨rfl, rfl⟩
  go_wp2
  go_ret
  exact ⟨rfl, Below.refl _ _⟩
set_option maxHeartbeats 800000 in
set_option maxRecDepth 20000 in
theorem ck2_any (r : Rl) (g : Nat) (w : World) (hg : RlBlk w g r) (hT : TabUn w) : Calls Tryd.prog 24 #[.pointer (some ⟨g, 0, none⟩)] w fun e w' => e = .returned (.bool (decide (r.freq < 0) || decide (6 < r.freq))) ∧ Below w.heap.size w w' := by
  have x1 : w.cell? ⟨g, 1, none⟩ = some (.int .i64 r.freq) := blk_cell hg 1
  by_cases h : 0 ≤ r.freq ∧ r.freq < 7
  · obtain ⟨n, hn⟩ := Int.eq_ofNat_of_zero_le h.1
    have hn7 : n < 7 := by omega
    have K := uname_any n hn7 w hT
    have hne := nmU_some n hn7
    have e1 : (decide (r.freq < 0) || decide (6 < r.freq)) = false := by rw [dec_n (by omega), dec_n (by omega)]; rfl
    rw [e1]
    rw [hn] at x1
    generalize nmU n = s at K hne
    have hs : (s.toList == (ByteArray.mk #[]).toList) = false := by
      rw [beq_eq_false_iff_ne]
      intro he
      exact hne (toList_inj he)
    have hem : (⟨#[]⟩ : ByteArray).toList = [] := by simp
    have hs2 : ¬ s.toList = [] := fun q => hne (toList_inj (q.trans hem.symm))
    have hs3 : s.toList.isEmpty = false := by
      cases h : s.toList with
      | nil => exact absurd h hs2
      | cons _ _ => rfl
    have hs4 : (s.toList == []) = false := by rw [beq_eq_false_iff_ne]; exact hs2
    clear hg h hn hne e1 hT hn7
    go_enter Tryd.func24, Tryd.ntmps24
    go_wp2_with fail
    refine K.mono ?_
    rintro e w1 ⟨rfl, rfl⟩
    go_wp2
    go_ret
    exact ⟨rfl, Below.refl _ _⟩
  · have K := uname_no r.freq (by omega) w
    have e1 : (decide (r.freq < 0) || decide (6 < r.freq)) = true := by
      by_cases h0 : r.freq < 0
      · rw [dec_t h0]; rfl
      · rw [dec_t (show 6 < r.freq by omega)]; simp
    rw [e1]
    clear hg h e1 hT
    go_enter Tryd.func24, Tryd.ntmps24
    go_wp2_with fail
    refine K.mono ?_
    rintro e w1 ⟨rfl, rfl⟩
    go_wp2
    go_ret
    exact ⟨rfl, Below.refl _ _⟩
set_option maxHeartbeats 800000 in
set_option maxRecDepth 20000 in
theorem ck3_any (r : Rl) (g : Nat) (w : World) (hg : RlBlk w g r) : Calls Tryd.prog 26 #[.pointer (some ⟨g, 0, none⟩)] w fun e w' => e = .returned (.bool (decide (r.itv < 1) || decide (1000000000000000 < r.itv))) ∧ Below w.heap.size w w' := by
  have x2 : w.cell? ⟨g, 2, none⟩ = some (.int .i64 r.itv) := blk_cell hg 2
  obtain ⟨p, hp⟩ : ∃ p, decide (r.itv < 1) = p := ⟨_, rfl⟩
  obtain ⟨q, hq⟩ : ∃ p, decide (1000000000000000 < r.itv) = p := ⟨_, rfl⟩
  rw [hp, hq]
  clear hg
  cases p <;> cases q
  all_goals
    go_enter Tryd.func26, Tryd.ntmps26
    go_wp2
    go_ret
    exact ⟨rfl, Below.refl _ _⟩
set_option maxHeartbeats 800000 in
set_option maxRecDepth 20000 in
theorem ck4_any (r : Rl) (g : Nat) (w : World) (hg : RlBlk w g r) : Calls Tryd.prog 27 #[.pointer (some ⟨g, 0, none⟩)] w fun e w' => e = .returned (.bool (decide (r.cnt < 0) || decide (1000000000000000 < r.cnt))) ∧ Below w.heap.size w w' := by
  have x3 : w.cell? ⟨g, 3, none⟩ = some (.int .i64 r.cnt) := blk_cell hg 3
  obtain ⟨p, hp⟩ : ∃ p, decide (r.cnt < 0) = p := ⟨_, rfl⟩
  obtain ⟨q, hq⟩ : ∃ p, decide (1000000000000000 < r.cnt) = p := ⟨_, rfl⟩
  rw [hp, hq]
  clear hg
  cases p <;> cases q
  all_goals
    go_enter Tryd.func27, Tryd.ntmps27
    go_wp2
    go_ret
    exact ⟨rfl, Below.refl _ _⟩
set_option maxHeartbeats 800000 in
set_option maxRecDepth 20000 in
theorem ck5_any (r : Rl) (g : Nat) (w : World) (hg : RlBlk w g r) : Calls Tryd.prog 28 #[.pointer (some ⟨g, 0, none⟩)] w fun e w' => e = .returned (.bool ((r.unt != -1) && !inWn r.unt)) ∧ Below w.heap.size w w' := by
  have x4 : w.cell? ⟨g, 4, none⟩ = some (.int .i64 r.unt) := blk_cell hg 4
  have K := min32_any r.unt w
  generalize inWn r.unt = b at K ⊢
  obtain ⟨p, hp⟩ : ∃ p, (r.unt != -1) = p := ⟨_, rfl⟩
  rw [hp]
  clear hg
  cases p
  · go_enter Tryd.func28, Tryd.ntmps28
    go_wp2_with fail
    go_ret
    exact ⟨rfl, Below.refl _ _⟩
  · go_enter Tryd.func28, Tryd.ntmps28
    go_wp2_with fail
    refine K.mono ?_
    rintro e w1 ⟨rfl, rfl⟩
    go_wp2
    go_ret
    exact ⟨rfl, Below.refl _ _⟩
set_option maxHeartbeats 800000 in
set_option maxRecDepth 20000 in
theorem ck6_any (r : Rl) (g : Nat) (w : World) (hg : RlBlk w g r) : Calls Tryd.prog 29 #[.pointer (some ⟨g, 0, none⟩)] w fun e w' => e = .returned (.bool ((r.cnt != 0) && (r.unt != -1))) ∧ Below w.heap.size w w' := by
  have x3 : w.cell? ⟨g, 3, none⟩ = some (.int .i64 r.cnt) := blk_cell hg 3
  have x4 : w.cell? ⟨g, 4, none⟩ = some (.int .i64 r.unt) := blk_cell hg 4
  obtain ⟨p, hp⟩ : ∃ p, (r.cnt != 0) = p := ⟨_, rfl⟩
  obtain ⟨q, hq⟩ : ∃ p, (r.unt != -1) = p := ⟨_, rfl⟩
  rw [hp, hq]
  clear hg
  cases p <;> cases q
  all_goals
    go_enter Tryd.func29, Tryd.ntmps29
    go_wp2
    go_ret
    exact ⟨rfl, Below.refl _ _⟩
set_option maxHeartbeats 800000 in
set_option maxRecDepth 20000 in
theorem ck7_any (r : Rl) (g : Nat) (w : World) (hg : RlBlk w g r) : Calls Tryd.prog 30 #[.pointer (some ⟨g, 0, none⟩)] w fun e w' => e = .returned (.bool (decide (64 < (r.Z 0).length))) ∧ Below w.heap.size w w' := by
  have x5 : w.cell? ⟨g, 5, none⟩ = some (.slice (r.A 0) (r.Z 0).length (r.c 0)) := blk_cell hg 5
  obtain ⟨p, hp⟩ : ∃ p, decide (64 < (r.Z 0).length) = p := ⟨_, rfl⟩
  have hp2 : decide ((64 : Int) < ((r.Z 0).length : Int)) = p := by rw [← hp]; exact decide_eq_decide.2 (by omega)
  rw [hp]
  clear hg
  cases p
  all_goals
    go_enter Tryd.func30, Tryd.ntmps30
    go_wp2
    go_ret
    exact ⟨rfl, Below.refl _ _⟩
set_option maxHeartbeats 800000 in
set_option maxRecDepth 20000 in
theorem ck9_any (r : Rl) (g : Nat) (w : World) (hg : RlBlk w g r) : Calls Tryd.prog 33 #[.pointer (some ⟨g, 0, none⟩)] w fun e w' => e = .returned (.bool (decide (64 < (r.Z 1).length))) ∧ Below w.heap.size w w' := by
  have x6 : w.cell? ⟨g, 6, none⟩ = some (.slice (r.A 1) (r.Z 1).length (r.c 1)) := blk_cell hg 6
  obtain ⟨p, hp⟩ : ∃ p, decide (64 < (r.Z 1).length) = p := ⟨_, rfl⟩
  have hp2 : decide ((64 : Int) < ((r.Z 1).length : Int)) = p := by rw [← hp]; exact decide_eq_decide.2 (by omega)
  rw [hp]
  clear hg
  cases p
  all_goals
    go_enter Tryd.func33, Tryd.ntmps33
    go_wp2
    go_ret
    exact ⟨rfl, Below.refl _ _⟩
set_option maxHeartbeats 800000 in
set_option maxRecDepth 20000 in
theorem ck12_any (r : Rl) (g : Nat) (w : World) (hg : RlBlk w g r) : Calls Tryd.prog 38 #[.pointer (some ⟨g, 0, none⟩)] w fun e w' => e = .returned (.bool (decide (64 < r.N.length))) ∧ Below w.heap.size w w' := by
  have x7 : w.cell? ⟨g, 7, none⟩ = some (.slice r.AW r.N.length r.cw) := blk_cell hg 7
  obtain ⟨p, hp⟩ : ∃ p, decide (64 < r.N.length) = p := ⟨_, rfl⟩
  have hp2 : decide ((64 : Int) < (r.N.length : Int)) = p := by rw [← hp]; exact decide_eq_decide.2 (by omega)
  rw [hp]
  clear hg
  cases p
  all_goals
    go_enter Tryd.func38, Tryd.ntmps38
    go_wp2
    go_ret
    exact ⟨rfl, Below.refl _ _⟩
set_option maxHeartbeats 800000 in
set_option maxRecDepth 20000 in
theorem ck16_any (r : Rl) (g : Nat) (w : World) (hg : RlBlk w g r) : Calls Tryd.prog 47 #[.pointer (some ⟨g, 0, none⟩)] w fun e w' => e = .returned (.bool (decide (64 < (r.Z 2).length))) ∧ Below w.heap.size w w' := by
  have x8 : w.cell? ⟨g, 8, none⟩ = some (.slice (r.A 2) (r.Z 2).length (r.c 2)) := blk_cell hg 8
  obtain ⟨p, hp⟩ : ∃ p, decide (64 < (r.Z 2).length) = p := ⟨_, rfl⟩
  have hp2 : decide ((64 : Int) < ((r.Z 2).length : Int)) = p := by rw [← hp]; exact decide_eq_decide.2 (by omega)
  rw [hp]
  clear hg
  cases p
  all_goals
    go_enter Tryd.func47, Tryd.ntmps47
    go_wp2
    go_ret
    exact ⟨rfl, Below.refl _ _⟩
set_option maxHeartbeats 800000 in
set_option maxRecDepth 20000 in
theorem ck18_any (r : Rl) (g : Nat) (w : World) (hg : RlBlk w g r) : Calls Tryd.prog 49 #[.pointer (some ⟨g, 0, none⟩)] w fun e w' => e = .returned (.bool (decide (64 < (r.Z 3).length))) ∧ Below w.heap.size w w' := by
  have x9 : w.cell? ⟨g, 9, none⟩ = some (.slice (r.A 3) (r.Z 3).length (r.c 3)) := blk_cell hg 9
  obtain ⟨p, hp⟩ : ∃ p, decide (64 < (r.Z 3).length) = p := ⟨_, rfl⟩
  have hp2 : decide ((64 : Int) < ((r.Z 3).length : Int)) = p := by rw [← hp]; exact decide_eq_decide.2 (by omega)
  rw [hp]
  clear hg
  cases p
  all_goals
    go_enter Tryd.func49, Tryd.ntmps49
    go_wp2
    go_ret
    exact ⟨rfl, Below.refl _ _⟩
set_option maxHeartbeats 800000 in
set_option maxRecDepth 20000 in
theorem ck20_any (r : Rl) (g : Nat) (w : World) (hg : RlBlk w g r) : Calls Tryd.prog 51 #[.pointer (some ⟨g, 0, none⟩)] w fun e w' => e = .returned (.bool (decide (64 < (r.Z 4).length))) ∧ Below w.heap.size w w' := by
  have x10 : w.cell? ⟨g, 10, none⟩ = some (.slice (r.A 4) (r.Z 4).length (r.c 4)) := blk_cell hg 10
  obtain ⟨p, hp⟩ : ∃ p, decide (64 < (r.Z 4).length) = p := ⟨_, rfl⟩
  have hp2 : decide ((64 : Int) < ((r.Z 4).length : Int)) = p := by rw [← hp]; exact decide_eq_decide.2 (by omega)
  rw [hp]
  clear hg
  cases p
  all_goals
    go_enter Tryd.func51, Tryd.ntmps51
    go_wp2
    go_ret
    exact ⟨rfl, Below.refl _ _⟩
set_option maxHeartbeats 800000 in
set_option maxRecDepth 20000 in
theorem ck8_any (r : Rl) (g : Nat) (w : World) (hg : RlBlk w g r) (hr : RlAt w r) (hin : RlIn r) : Calls Tryd.prog 31 #[.pointer (some ⟨g, 0, none⟩)] w fun e w' => e = .returned (.bool (outB 1 12 (r.Z 0))) ∧ Below w.heap.size w w' := by
  have x5 : w.cell? ⟨g, 5, none⟩ = some (.slice (r.A 0) (r.Z 0).length (r.c 0)) := blk_cell hg 5
  have K := beyond_any 1 12 (r.A 0) (r.c 0) (r.Z 0) w (hin.2.2.2.2.2.1 0 (by decide)).2 (hr.1 0 (by decide))
  generalize outB 1 12 (r.Z 0) = b at K ⊢
  clear hg hr hin
  go_enter Tryd.func31, Tryd.ntmps31
  go_wp2_with fail
  refine K.mono ?_
  rintro e w1 ⟨rfl, hb⟩
  go_wp2
  go_ret
  exact ⟨rfl, hb⟩
set_option maxHeartbeats 800000 in
set_option maxRecDepth 20000 in
theorem ck17_any (r : Rl) (g : Nat) (w : World) (hg : RlBlk w g r) (hr : RlAt w r) (hin : RlIn r) : Calls Tryd.prog 48 #[.pointer (some ⟨g, 0, none⟩)] w fun e w' => e = .returned (.bool (outB 0 23 (r.Z 2))) ∧ Below w.heap.size w w' := by
  have x8 : w.cell? ⟨g, 8, none⟩ = some (.slice (r.A 2) (r.Z 2).length (r.c 2)) := blk_cell hg 8
  have K := beyond_any 0 23 (r.A 2) (r.c 2) (r.Z 2) w (hin.2.2.2.2.2.1 2 (by decide)).2 (hr.1 2 (by decide))
  generalize outB 0 23 (r.Z 2) = b at K ⊢
  clear hg hr hin
  go_enter Tryd.func48, Tryd.ntmps48
  go_wp2_with fail
  refine K.mono ?_
  rintro e w1 ⟨rfl, hb⟩
  go_wp2
  go_ret
  exact ⟨rfl, hb⟩
set_option maxHeartbeats 800000 in
set_option maxRecDepth 20000 in
theorem ck19_any (r : Rl) (g : Nat) (w : World) (hg : RlBlk w g r) (hr : RlAt w r) (hin : RlIn r) : Calls Tryd.prog 50 #[.pointer (some ⟨g, 0, none⟩)] w fun e w' => e = .returned (.bool (outB 0 59 (r.Z 3))) ∧ Below w.heap.size w w' := by
  have x9 : w.cell? ⟨g, 9, none⟩ = some (.slice (r.A 3) (r.Z 3).length (r.c 3)) := blk_cell hg 9
  have K := beyond_any 0 59 (r.A 3) (r.c 3) (r.Z 3) w (hin.2.2.2.2.2.1 3 (by decide)).2 (hr.1 3 (by decide))
  generalize outB 0 59 (r.Z 3) = b at K ⊢
  clear hg hr hin
  go_enter Tryd.func50, Tryd.ntmps50
  go_wp2_with fail
  refine K.mono ?_
  rintro e w1 ⟨rfl, hb⟩
  go_wp2
  go_ret
  exact ⟨rfl, hb⟩
set_option maxHeartbeats 800000 in
set_option maxRecDepth 20000 in
theorem ck21_any (r : Rl) (g : Nat) (w : World) (hg : RlBlk w g r) (hr : RlAt w r) (hin : RlIn r) : Calls Tryd.prog 52 #[.pointer (some ⟨g, 0, none⟩)] w fun e w' => e = .returned (.bool (outB 0 59 (r.Z 4))) ∧ Below w.heap.size w w' := by
  have x10 : w.cell? ⟨g, 10, none⟩ = some (.slice (r.A 4) (r.Z 4).length (r.c 4)) := blk_cell hg 10
  have K := beyond_any 0 59 (r.A 4) (r.c 4) (r.Z 4) w (hin.2.2.2.2.2.1 4 (by decide)).2 (hr.1 4 (by decide))
  generalize outB 0 59 (r.Z 4) = b at K ⊢
  clear hg hr hin
  go_enter Tryd.func52, Tryd.ntmps52
  go_wp2_with fail
  refine K.mono ?_
  rintro e w1 ⟨rfl, hb⟩
  go_wp2
  go_ret
  exact ⟨rfl, hb⟩
set_option maxHeartbeats 800000 in
set_option maxRecDepth 20000 in
theorem ck13_any (r : Rl) (g : Nat) (w : World) (hg : RlBlk w g r) (hr : RlAt w r) (hin : RlIn r) : Calls Tryd.prog 39 #[.pointer (some ⟨g, 0, none⟩)] w fun e w' => e = .returned (.bool (r.N.any nevB)) ∧ Below w.heap.size w w' := by
  have x7 : w.cell? ⟨g, 7, none⟩ = some (.slice r.AW r.N.length r.cw) := blk_cell hg 7
  have K := contN_any r.AW r.cw r.N w hin.2.2.2.2.2.2.2 hr.2
  generalize r.N.any nevB = b at K ⊢
  clear hg hr hin
  go_enter Tryd.func39, Tryd.ntmps39
  go_wp2_with fail
  refine K.mono ?_
  rintro e w1 ⟨rfl, hb⟩
  go_wp2
  go_ret
  exact ⟨rfl, hb⟩
end Go.Proofs.YtigbbepgfofcoaaDoor
