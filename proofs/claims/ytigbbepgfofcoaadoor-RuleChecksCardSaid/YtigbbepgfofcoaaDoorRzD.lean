/- Are two rules the same: rule.Same's lists (layer 32). Are two rules the same: rule.Same and the document's (layer 32). Are two rules the same: the document's Same (layer 32). The walk of RuleChecks (layer 32). -/
import Derived.Test.YtigbbepgfofcoaaDoorRlK
import Derived.Test.YtigbbepgfofcoaaDoorRow
import Derived.Test.YtigbbepgfofcoaaDoorIntsEq
import Derived.Deep.DeepCutAuto
import Derived.Laws.StructEq
import Derived.Test.YtigbbepgfofcoaaDoorRlW
import Derived.Test.YtigbbepgfofcoaaDoorRlN
namespace Go.Proofs.YtigbbepgfofcoaaDoor
open Go.RowKit
set_option linter.unusedVariables false

set_option maxHeartbeats 800000 in
theorem seq_any (b : Bool) (A B : Option Addr) (c d : Nat) (xs ys : List Int) (w : World) (hl : xs.length ≤ 1000000000) (hl2 : ys.length ≤ 1000000000) (hx : Ints .i64 w A xs) (hy : Ints .i64 w B ys) (hb : b = true ↔ xs = ys) :
    Calls Tryd.prog 58 #[.slice A xs.length c, .slice B ys.length d] w fun e w' => e = .returned (.bool b) ∧ Quiet w w' := by
  have HX := Lib.hid hx
  have HY := Lib.hid hy
  have HB := Lib.hid hb
  clear hx hy hb
  by_cases hne : xs.length = ys.length
  · have dn : (((xs.length : Nat) : Int) == ((ys.length : Nat) : Int)) = true := by rw [beq_iff_eq]; omega
    have dm : (((xs.length : Nat) : Int) != ((ys.length : Nat) : Int)) = false := by rw [bne_eq_false_iff_eq]; omega
    have HN := Lib.hid hne
    clear hne
    go_enter Tryd.func58, Tryd.ntmps58
    go_wp2
    clear dn dm
    go_loopw [13] (fun i wr => ∃ k : Nat, k ≤ xs.length ∧ i = .int .i64 k ∧ Hid (∀ j, j < k → xs[j]?.getD 0 = ys[j]?.getD 0) ∧ Quiet w wr) (fun i _ => xs.length - (intOf i).toNat)
    case atStart => exact ⟨0, Nat.zero_le _, rfl, Lib.hid (fun j hj => by omega), Quiet.refl _⟩
    case round =>
      obtain ⟨k, hk, rfl, HP, hq⟩ := hrel
      have QQ := Lib.hid hq
      clear hq
      by_cases hlt : k < xs.length
      · have hlt2 : k < ys.length := by rw [← HN.out]; exact hlt
        obtain ⟨b1, o1, rfl, _, e1⟩ := HX.out k hlt
        obtain ⟨b2, o2, rfl, _, e2⟩ := HY.out k hlt2
        have c1 := (quiet_cell QQ.out ⟨b1, o1 + k, none⟩).trans e1
        have c2 := (quiet_cell QQ.out ⟨b2, o2 + k, none⟩).trans e2
        have i0 : (0 : Int) ≤ (k : Int) := by omega
        have i1 : (k : Int) < ((xs.length : Nat) : Int) := by omega
        have i2 : (k : Int) < ((ys.length : Nat) : Int) := by omega
        have HD := Lib.hid (show xs[k]?.getD 0 = xs[k]?.getD 0 from rfl)
        by_cases he : xs[k]?.getD 0 = ys[k]?.getD 0
        · have HP2 := Lib.hid (show ∀ j, j < k + 1 → xs[j]?.getD 0 = ys[j]?.getD 0 from fun j hj => by
            by_cases ej : j = k
            · subst ej; exact he
            · exact HP.out j (by omega))
          rw [← he] at c2
          generalize xs[k]?.getD 0 = z at c1 c2
          clear e1 e2 he HD
          go_wp2
          go_quiet (fail)
          go_wp2
          go_roundw
          case rel => exact ⟨k + 1, by omega, by go_num, HP2, QQ.out.trans (Quiet.of _ _)⟩
          case measure => simp [intOf]; omega
        · have HF := Lib.hid (show false = b by
            cases b
            · rfl
            · exact absurd (congrArg (fun l => l[k]?.getD 0) (HB.out.1 rfl)) he)
          have d1 : (xs[k]?.getD 0 == ys[k]?.getD 0) = false := by rw [beq_eq_false_iff_ne]; exact he
          have d2 : (xs[k]?.getD 0 != ys[k]?.getD 0) = true := by rw [bne_iff_ne]; exact he
          generalize xs[k]?.getD 0 = z at c1 d1 d2
          generalize ys[k]?.getD 0 = y at c2 d1 d2
          clear e1 e2 he HD
          go_wp2
          go_quiet (fail)
          go_wp2
          go_ret
          exact ⟨ret_bool HF.out, QQ.out.trans (Quiet.of _ _)⟩
      · obtain rfl : k = xs.length := by omega
        have HF := Lib.hid (show true = b from (HB.out.2 (list_ext' HN.out HP.out)).symm)
        clear hlt
        go_wp2
        go_ret
        exact ⟨ret_bool HF.out, QQ.out⟩
  · have dn : (((xs.length : Nat) : Int) == ((ys.length : Nat) : Int)) = false := by rw [beq_eq_false_iff_ne]; omega
    have dm : (((xs.length : Nat) : Int) != ((ys.length : Nat) : Int)) = true := by rw [bne_iff_ne]; omega
    have HF := Lib.hid (show false = b by
      cases b
      · rfl
      · exact absurd (congrArg List.length (HB.out.1 rfl)) hne)
    clear hne
    go_enter Tryd.func58, Tryd.ntmps58
    go_wp2
    go_ret
    exact ⟨ret_bool HF.out, Quiet.refl _⟩
theorem seqD_any (A B : Option Addr) (c d : Nat) (xs ys : List Int) (w : World) (hl : xs.length ≤ 1000000000) (hl2 : ys.length ≤ 1000000000) (hx : Ints .i64 w A xs) (hy : Ints .i64 w B ys) :
    Calls Tryd.prog 58 #[.slice A xs.length c, .slice B ys.length d] w fun e w' => e = .returned (.bool (decide (xs = ys))) ∧ Quiet w w' := seq_any _ A B c d xs ys w hl hl2 hx hy (by simp)
theorem intsD_any (A B : Option Addr) (c d : Nat) (xs ys : List Int) (w : World) (hl : xs.length ≤ 1000000000) (hl2 : ys.length ≤ 1000000000) (hx : Ints .i64 w A xs) (hy : Ints .i64 w B ys) :
    Calls Tryd.prog 64 #[.slice A xs.length c, .slice B ys.length d] w fun e w' => e = .returned (.bool (decide (xs = ys))) ∧ Quiet w w' := ints_any _ A B c d xs ys w hl hl2 hx hy (by simp)
/-- are two weekdays one? -/
def eqN2 (a b c d : Int) : Bool := decide (((a, b) : N2) = (c, d))
set_option maxRecDepth 100000 in
theorem eq_nth (a b c d : Int) (w : World) : (Op.equalIn 10000 29 (.agg #[.int .i64 a, .int .i64 b]) (.agg #[.int .i64 c, .int .i64 d])).run Tryd.prog w = .ok (eqN2 a b c d) w := by
  unfold eqN2
  have u3 := Tryd.underlying3
  have hS : Tryd.prog.underlying 29 = some (.struct (Tryd.prog.fieldsOf 29)) := by kernel_rfl
  have hp : Tryd.prog.stoodInHeld 29 = false := by kernel_rfl
  rw [show (10000 : Nat) = 9999 + 1 from rfl, run_equalIn_agg w 9999 29 _ _ hS hp]
  simp only [Program.fieldsOf, Tryd.underlying29]
  by_cases h1 : a = c
  · subst h1
    by_cases h2 : b = d
    · subst h2
      rw [dec_t (show ((a, b) : N2) = (a, b) from rfl)]
      go_simp
    · have e : (b == d) = false := by rw [beq_eq_false_iff_ne]; exact h2
      rw [dec_n (show ¬ ((a, b) : N2) = (a, d) from fun q => h2 (congrArg Prod.snd q))]
      go_simp
  · have e : (a == c) = false := by rw [beq_eq_false_iff_ne]; exact h1
    rw [dec_n (show ¬ ((a, b) : N2) = (c, d) from fun q => h1 (congrArg Prod.fst q))]
    go_simp
theorem guard_nth : Tryd.prog.eqGuardType Tryd.prog.depth 29 = false := by kernel_rfl
set_option maxRecDepth 20000 in
theorem sel0_any (r : Rl) (w : World) : Calls Tryd.prog 59 #[rlV r] w fun e w' => e = .returned (.slice (r.A 0) (r.Z 0).length (r.c 0)) ∧ Below w.heap.size w w' := by
  have HB0 := Lib.hid (show Below w.heap.size w (w.alloc (.cells (rlC r) 25)) from (Below.refl _ _).alloc (Nat.le_refl _) _)
  unfold rlC at HB0
  unfold rlV rlC
  go_enter Tryd.func59, Tryd.ntmps59
  go_wp2
  go_ret
  exact ⟨rfl, HB0.out⟩
set_option maxRecDepth 20000 in
theorem sel1_any (r : Rl) (w : World) : Calls Tryd.prog 60 #[rlV r] w fun e w' => e = .returned (.slice (r.A 1) (r.Z 1).length (r.c 1)) ∧ Below w.heap.size w w' := by
  have HB0 := Lib.hid (show Below w.heap.size w (w.alloc (.cells (rlC r) 25)) from (Below.refl _ _).alloc (Nat.le_refl _) _)
  unfold rlC at HB0
  unfold rlV rlC
  go_enter Tryd.func60, Tryd.ntmps60
  go_wp2
  go_ret
  exact ⟨rfl, HB0.out⟩
set_option maxRecDepth 20000 in
theorem sel2_any (r : Rl) (w : World) : Calls Tryd.prog 61 #[rlV r] w fun e w' => e = .returned (.slice (r.A 2) (r.Z 2).length (r.c 2)) ∧ Below w.heap.size w w' := by
  have HB0 := Lib.hid (show Below w.heap.size w (w.alloc (.cells (rlC r) 25)) from (Below.refl _ _).alloc (Nat.le_refl _) _)
  unfold rlC at HB0
  unfold rlV rlC
  go_enter Tryd.func61, Tryd.ntmps61
  go_wp2
  go_ret
  exact ⟨rfl, HB0.out⟩
set_option maxRecDepth 20000 in
theorem sel3_any (r : Rl) (w : World) : Calls Tryd.prog 62 #[rlV r] w fun e w' => e = .returned (.slice (r.A 3) (r.Z 3).length (r.c 3)) ∧ Below w.heap.size w w' := by
  have HB0 := Lib.hid (show Below w.heap.size w (w.alloc (.cells (rlC r) 25)) from (Below.refl _ _).alloc (Nat.le_refl _) _)
  unfold rlC at HB0
  unfold rlV rlC
  go_enter Tryd.func62, Tryd.ntmps62
  go_wp2
  go_ret
  exact ⟨rfl, HB0.out⟩
set_option maxRecDepth 20000 in
theorem sel4_any (r : Rl) (w : World) : Calls Tryd.prog 63 #[rlV r] w fun e w' => e = .returned (.slice (r.A 4) (r.Z 4).length (r.c 4)) ∧ Below w.heap.size w w' := by
  have HB0 := Lib.hid (show Below w.heap.size w (w.alloc (.cells (rlC r) 25)) from (Below.refl _ _).alloc (Nat.le_refl _) _)
  unfold rlC at HB0
  unfold rlV rlC
  go_enter Tryd.func63, Tryd.ntmps63
  go_wp2
  go_ret
  exact ⟨rfl, HB0.out⟩
/-- what a closure of two boxed rules sees -/
def SS2 (W0 : World) (g1 g2 : Nat) (r s : Rl) (X : World) : Prop := Below W0.heap.size W0 X ∧ X.heap[g1]? = some (.cells (rlC r) 25 (0, 0)) ∧ X.heap[g2]? = some (.cells (rlC s) 25 (0, 0))
theorem SS2.to {W0 X Y : World} {g1 g2 : Nat} {r s : Rl} (h : SS2 W0 g1 g2 r s X) (hb : Below X.heap.size X Y) : SS2 W0 g1 g2 r s Y := ⟨h.1.trans (hb.mono h.1.size), (hb.block _ (lt_of_block h.2.1)).trans h.2.1, (hb.block _ (lt_of_block h.2.2)).trans h.2.2⟩
theorem qbelow32 {w w' : World} (h : Quiet w w') : Below w.heap.size w w' := by obtain ⟨n, rfl⟩ := h; exact below_draws _ w n
set_option maxHeartbeats 1600000 in
set_option maxRecDepth 20000 in
theorem same0_any (r s : Rl) (g1 g2 : Nat) (w : World) (hg1 : w.heap[g1]? = some (.cells (rlC r) 25 (0, 0))) (hg2 : w.heap[g2]? = some (.cells (rlC s) 25 (0, 0))) (hr : RlAt w r) (hs : RlAt w s) (hl : (r.Z 0).length ≤ 1000000000) (hl2 : (s.Z 0).length ≤ 1000000000) :
    Calls Tryd.prog 57 #[.func (.func 59) #[] #[], .pointer (some ⟨g1, 0, none⟩), .pointer (some ⟨g2, 0, none⟩)] w fun e w' => e = .returned (.bool (decide (r.Z 0 = s.Z 0))) ∧ Below w.heap.size w w' := by
  have HI1 := Lib.hid (hr.1 0 (by decide))
  have HI2 := Lib.hid (hs.1 0 (by decide))
  have HL1 := Lib.hid hl
  have HL2 := Lib.hid hl2
  have HS := show SS2 w g1 g2 r s w.drew from ⟨(Below.refl _ _).drew, hg1, hg2⟩
  obtain ⟨b, hb⟩ : ∃ b, decide (r.Z 0 = s.Z 0) = b := ⟨_, rfl⟩
  have KE := Lib.hid (fun W (h : Below w.heap.size w W) => seqD_any (r.A 0) (s.A 0) (r.c 0) (s.c 0) _ _ W hl hl2 (HI1.out.below h) (HI2.out.below h))
  rw [hb] at KE ⊢
  clear hg1 hg2 hr hs hl hl2 hb
  go_enter Tryd.func57, Tryd.ntmps57
  go_upto_region 1 with fail
  refine wp_region_held_drew (S := SS2 w g1 g2 r s) (by kernel_rfl) HS (fun hHeld => ?_)
  refine heldVal (v := ?v1) 0 rfl rfl (by kernel_rfl) (by kernel_rfl) (by kernel_rfl) (fun _ _ _ h => h) (by rfl) (fun w hSw => ?hy1) (by assumption) ?_
  case hy1 => ((try dsimp only at hSw); go_simp; (try with_reducible rfl))
  try simp only [Act.put, List.setIfInBounds_toArray, List.set_cons_zero, List.set_cons_succ]
  refine heldVal 1 rfl rfl (by kernel_rfl) (by kernel_rfl) (by kernel_rfl) (fun _ _ _ h => h) (by rfl) (fun w hSw => exec_loadRow hSw.2.1 rfl rfl Tryd.underlying25 rfl (by kernel_rfl)) (by assumption) ?_
  try simp only [Act.put, List.setIfInBounds_toArray, List.set_cons_zero, List.set_cons_succ]
  refine heldVal (v := ?v2) 3 rfl rfl (by kernel_rfl) (by kernel_rfl) (by kernel_rfl) (fun _ _ _ h => h) (by rfl) (fun w hSw => ?hy2) (by assumption) ?_
  case hy2 => ((try dsimp only at hSw); go_simp; (try with_reducible rfl))
  try simp only [Act.put, List.setIfInBounds_toArray, List.set_cons_zero, List.set_cons_succ]
  refine heldVal 4 rfl rfl (by kernel_rfl) (by kernel_rfl) (by kernel_rfl) (fun _ _ _ h => h) (by rfl) (fun w hSw => exec_loadRow hSw.2.2 rfl rfl Tryd.underlying25 rfl (by kernel_rfl)) (by assumption) ?_
  try simp only [Act.put, List.setIfInBounds_toArray, List.set_cons_zero, List.set_cons_succ]
  refine heldCall 2 rfl rfl (by kernel_rfl) (by rfl) (fun K hK => ?_)
  go_simp
  go_at_call 59
  refine (sel0_any r _).mono ?_
  rintro e wa ⟨rfl, hb⟩
  have hSa := hHeld.to hb
  clear hb
  go_wp2_with fail
  refine hK.out _ _ ?hS (fun hHeld => ?_)
  case hS => (exact hSa)
  clear hK K
  try simp only [Act.put, List.setIfInBounds_toArray, List.set_cons_zero, List.set_cons_succ]
  refine heldCall 5 rfl rfl (by kernel_rfl) (by rfl) (fun K hK => ?_)
  go_simp
  go_at_call 59
  refine (sel0_any s _).mono ?_
  rintro e wb ⟨rfl, hb⟩
  have hSb := hHeld.to hb
  clear hb
  go_wp2_with fail
  refine hK.out _ _ ?hS (fun hHeld => ?_)
  case hS => (exact hSb)
  clear hK K
  try simp only [Act.put, List.setIfInBounds_toArray, List.set_cons_zero, List.set_cons_succ]
  refine heldCall 6 rfl rfl (by kernel_rfl) (by rfl) (fun K hK => ?_)
  go_simp
  go_at_call 58
  refine (KE.out _ hSb.1).mono ?_
  rintro e wc ⟨rfl, hq⟩
  have hSc := hHeld.to (qbelow32 hq)
  clear hq
  go_wp2_with fail
  refine hK.out _ _ ?hS (fun hHeld => ?_)
  case hS => (exact hSc)
  clear hK K
  try simp only [Act.put, List.setIfInBounds_toArray, List.set_cons_zero, List.set_cons_succ]
  refine heldVal (v := ?v3) 7 rfl rfl (by kernel_rfl) (by kernel_rfl) (by kernel_rfl) (fun _ _ _ h => h) (by rfl) (fun w hSw => ?hy3) (by assumption) ?_
  case hy3 => ((try dsimp only at hSw); go_simp; (try with_reducible rfl))
  try simp only [Act.put, List.setIfInBounds_toArray, List.set_cons_zero, List.set_cons_succ]
  refine wpAnyH_done (by kernel_rfl) ?_ _
  have HE := Lib.hid hSc.1
  clear hSc hSb hSa
  go_wp2_with fail
  go_ret
  exact ⟨rfl, HE.out⟩
set_option maxHeartbeats 1600000 in
set_option maxRecDepth 20000 in
theorem same1_any (r s : Rl) (g1 g2 : Nat) (w : World) (hg1 : w.heap[g1]? = some (.cells (rlC r) 25 (0, 0))) (hg2 : w.heap[g2]? = some (.cells (rlC s) 25 (0, 0))) (hr : RlAt w r) (hs : RlAt w s) (hl : (r.Z 1).length ≤ 1000000000) (hl2 : (s.Z 1).length ≤ 1000000000) :
    Calls Tryd.prog 57 #[.func (.func 60) #[] #[], .pointer (some ⟨g1, 0, none⟩), .pointer (some ⟨g2, 0, none⟩)] w fun e w' => e = .returned (.bool (decide (r.Z 1 = s.Z 1))) ∧ Below w.heap.size w w' := by
  have HI1 := Lib.hid (hr.1 1 (by decide))
  have HI2 := Lib.hid (hs.1 1 (by decide))
  have HL1 := Lib.hid hl
  have HL2 := Lib.hid hl2
  have HS := show SS2 w g1 g2 r s w.drew from ⟨(Below.refl _ _).drew, hg1, hg2⟩
  obtain ⟨b, hb⟩ : ∃ b, decide (r.Z 1 = s.Z 1) = b := ⟨_, rfl⟩
  have KE := Lib.hid (fun W (h : Below w.heap.size w W) => seqD_any (r.A 1) (s.A 1) (r.c 1) (s.c 1) _ _ W hl hl2 (HI1.out.below h) (HI2.out.below h))
  rw [hb] at KE ⊢
  clear hg1 hg2 hr hs hl hl2 hb
  go_enter Tryd.func57, Tryd.ntmps57
  go_upto_region 1 with fail
  refine wp_region_held_drew (S := SS2 w g1 g2 r s) (by kernel_rfl) HS (fun hHeld => ?_)
  refine heldVal (v := ?v1) 0 rfl rfl (by kernel_rfl) (by kernel_rfl) (by kernel_rfl) (fun _ _ _ h => h) (by rfl) (fun w hSw => ?hy1) (by assumption) ?_
  case hy1 => ((try dsimp only at hSw); go_simp; (try with_reducible rfl))
  try simp only [Act.put, List.setIfInBounds_toArray, List.set_cons_zero, List.set_cons_succ]
  refine heldVal 1 rfl rfl (by kernel_rfl) (by kernel_rfl) (by kernel_rfl) (fun _ _ _ h => h) (by rfl) (fun w hSw => exec_loadRow hSw.2.1 rfl rfl Tryd.underlying25 rfl (by kernel_rfl)) (by assumption) ?_
  try simp only [Act.put, List.setIfInBounds_toArray, List.set_cons_zero, List.set_cons_succ]
  refine heldVal (v := ?v2) 3 rfl rfl (by kernel_rfl) (by kernel_rfl) (by kernel_rfl) (fun _ _ _ h => h) (by rfl) (fun w hSw => ?hy2) (by assumption) ?_
  case hy2 => ((try dsimp only at hSw); go_simp; (try with_reducible rfl))
  try simp only [Act.put, List.setIfInBounds_toArray, List.set_cons_zero, List.set_cons_succ]
  refine heldVal 4 rfl rfl (by kernel_rfl) (by kernel_rfl) (by kernel_rfl) (fun _ _ _ h => h) (by rfl) (fun w hSw => exec_loadRow hSw.2.2 rfl rfl Tryd.underlying25 rfl (by kernel_rfl)) (by assumption) ?_
  try simp only [Act.put, List.setIfInBounds_toArray, List.set_cons_zero, List.set_cons_succ]
  refine heldCall 2 rfl rfl (by kernel_rfl) (by rfl) (fun K hK => ?_)
  go_simp
  go_at_call 60
  refine (sel1_any r _).mono ?_
  rintro e wa ⟨rfl, hb⟩
  have hSa := hHeld.to hb
  clear hb
  go_wp2_with fail
  refine hK.out _ _ ?hS (fun hHeld => ?_)
  case hS => (exact hSa)
  clear hK K
  try simp only [Act.put, List.setIfInBounds_toArray, List.set_cons_zero, List.set_cons_succ]
  refine heldCall 5 rfl rfl (by kernel_rfl) (by rfl) (fun K hK => ?_)
  go_simp
  go_at_call 60
  refine (sel1_any s _).mono ?_
  rintro e wb ⟨rfl, hb⟩
  have hSb := hHeld.to hb
  clear hb
  go_wp2_with fail
  refine hK.out _ _ ?hS (fun hHeld => ?_)
  case hS => (exact hSb)
  clear hK K
  try simp only [Act.put, List.setIfInBounds_toArray, List.set_cons_zero, List.set_cons_succ]
  refine heldCall 6 rfl rfl (by kernel_rfl) (by rfl) (fun K hK => ?_)
  go_simp
  go_at_call 58
  refine (KE.out _ hSb.1).mono ?_
  rintro e wc ⟨rfl, hq⟩
  have hSc := hHeld.to (qbelow32 hq)
  clear hq
  go_wp2_with fail
  refine hK.out _ _ ?hS (fun hHeld => ?_)
  case hS => (exact hSc)
  clear hK K
  try simp only [Act.put, List.setIfInBounds_toArray, List.set_cons_zero, List.set_cons_succ]
  refine heldVal (v := ?v3) 7 rfl rfl (by kernel_rfl) (by kernel_rfl) (by kernel_rfl) (fun _ _ _ h => h) (by rfl) (fun w hSw => ?hy3) (by assumption) ?_
  case hy3 => ((try dsimp only at hSw); go_simp; (try with_reducible rfl))
  try simp only [Act.put, List.setIfInBounds_toArray, List.set_cons_zero, List.set_cons_succ]
  refine wpAnyH_done (by kernel_rfl) ?_ _
  have HE := Lib.hid hSc.1
  clear hSc hSb hSa
  go_wp2_with fail
  go_ret
  exact ⟨rfl, HE.out⟩
set_option maxHeartbeats 1600000 in
set_option maxRecDepth 20000 in
theorem same2_any (r s : Rl) (g1 g2 : Nat) (w : World) (hg1 : w.heap[g1]? = some (.cells (rlC r) 25 (0, 0))) (hg2 : w.heap[g2]? = some (.cells (rlC s) 25 (0, 0))) (hr : RlAt w r) (hs : RlAt w s) (hl : (r.Z 2).length ≤ 1000000000) (hl2 : (s.Z 2).length ≤ 1000000000) :
    Calls Tryd.prog 57 #[.func (.func 61) #[] #[], .pointer (some ⟨g1, 0, none⟩), .pointer (some ⟨g2, 0, none⟩)] w fun e w' => e = .returned (.bool (decide (r.Z 2 = s.Z 2))) ∧ Below w.heap.size w w' := by
  have HI1 := Lib.hid (hr.1 2 (by decide))
  have HI2 := Lib.hid (hs.1 2 (by decide))
  have HL1 := Lib.hid hl
  have HL2 := Lib.hid hl2
  have HS := show SS2 w g1 g2 r s w.drew from ⟨(Below.refl _ _).drew, hg1, hg2⟩
  obtain ⟨b, hb⟩ : ∃ b, decide (r.Z 2 = s.Z 2) = b := ⟨_, rfl⟩
  have KE := Lib.hid (fun W (h : Below w.heap.size w W) => seqD_any (r.A 2) (s.A 2) (r.c 2) (s.c 2) _ _ W hl hl2 (HI1.out.below h) (HI2.out.below h))
  rw [hb] at KE ⊢
  clear hg1 hg2 hr hs hl hl2 hb
  go_enter Tryd.func57, Tryd.ntmps57
  go_upto_region 1 with fail
  refine wp_region_held_drew (S := SS2 w g1 g2 r s) (by kernel_rfl) HS (fun hHeld => ?_)
  refine heldVal (v := ?v1) 0 rfl rfl (by kernel_rfl) (by kernel_rfl) (by kernel_rfl) (fun _ _ _ h => h) (by rfl) (fun w hSw => ?hy1) (by assumption) ?_
  case hy1 => ((try dsimp only at hSw); go_simp; (try with_reducible rfl))
  try simp only [Act.put, List.setIfInBounds_toArray, List.set_cons_zero, List.set_cons_succ]
  refine heldVal 1 rfl rfl (by kernel_rfl) (by kernel_rfl) (by kernel_rfl) (fun _ _ _ h => h) (by rfl) (fun w hSw => exec_loadRow hSw.2.1 rfl rfl Tryd.underlying25 rfl (by kernel_rfl)) (by assumption) ?_
  try simp only [Act.put, List.setIfInBounds_toArray, List.set_cons_zero, List.set_cons_succ]
  refine heldVal (v := ?v2) 3 rfl rfl (by kernel_rfl) (by kernel_rfl) (by kernel_rfl) (fun _ _ _ h => h) (by rfl) (fun w hSw => ?hy2) (by assumption) ?_
  case hy2 => ((try dsimp only at hSw); go_simp; (try with_reducible rfl))
  try simp only [Act.put, List.setIfInBounds_toArray, List.set_cons_zero, List.set_cons_succ]
  refine heldVal 4 rfl rfl (by kernel_rfl) (by kernel_rfl) (by kernel_rfl) (fun _ _ _ h => h) (by rfl) (fun w hSw => exec_loadRow hSw.2.2 rfl rfl Tryd.underlying25 rfl (by kernel_rfl)) (by assumption) ?_
  try simp only [Act.put, List.setIfInBounds_toArray, List.set_cons_zero, List.set_cons_succ]
  refine heldCall 2 rfl rfl (by kernel_rfl) (by rfl) (fun K hK => ?_)
  go_simp
  go_at_call 61
  refine (sel2_any r _).mono ?_
  rintro e wa ⟨rfl, hb⟩
  have hSa := hHeld.to hb
  clear hb
  go_wp2_with fail
  refine hK.out _ _ ?hS (fun hHeld => ?_)
  case hS => (exact hSa)
  clear hK K
  try simp only [Act.put, List.setIfInBounds_toArray, List.set_cons_zero, List.set_cons_succ]
  refine heldCall 5 rfl rfl (by kernel_rfl) (by rfl) (fun K hK => ?_)
  go_simp
  go_at_call 61
  refine (sel2_any s _).mono ?_
  rintro e wb ⟨rfl, hb⟩
  have hSb := hHeld.to hb
  clear hb
  go_wp2_with fail
  refine hK.out _ _ ?hS (fun hHeld => ?_)
  case hS => (exact hSb)
  clear hK K
  try simp only [Act.put, List.setIfInBounds_toArray, List.set_cons_zero, List.set_cons_succ]
  refine heldCall 6 rfl rfl (by kernel_rfl) (by rfl) (fun K hK => ?_)
  go_simp
  go_at_call 58
  refine (KE.out _ hSb.1).mono ?_
  rintro e wc ⟨rfl, hq⟩
  have hSc := hHeld.to (qbelow32 hq)
  clear hq
  go_wp2_with fail
  refine hK.out _ _ ?hS (fun hHeld => ?_)
  case hS => (exact hSc)
  clear hK K
  try simp only [Act.put, List.setIfInBounds_toArray, List.set_cons_zero, List.set_cons_succ]
  refine heldVal (v := ?v3) 7 rfl rfl (by kernel_rfl) (by kernel_rfl) (by kernel_rfl) (fun _ _ _ h => h) (by rfl) (fun w hSw => ?hy3) (by assumption) ?_
  case hy3 => ((try dsimp only at hSw); go_simp; (try with_reducible rfl))
  try simp only [Act.put, List.setIfInBounds_toArray, List.set_cons_zero, List.set_cons_succ]
  refine wpAnyH_done (by kernel_rfl) ?_ _
  have HE := Lib.hid hSc.1
  clear hSc hSb hSa
  go_wp2_with fail
  go_ret
  exact ⟨rfl, HE.out⟩
set_option maxHeartbeats 1600000 in
set_option maxRecDepth 20000 in
theorem same3_any (r s : Rl) (g1 g2 : Nat) (w : World) (hg1 : w.heap[g1]? = some (.cells (rlC r) 25 (0, 0))) (hg2 : w.heap[g2]? = some (.cells (rlC s) 25 (0, 0))) (hr : RlAt w r) (hs : RlAt w s) (hl : (r.Z 3).length ≤ 1000000000) (hl2 : (s.Z 3).length ≤ 1000000000) :
    Calls Tryd.prog 57 #[.func (.func 62) #[] #[], .pointer (some ⟨g1, 0, none⟩), .pointer (some ⟨g2, 0, none⟩)] w fun e w' => e = .returned (.bool (decide (r.Z 3 = s.Z 3))) ∧ Below w.heap.size w w' := by
  have HI1 := Lib.hid (hr.1 3 (by decide))
  have HI2 := Lib.hid (hs.1 3 (by decide))
  have HL1 := Lib.hid hl
  have HL2 := Lib.hid hl2
  have HS := show SS2 w g1 g2 r s w.drew from ⟨(Below.refl _ _).drew, hg1, hg2⟩
  obtain ⟨b, hb⟩ : ∃ b, decide (r.Z 3 = s.Z 3) = b := ⟨_, rfl⟩
  have KE := Lib.hid (fun W (h : Below w.heap.size w W) => seqD_any (r.A 3) (s.A 3) (r.c 3) (s.c 3) _ _ W hl hl2 (HI1.out.below h) (HI2.out.below h))
  rw [hb] at KE ⊢
  clear hg1 hg2 hr hs hl hl2 hb
  go_enter Tryd.func57, Tryd.ntmps57
  go_upto_region 1 with fail
  refine wp_region_held_drew (S := SS2 w g1 g2 r s) (by kernel_rfl) HS (fun hHeld => ?_)
  refine heldVal (v := ?v1) 0 rfl rfl (by kernel_rfl) (by kernel_rfl) (by kernel_rfl) (fun _ _ _ h => h) (by rfl) (fun w hSw => ?hy1) (by assumption) ?_
  case hy1 => ((try dsimp only at hSw); go_simp; (try with_reducible rfl))
  try simp only [Act.put, List.setIfInBounds_toArray, List.set_cons_zero, List.set_cons_succ]
  refine heldVal 1 rfl rfl (by kernel_rfl) (by kernel_rfl) (by kernel_rfl) (fun _ _ _ h => h) (by rfl) (fun w hSw => exec_loadRow hSw.2.1 rfl rfl Tryd.underlying25 rfl (by kernel_rfl)) (by assumption) ?_
  try simp only [Act.put, List.setIfInBounds_toArray, List.set_cons_zero, List.set_cons_succ]
  refine heldVal (v := ?v2) 3 rfl rfl (by kernel_rfl) (by kernel_rfl) (by kernel_rfl) (fun _ _ _ h => h) (by rfl) (fun w hSw => ?hy2) (by assumption) ?_
  case hy2 => ((try dsimp only at hSw); go_simp; (try with_reducible rfl))
  try simp only [Act.put, List.setIfInBounds_toArray, List.set_cons_zero, List.set_cons_succ]
  refine heldVal 4 rfl rfl (by kernel_rfl) (by kernel_rfl) (by kernel_rfl) (fun _ _ _ h => h) (by rfl) (fun w hSw => exec_loadRow hSw.2.2 rfl rfl Tryd.underlying25 rfl (by kernel_rfl)) (by assumption) ?_
  try simp only [Act.put, List.setIfInBounds_toArray, List.set_cons_zero, List.set_cons_succ]
  refine heldCall 2 rfl rfl (by kernel_rfl) (by rfl) (fun K hK => ?_)
  go_simp
  go_at_call 62
  refine (sel3_any r _).mono ?_
  rintro e wa ⟨rfl, hb⟩
  have hSa := hHeld.to hb
  clear hb
  go_wp2_with fail
  refine hK.out _ _ ?hS (fun hHeld => ?_)
  case hS => (exact hSa)
  clear hK K
  try simp only [Act.put, List.setIfInBounds_toArray, List.set_cons_zero, List.set_cons_succ]
  refine heldCall 5 rfl rfl (by kernel_rfl) (by rfl) (fun K hK => ?_)
  go_simp
  go_at_call 62
  refine (sel3_any s _).mono ?_
  rintro e wb ⟨rfl, hb⟩
  have hSb := hHeld.to hb
  clear hb
  go_wp2_with fail
  refine hK.out _ _ ?hS (fun hHeld => ?_)
  case hS => (exact hSb)
  clear hK K
  try simp only [Act.put, List.setIfInBounds_toArray, List.set_cons_zero, List.set_cons_succ]
  refine heldCall 6 rfl rfl (by kernel_rfl) (by rfl) (fun K hK => ?_)
  go_simp
  go_at_call 58
  refine (KE.out _ hSb.1).mono ?_
  rintro e wc ⟨rfl, hq⟩
  have hSc := hHeld.to (qbelow32 hq)
  clear hq
  go_wp2_with fail
  refine hK.out _ _ ?hS (fun hHeld => ?_)
  case hS => (exact hSc)
  clear hK K
  try simp only [Act.put, List.setIfInBounds_toArray, List.set_cons_zero, List.set_cons_succ]
  refine heldVal (v := ?v3) 7 rfl rfl (by kernel_rfl) (by kernel_rfl) (by kernel_rfl) (fun _ _ _ h => h) (by rfl) (fun w hSw => ?hy3) (by assumption) ?_
  case hy3 => ((try dsimp only at hSw); go_simp; (try with_reducible rfl))
  try simp only [Act.put, List.setIfInBounds_toArray, List.set_cons_zero, List.set_cons_succ]
  refine wpAnyH_done (by kernel_rfl) ?_ _
  have HE := Lib.hid hSc.1
  clear hSc hSb hSa
  go_wp2_with fail
  go_ret
  exact ⟨rfl, HE.out⟩
set_option maxHeartbeats 1600000 in
set_option maxRecDepth 20000 in
theorem same4_any (r s : Rl) (g1 g2 : Nat) (w : World) (hg1 : w.heap[g1]? = some (.cells (rlC r) 25 (0, 0))) (hg2 : w.heap[g2]? = some (.cells (rlC s) 25 (0, 0))) (hr : RlAt w r) (hs : RlAt w s) (hl : (r.Z 4).length ≤ 1000000000) (hl2 : (s.Z 4).length ≤ 1000000000) :
    Calls Tryd.prog 57 #[.func (.func 63) #[] #[], .pointer (some ⟨g1, 0, none⟩), .pointer (some ⟨g2, 0, none⟩)] w fun e w' => e = .returned (.bool (decide (r.Z 4 = s.Z 4))) ∧ Below w.heap.size w w' := by
  have HI1 := Lib.hid (hr.1 4 (by decide))
  have HI2 := Lib.hid (hs.1 4 (by decide))
  have HL1 := Lib.hid hl
  have HL2 := Lib.hid hl2
  have HS := show SS2 w g1 g2 r s w.drew from ⟨(Below.refl _ _).drew, hg1, hg2⟩
  obtain ⟨b, hb⟩ : ∃ b, decide (r.Z 4 = s.Z 4) = b := ⟨_, rfl⟩
  have KE := Lib.hid (fun W (h : Below w.heap.size w W) => seqD_any (r.A 4) (s.A 4) (r.c 4) (s.c 4) _ _ W hl hl2 (HI1.out.below h) (HI2.out.below h))
  rw [hb] at KE ⊢
  clear hg1 hg2 hr hs hl hl2 hb
  go_enter Tryd.func57, Tryd.ntmps57
  go_upto_region 1 with fail
  refine wp_region_held_drew (S := SS2 w g1 g2 r s) (by kernel_rfl) HS (fun hHeld => ?_)
  refine heldVal (v := ?v1) 0 rfl rfl (by kernel_rfl) (by kernel_rfl) (by kernel_rfl) (fun _ _ _ h => h) (by rfl) (fun w hSw => ?hy1) (by assumption) ?_
  case hy1 => ((try dsimp only at hSw); go_simp; (try with_reducible rfl))
  try simp only [Act.put, List.setIfInBounds_toArray, List.set_cons_zero, List.set_cons_succ]
  refine heldVal 1 rfl rfl (by kernel_rfl) (by kernel_rfl) (by kernel_rfl) (fun _ _ _ h => h) (by rfl) (fun w hSw => exec_loadRow hSw.2.1 rfl rfl Tryd.underlying25 rfl (by kernel_rfl)) (by assumption) ?_
  try simp only [Act.put, List.setIfInBounds_toArray, List.set_cons_zero, List.set_cons_succ]
  refine heldVal (v := ?v2) 3 rfl rfl (by kernel_rfl) (by kernel_rfl) (by kernel_rfl) (fun _ _ _ h => h) (by rfl) (fun w hSw => ?hy2) (by assumption) ?_
  case hy2 => ((try dsimp only at hSw); go_simp; (try with_reducible rfl))
  try simp only [Act.put, List.setIfInBounds_toArray, List.set_cons_zero, List.set_cons_succ]
  refine heldVal 4 rfl rfl (by kernel_rfl) (by kernel_rfl) (by kernel_rfl) (fun _ _ _ h => h) (by rfl) (fun w hSw => exec_loadRow hSw.2.2 rfl rfl Tryd.underlying25 rfl (by kernel_rfl)) (by assumption) ?_
  try simp only [Act.put, List.setIfInBounds_toArray, List.set_cons_zero, List.set_cons_succ]
  refine heldCall 2 rfl rfl (by kernel_rfl) (by rfl) (fun K hK => ?_)
  go_simp
  go_at_call 63
  refine (sel4_any r _).mono ?_
  rintro e wa ⟨rfl, hb⟩
  have hSa := hHeld.to hb
  clear hb
  go_wp2_with fail
  refine hK.out _ _ ?hS (fun hHeld => ?_)
  case hS => (exact hSa)
  clear hK K
  try simp only [Act.put, List.setIfInBounds_toArray, List.set_cons_zero, List.set_cons_succ]
  refine heldCall 5 rfl rfl (by kernel_rfl) (by rfl) (fun K hK => ?_)
  go_simp
  go_at_call 63
  refine (sel4_any s _).mono ?_
  rintro e wb ⟨rfl, hb⟩
  have hSb := hHeld.to hb
  clear hb
  go_wp2_with fail
  refine hK.out _ _ ?hS (fun hHeld => ?_)
  case hS => (exact hSb)
  clear hK K
  try simp only [Act.put, List.setIfInBounds_toArray, List.set_cons_zero, List.set_cons_succ]
  refine heldCall 6 rfl rfl (by kernel_rfl) (by rfl) (fun K hK => ?_)
  go_simp
  go_at_call 58
  refine (KE.out _ hSb.1).mono ?_
  rintro e wc ⟨rfl, hq⟩
  have hSc := hHeld.to (qbelow32 hq)
  clear hq
  go_wp2_with fail
  refine hK.out _ _ ?hS (fun hHeld => ?_)
  case hS => (exact hSc)
  clear hK K
  try simp only [Act.put, List.setIfInBounds_toArray, List.set_cons_zero, List.set_cons_succ]
  refine heldVal (v := ?v3) 7 rfl rfl (by kernel_rfl) (by kernel_rfl) (by kernel_rfl) (fun _ _ _ h => h) (by rfl) (fun w hSw => ?hy3) (by assumption) ?_
  case hy3 => ((try dsimp only at hSw); go_simp; (try with_reducible rfl))
  try simp only [Act.put, List.setIfInBounds_toArray, List.set_cons_zero, List.set_cons_succ]
  refine wpAnyH_done (by kernel_rfl) ?_ _
  have HE := Lib.hid hSc.1
  clear hSc hSb hSa
  go_wp2_with fail
  go_ret
  exact ⟨rfl, HE.out⟩
end Go.Proofs.YtigbbepgfofcoaaDoor
namespace Go.Proofs.YtigbbepgfofcoaaDoor
open Go.RowKit
set_option linter.unusedVariables false

theorem nths_ext {l m : List N2} (h : l.length = m.length) (hj : ∀ j, j < l.length → nthN l j = nthN m j) : l = m := by
  apply List.ext_getElem h
  intro n h1 h2
  have q := hj n h1
  unfold nthN at q
  rw [List.getElem?_eq_getElem h1, List.getElem?_eq_getElem h2] at q
  exact q
def sameB (r s : Rl) : Bool := decide (r.N = s.N) && (decide (r.start = s.start) && (decide (r.freq = s.freq) && (decide (r.itv = s.itv) && (decide (r.cnt = s.cnt) && (decide (r.unt = s.unt) && (decide (r.Z 0 = s.Z 0) && (decide (r.Z 1 = s.Z 1) && (decide (r.Z 2 = s.Z 2) && (decide (r.Z 3 = s.Z 3) && decide (r.Z 4 = s.Z 4))))))))))
theorem sameB_self (r : Rl) : sameB r r = true := by unfold sameB; simp
theorem qcell {w w' : World} (h : Quiet w w') {a : Addr} {v : Value} (hc : w.cell? a = some v) : w'.cell? a = some v := by obtain ⟨n, rfl⟩ := h; exact hc
set_option maxHeartbeats 6400000 in
set_option maxRecDepth 20000 in
theorem rsame_any (r s : Rl) (w : World) (hr : RlAt w r) (hs : RlAt w s) (hl : ∀ i, i < 5 → (r.Z i).length ≤ 1000000000) (hl2 : ∀ i, i < 5 → (s.Z i).length ≤ 1000000000) (hn : r.N.length ≤ 100000) (hn2 : s.N.length ≤ 100000) :
    Calls Tryd.prog 11 #[rlV r, rlV s] w fun e w' => e = .returned (.bool (sameB r s)) ∧ Below w.heap.size w w' := by
  have HG1 := Lib.hid (blk_more (blk_new w (.cells (rlC r) 25)) (.cells (rlC s) 25))
  have HG2 := Lib.hid (show ((w.alloc (.cells (rlC r) 25)).alloc (.cells (rlC s) 25)).heap[w.heap.size + 1]? = some (.cells (rlC s) 25 (0, 0)) from by
    have q := blk_new (w.alloc (.cells (rlC r) 25)) (.cells (rlC s) 25)
    rw [World.size_alloc] at q
    exact q)
  have HB0 := Lib.hid (show Below w.heap.size w ((w.alloc (.cells (rlC r) 25)).alloc (.cells (rlC s) 25)) from ((Below.refl _ _).alloc (Nat.le_refl _) _).alloc (by rw [World.size_alloc]; omega) _)
  obtain ⟨W0, hW0⟩ : ∃ W0, (w.alloc (.cells (rlC r) 25)).alloc (.cells (rlC s) 25) = W0 := ⟨_, rfl⟩
  rw [hW0] at HG1 HG2 HB0
  have HR := Lib.hid (hr.below HB0.out)
  have HS := Lib.hid (hs.below HB0.out)
  have HE := Lib.hid (show sameB r s = (decide (r.N = s.N) && (decide (r.start = s.start) && (decide (r.freq = s.freq) && (decide (r.itv = s.itv) && (decide (r.cnt = s.cnt) && (decide (r.unt = s.unt) && (decide (r.Z 0 = s.Z 0) && (decide (r.Z 1 = s.Z 1) && (decide (r.Z 2 = s.Z 2) && (decide (r.Z 3 = s.Z 3) && decide (r.Z 4 = s.Z 4))))))))))) from rfl)
  generalize sameB r s = res at HE ⊢
  obtain ⟨q0, hq0⟩ : ∃ b, decide (r.start = s.start) = b := ⟨_, rfl⟩
  rw [hq0] at HE
  have e0 : (r.start == s.start) = q0 := by rw [← hq0]; rfl
  have f0 : (r.start != s.start) = !q0 := by rw [← e0]; rfl
  clear hq0
  obtain ⟨q1, hq1⟩ : ∃ b, decide (r.freq = s.freq) = b := ⟨_, rfl⟩
  rw [hq1] at HE
  have e1 : (r.freq == s.freq) = q1 := by rw [← hq1]; rfl
  have f1 : (r.freq != s.freq) = !q1 := by rw [← e1]; rfl
  clear hq1
  obtain ⟨q2, hq2⟩ : ∃ b, decide (r.itv = s.itv) = b := ⟨_, rfl⟩
  rw [hq2] at HE
  have e2 : (r.itv == s.itv) = q2 := by rw [← hq2]; rfl
  have f2 : (r.itv != s.itv) = !q2 := by rw [← e2]; rfl
  clear hq2
  obtain ⟨q3, hq3⟩ : ∃ b, decide (r.cnt = s.cnt) = b := ⟨_, rfl⟩
  rw [hq3] at HE
  have e3 : (r.cnt == s.cnt) = q3 := by rw [← hq3]; rfl
  have f3 : (r.cnt != s.cnt) = !q3 := by rw [← e3]; rfl
  clear hq3
  obtain ⟨q4, hq4⟩ : ∃ b, decide (r.unt = s.unt) = b := ⟨_, rfl⟩
  rw [hq4] at HE
  have e4 : (r.unt == s.unt) = q4 := by rw [← hq4]; rfl
  have f4 : (r.unt != s.unt) = !q4 := by rw [← e4]; rfl
  clear hq4
  have KS0 := Lib.hid (fun W (h : SS2 W0 w.heap.size (w.heap.size + 1) r s W) => same0_any r s w.heap.size (w.heap.size + 1) W h.2.1 h.2.2 (HR.out.below h.1) (HS.out.below h.1) (hl 0 (by decide)) (hl2 0 (by decide)))
  have KS1 := Lib.hid (fun W (h : SS2 W0 w.heap.size (w.heap.size + 1) r s W) => same1_any r s w.heap.size (w.heap.size + 1) W h.2.1 h.2.2 (HR.out.below h.1) (HS.out.below h.1) (hl 1 (by decide)) (hl2 1 (by decide)))
  have KS2 := Lib.hid (fun W (h : SS2 W0 w.heap.size (w.heap.size + 1) r s W) => same2_any r s w.heap.size (w.heap.size + 1) W h.2.1 h.2.2 (HR.out.below h.1) (HS.out.below h.1) (hl 2 (by decide)) (hl2 2 (by decide)))
  have KS3 := Lib.hid (fun W (h : SS2 W0 w.heap.size (w.heap.size + 1) r s W) => same3_any r s w.heap.size (w.heap.size + 1) W h.2.1 h.2.2 (HR.out.below h.1) (HS.out.below h.1) (hl 3 (by decide)) (hl2 3 (by decide)))
  have KS4 := Lib.hid (fun W (h : SS2 W0 w.heap.size (w.heap.size + 1) r s W) => same4_any r s w.heap.size (w.heap.size + 1) W h.2.1 h.2.2 (HR.out.below h.1) (HS.out.below h.1) (hl 4 (by decide)) (hl2 4 (by decide)))
  obtain ⟨d0x, hd0⟩ : ∃ b, decide (r.Z 0 = s.Z 0) = b := ⟨_, rfl⟩
  rw [hd0] at HE KS0
  clear hd0
  obtain ⟨d1x, hd1⟩ : ∃ b, decide (r.Z 1 = s.Z 1) = b := ⟨_, rfl⟩
  rw [hd1] at HE KS1
  clear hd1
  obtain ⟨d2x, hd2⟩ : ∃ b, decide (r.Z 2 = s.Z 2) = b := ⟨_, rfl⟩
  rw [hd2] at HE KS2
  clear hd2
  obtain ⟨d3x, hd3⟩ : ∃ b, decide (r.Z 3 = s.Z 3) = b := ⟨_, rfl⟩
  rw [hd3] at HE KS3
  clear hd3
  obtain ⟨d4x, hd4⟩ : ∃ b, decide (r.Z 4 = s.Z 4) = b := ⟨_, rfl⟩
  rw [hd4] at HE KS4
  clear hd4
  have y0 : W0.cell? ⟨w.heap.size, 0, none⟩ = some (.int .i64 r.start) := blk_cell HG1.out 0
  have y1 : W0.cell? ⟨w.heap.size, 1, none⟩ = some (.int .i64 r.freq) := blk_cell HG1.out 1
  have y2 : W0.cell? ⟨w.heap.size, 2, none⟩ = some (.int .i64 r.itv) := blk_cell HG1.out 2
  have y3 : W0.cell? ⟨w.heap.size, 3, none⟩ = some (.int .i64 r.cnt) := blk_cell HG1.out 3
  have y4 : W0.cell? ⟨w.heap.size, 4, none⟩ = some (.int .i64 r.unt) := blk_cell HG1.out 4
  have y7 : W0.cell? ⟨w.heap.size, 7, none⟩ = some (.slice r.AW r.N.length r.cw) := blk_cell HG1.out 7
  have z0 : W0.cell? ⟨w.heap.size + 1, 0, none⟩ = some (.int .i64 s.start) := blk_cell HG2.out 0
  have z1 : W0.cell? ⟨w.heap.size + 1, 1, none⟩ = some (.int .i64 s.freq) := blk_cell HG2.out 1
  have z2 : W0.cell? ⟨w.heap.size + 1, 2, none⟩ = some (.int .i64 s.itv) := blk_cell HG2.out 2
  have z3 : W0.cell? ⟨w.heap.size + 1, 3, none⟩ = some (.int .i64 s.cnt) := blk_cell HG2.out 3
  have z4 : W0.cell? ⟨w.heap.size + 1, 4, none⟩ = some (.int .i64 s.unt) := blk_cell HG2.out 4
  have z7 : W0.cell? ⟨w.heap.size + 1, 7, none⟩ = some (.slice s.AW s.N.length s.cw) := blk_cell HG2.out 7
  clear hl hl2
  have HW := Lib.hid hW0
  unfold rlV rlC
  unfold rlC at HW
  clear hr hs hW0
  go_enter Tryd.func11, Tryd.ntmps11
  go_upto_region 1 with fail
  rw [HW.out]
  clear HW
  by_cases hln : r.N.length = s.N.length
  case neg =>
    have d1 : (((r.N.length : Nat) : Int) != ((s.N.length : Nat) : Int)) = true := by rw [bne_iff_ne]; omega
    have d2 : (((r.N.length : Nat) : Int) == ((s.N.length : Nat) : Int)) = false := by rw [beq_eq_false_iff_ne]; omega
    have d3 : (r.N.length == s.N.length) = false := by rw [beq_eq_false_iff_ne]; exact hln
    have d4 : (r.N.length != s.N.length) = true := by rw [bne_iff_ne]; exact hln
    have HF := Lib.hid (show res = false by rw [HE.out, dec_n (show ¬ r.N = s.N from fun q => hln (congrArg List.length q))]; rfl)
    clear hln HE
    go_wp2_with fail
    go_ret
    exact ⟨by rw [HF.out]; rfl, HB0.out⟩
  have d1 : (((r.N.length : Nat) : Int) != ((s.N.length : Nat) : Int)) = false := by rw [bne_eq_false_iff_eq]; omega
  have d2 : (((r.N.length : Nat) : Int) == ((s.N.length : Nat) : Int)) = true := by rw [beq_iff_eq]; omega
  have d3 : (r.N.length == s.N.length) = true := by rw [beq_iff_eq]; exact hln
  have d4 : (r.N.length != s.N.length) = false := by rw [bne_eq_false_iff_eq]; exact hln
  have HLN := Lib.hid hln
  clear hln
  go_wp2_with fail
  have HNL := Lib.hid hn
  have HN1 := Lib.hid HR.out.2
  have HN2 := Lib.hid HS.out.2
  clear hn hn2
  have hgd := guard_nth
  clear d1 d2 d3 d4
  go_loopw [17] (fun i wr => ∃ k : Nat, k ≤ r.N.length ∧ i = .int .i64 k ∧ Hid (∀ j, j < k → nthN r.N j = nthN s.N j) ∧ Quiet W0 wr) (fun i _ => r.N.length - (intOf i).toNat)
  case atStart => exact ⟨0, Nat.zero_le _, rfl, Lib.hid (fun j hj => by omega), Quiet.refl _⟩
  case round =>
    obtain ⟨k, hk, rfl, HP, hq⟩ := hrel
    have QQ := Lib.hid hq
    clear hq
    have y7 := qcell QQ.out y7
    have z7 := qcell QQ.out z7
    by_cases hlt : k < r.N.length
    · have hlt2 : k < s.N.length := by rw [← HLN.out]; exact hlt
      have hnl := HNL.out
      have hln := HLN.out
      obtain ⟨b1, o1, hA1, _, c0, c1⟩ := HN1.out k hlt
      obtain ⟨b2, o2, hA2, _, x0, x1⟩ := HN2.out k hlt2
      have c0 := qcell QQ.out c0
      have c1 := qcell QQ.out c1
      have x0 := qcell QQ.out x0
      have x1 := qcell QQ.out x1
      rw [hA1] at y7 ⊢
      rw [hA2] at z7 ⊢
      have d0 : decide (k < r.N.length) = true := dec_t hlt
      have i0 : (0 : Int) ≤ (k : Int) := by omega
      have i1 : (k : Int) < (r.N.length : Int) := by omega
      have i2 : (k : Int) < (s.N.length : Int) := by omega
      have hw1 : IntKind.i64.wrap ((k : Int) + 1) = (k : Int) + 1 := IntWalk.i64_in _ ⟨by omega, by omega⟩
      have HK := Lib.hid (And.intro hk hlt)
      by_cases he : nthN r.N k = nthN s.N k
      · have HP2 := Lib.hid (show ∀ j, j < k + 1 → nthN r.N j = nthN s.N j from fun j hj => by
          by_cases ej : j = k
          · subst ej; exact he
          · exact HP.out j (by omega))
        rw [← he] at x0 x1
        generalize nthN r.N k = q at c0 c1 x0 x1
        have ht : eqN2 q.1 q.2 q.1 q.2 = true := dec_t rfl
        have heq := fun W => eq_nth q.1 q.2 q.1 q.2 W
        simp only [ht] at heq
        clear he hlt2 hnl hln hA1 hA2 ht
        go_wp2
        go_quiet (fail)
        go_wp2
        go_roundw
        case rel => exact ⟨k + 1, by have := HK.out; omega, by go_num, HP2, QQ.out.trans (Quiet.of _ _)⟩
        case measure =>
          have := HK.out
          simp [intOf]; omega
      · have HF := Lib.hid (show res = false by rw [HE.out, dec_n (show ¬ r.N = s.N from fun q => he (by rw [q]))]; rfl)
        have ht : eqN2 (nthN r.N k).1 (nthN r.N k).2 (nthN s.N k).1 (nthN s.N k).2 = false := dec_n he
        generalize nthN r.N k = q at c0 c1 ht
        generalize nthN s.N k = p at x0 x1 ht
        have heq := fun W => eq_nth q.1 q.2 p.1 p.2 W
        simp only [ht] at heq
        clear he hlt2 hnl hln hA1 hA2 HE ht
        go_wp2
        go_quiet (fail)
        go_wp2
        go_ret
        exact ⟨by rw [HF.out]; rfl, HB0.out.trans ((qbelow32 (QQ.out.trans (Quiet.of _ _))).mono HB0.out.size)⟩
    · obtain rfl : k = r.N.length := by omega
      have d0 : decide (r.N.length < r.N.length) = false := dec_n (by omega)
      have HF := Lib.hid (show decide (r.N = s.N) = true from dec_t (nths_ext HLN.out HP.out))
      clear hlt
      rw [HF.out] at HE
      have y0 := qcell QQ.out y0
      have z0 := qcell QQ.out z0
      have y1 := qcell QQ.out y1
      have z1 := qcell QQ.out z1
      have y2 := qcell QQ.out y2
      have z2 := qcell QQ.out z2
      have y3 := qcell QQ.out y3
      have z3 := qcell QQ.out z3
      have y4 := qcell QQ.out y4
      have z4 := qcell QQ.out z4
      have hS0 : SS2 W0 w.heap.size (w.heap.size + 1) r s wr := by obtain ⟨n, hn⟩ := QQ.out; subst hn; exact ⟨below_draws _ _ n, HG1.out, HG2.out⟩
      have HBF := Lib.hid (HB0.out.trans ((qbelow32 QQ.out).mono HB0.out.size))
      go_upto_region 10 with fail
      cases q0
      case false =>
        go_wp2_with fail
        go_ret
        exact ⟨by rw [HE.out]; simp, HBF.out⟩
      cases q1
      case false =>
        go_wp2_with fail
        go_ret
        exact ⟨by rw [HE.out]; simp, HBF.out⟩
      cases q2
      case false =>
        go_wp2_with fail
        go_ret
        exact ⟨by rw [HE.out]; simp, HBF.out⟩
      cases q3
      case false =>
        go_wp2_with fail
        go_ret
        exact ⟨by rw [HE.out]; simp, HBF.out⟩
      cases q4
      case false =>
        go_wp2_with fail
        go_ret
        exact ⟨by rw [HE.out]; simp, HBF.out⟩
      go_wp2_with fail
      refine (KS0.out _ hS0).mono ?_
      rintro e v0 ⟨rfl, hb0⟩
      have hS1 := hS0.to hb0
      have HBF := Lib.hid (HBF.out.trans (hb0.mono HBF.out.size))
      clear hb0
      cases d0x
      case false =>
        go_wp2_with fail
        go_ret
        exact ⟨by rw [HE.out]; simp, HBF.out⟩
      go_wp2_with fail
      refine (KS1.out _ hS1).mono ?_
      rintro e v1 ⟨rfl, hb1⟩
      have hS2 := hS1.to hb1
      have HBF := Lib.hid (HBF.out.trans (hb1.mono HBF.out.size))
      clear hb1
      cases d1x
      case false =>
        go_wp2_with fail
        go_ret
        exact ⟨by rw [HE.out]; simp, HBF.out⟩
      go_wp2_with fail
      refine (KS2.out _ hS2).mono ?_
      rintro e v2 ⟨rfl, hb2⟩
      have hS3 := hS2.to hb2
      have HBF := Lib.hid (HBF.out.trans (hb2.mono HBF.out.size))
      clear hb2
      cases d2x
      case false =>
        go_wp2_with fail
        go_ret
        exact ⟨by rw [HE.out]; simp, HBF.out⟩
      go_wp2_with fail
      refine (KS3.out _ hS3).mono ?_
      rintro e v3 ⟨rfl, hb3⟩
      have hS4 := hS3.to hb3
      have HBF := Lib.hid (HBF.out.trans (hb3.mono HBF.out.size))
      clear hb3
      cases d3x
      case false =>
        go_wp2_with fail
        go_ret
        exact ⟨by rw [HE.out]; simp, HBF.out⟩
      go_wp2_with fail
      refine (KS4.out _ hS4).mono ?_
      rintro e v4 ⟨rfl, hb4⟩
      have hS5 := hS4.to hb4
      have HBF := Lib.hid (HBF.out.trans (hb4.mono HBF.out.size))
      clear hb4
      go_wp2_with fail
      go_ret
      exact ⟨by rw [HE.out]; cases d4x <;> rfl, HBF.out⟩

end Go.Proofs.YtigbbepgfofcoaaDoor
namespace Go.Proofs.YtigbbepgfofcoaaDoor
open Go.RowKit
set_option linter.unusedVariables false

set_option maxHeartbeats 6400000 in
set_option maxRecDepth 20000 in
theorem r32same_any (r s : Rl) (w : World) (hr : RlAt w r) (hs : RlAt w s) (hl : ∀ i, i < 5 → (r.Z i).length ≤ 1000000000) (hl2 : ∀ i, i < 5 → (s.Z i).length ≤ 1000000000) (hn : r.N.length ≤ 100000) (hn2 : s.N.length ≤ 100000) :
    Calls Tryd.prog 12 #[rlV r, rlV s] w fun e w' => e = .returned (.bool (sameB r s)) ∧ Below w.heap.size w w' := by
  have HG1 := Lib.hid (blk_more (blk_new w (.cells (rlC r) 25)) (.cells (rlC s) 25))
  have HG2 := Lib.hid (show ((w.alloc (.cells (rlC r) 25)).alloc (.cells (rlC s) 25)).heap[w.heap.size + 1]? = some (.cells (rlC s) 25 (0, 0)) from by
    have q := blk_new (w.alloc (.cells (rlC r) 25)) (.cells (rlC s) 25)
    rw [World.size_alloc] at q
    exact q)
  have HB0 := Lib.hid (show Below w.heap.size w ((w.alloc (.cells (rlC r) 25)).alloc (.cells (rlC s) 25)) from ((Below.refl _ _).alloc (Nat.le_refl _) _).alloc (by rw [World.size_alloc]; omega) _)
  obtain ⟨W0, hW0⟩ : ∃ W0, (w.alloc (.cells (rlC r) 25)).alloc (.cells (rlC s) 25) = W0 := ⟨_, rfl⟩
  rw [hW0] at HG1 HG2 HB0
  have HR := Lib.hid (hr.below HB0.out)
  have HS := Lib.hid (hs.below HB0.out)
  have HE := Lib.hid (show sameB r s = (decide (r.N = s.N) && (decide (r.start = s.start) && (decide (r.freq = s.freq) && (decide (r.itv = s.itv) && (decide (r.cnt = s.cnt) && (decide (r.unt = s.unt) && (decide (r.Z 0 = s.Z 0) && (decide (r.Z 1 = s.Z 1) && (decide (r.Z 2 = s.Z 2) && (decide (r.Z 3 = s.Z 3) && decide (r.Z 4 = s.Z 4))))))))))) from rfl)
  generalize sameB r s = res at HE ⊢
  obtain ⟨q0, hq0⟩ : ∃ b, decide (r.start = s.start) = b := ⟨_, rfl⟩
  rw [hq0] at HE
  have e0 : (r.start == s.start) = q0 := by rw [← hq0]; rfl
  have f0 : (r.start != s.start) = !q0 := by rw [← e0]; rfl
  clear hq0
  obtain ⟨q1, hq1⟩ : ∃ b, decide (r.freq = s.freq) = b := ⟨_, rfl⟩
  rw [hq1] at HE
  have e1 : (r.freq == s.freq) = q1 := by rw [← hq1]; rfl
  have f1 : (r.freq != s.freq) = !q1 := by rw [← e1]; rfl
  clear hq1
  obtain ⟨q2, hq2⟩ : ∃ b, decide (r.itv = s.itv) = b := ⟨_, rfl⟩
  rw [hq2] at HE
  have e2 : (r.itv == s.itv) = q2 := by rw [← hq2]; rfl
  have f2 : (r.itv != s.itv) = !q2 := by rw [← e2]; rfl
  clear hq2
  obtain ⟨q3, hq3⟩ : ∃ b, decide (r.cnt = s.cnt) = b := ⟨_, rfl⟩
  rw [hq3] at HE
  have e3 : (r.cnt == s.cnt) = q3 := by rw [← hq3]; rfl
  have f3 : (r.cnt != s.cnt) = !q3 := by rw [← e3]; rfl
  clear hq3
  obtain ⟨q4, hq4⟩ : ∃ b, decide (r.unt = s.unt) = b := ⟨_, rfl⟩
  rw [hq4] at HE
  have e4 : (r.unt == s.unt) = q4 := by rw [← hq4]; rfl
  have f4 : (r.unt != s.unt) = !q4 := by rw [← e4]; rfl
  clear hq4
  have KS0 := Lib.hid (fun W (h : Below W0.heap.size W0 W) => intsD_any (r.A 0) (s.A 0) (r.c 0) (s.c 0) _ _ W (hl 0 (by decide)) (hl2 0 (by decide)) ((HR.out.below h).1 0 (by decide)) ((HS.out.below h).1 0 (by decide)))
  have KS1 := Lib.hid (fun W (h : Below W0.heap.size W0 W) => intsD_any (r.A 1) (s.A 1) (r.c 1) (s.c 1) _ _ W (hl 1 (by decide)) (hl2 1 (by decide)) ((HR.out.below h).1 1 (by decide)) ((HS.out.below h).1 1 (by decide)))
  have KS2 := Lib.hid (fun W (h : Below W0.heap.size W0 W) => intsD_any (r.A 2) (s.A 2) (r.c 2) (s.c 2) _ _ W (hl 2 (by decide)) (hl2 2 (by decide)) ((HR.out.below h).1 2 (by decide)) ((HS.out.below h).1 2 (by decide)))
  have KS3 := Lib.hid (fun W (h : Below W0.heap.size W0 W) => intsD_any (r.A 3) (s.A 3) (r.c 3) (s.c 3) _ _ W (hl 3 (by decide)) (hl2 3 (by decide)) ((HR.out.below h).1 3 (by decide)) ((HS.out.below h).1 3 (by decide)))
  have KS4 := Lib.hid (fun W (h : Below W0.heap.size W0 W) => intsD_any (r.A 4) (s.A 4) (r.c 4) (s.c 4) _ _ W (hl 4 (by decide)) (hl2 4 (by decide)) ((HR.out.below h).1 4 (by decide)) ((HS.out.below h).1 4 (by decide)))
  obtain ⟨d0x, hd0⟩ : ∃ b, decide (r.Z 0 = s.Z 0) = b := ⟨_, rfl⟩
  rw [hd0] at HE KS0
  clear hd0
  obtain ⟨d1x, hd1⟩ : ∃ b, decide (r.Z 1 = s.Z 1) = b := ⟨_, rfl⟩
  rw [hd1] at HE KS1
  clear hd1
  obtain ⟨d2x, hd2⟩ : ∃ b, decide (r.Z 2 = s.Z 2) = b := ⟨_, rfl⟩
  rw [hd2] at HE KS2
  clear hd2
  obtain ⟨d3x, hd3⟩ : ∃ b, decide (r.Z 3 = s.Z 3) = b := ⟨_, rfl⟩
  rw [hd3] at HE KS3
  clear hd3
  obtain ⟨d4x, hd4⟩ : ∃ b, decide (r.Z 4 = s.Z 4) = b := ⟨_, rfl⟩
  rw [hd4] at HE KS4
  clear hd4
  have y0 : W0.cell? ⟨w.heap.size, 0, none⟩ = some (.int .i64 r.start) := blk_cell HG1.out 0
  have y1 : W0.cell? ⟨w.heap.size, 1, none⟩ = some (.int .i64 r.freq) := blk_cell HG1.out 1
  have y2 : W0.cell? ⟨w.heap.size, 2, none⟩ = some (.int .i64 r.itv) := blk_cell HG1.out 2
  have y3 : W0.cell? ⟨w.heap.size, 3, none⟩ = some (.int .i64 r.cnt) := blk_cell HG1.out 3
  have y4 : W0.cell? ⟨w.heap.size, 4, none⟩ = some (.int .i64 r.unt) := blk_cell HG1.out 4
  have y5 : W0.cell? ⟨w.heap.size, 5, none⟩ = some (.slice (r.A 0) (r.Z 0).length (r.c 0)) := blk_cell HG1.out 5
  have y6 : W0.cell? ⟨w.heap.size, 6, none⟩ = some (.slice (r.A 1) (r.Z 1).length (r.c 1)) := blk_cell HG1.out 6
  have y7 : W0.cell? ⟨w.heap.size, 7, none⟩ = some (.slice r.AW r.N.length r.cw) := blk_cell HG1.out 7
  have y8 : W0.cell? ⟨w.heap.size, 8, none⟩ = some (.slice (r.A 2) (r.Z 2).length (r.c 2)) := blk_cell HG1.out 8
  have y9 : W0.cell? ⟨w.heap.size, 9, none⟩ = some (.slice (r.A 3) (r.Z 3).length (r.c 3)) := blk_cell HG1.out 9
  have y10 : W0.cell? ⟨w.heap.size, 10, none⟩ = some (.slice (r.A 4) (r.Z 4).length (r.c 4)) := blk_cell HG1.out 10
  have z0 : W0.cell? ⟨w.heap.size + 1, 0, none⟩ = some (.int .i64 s.start) := blk_cell HG2.out 0
  have z1 : W0.cell? ⟨w.heap.size + 1, 1, none⟩ = some (.int .i64 s.freq) := blk_cell HG2.out 1
  have z2 : W0.cell? ⟨w.heap.size + 1, 2, none⟩ = some (.int .i64 s.itv) := blk_cell HG2.out 2
  have z3 : W0.cell? ⟨w.heap.size + 1, 3, none⟩ = some (.int .i64 s.cnt) := blk_cell HG2.out 3
  have z4 : W0.cell? ⟨w.heap.size + 1, 4, none⟩ = some (.int .i64 s.unt) := blk_cell HG2.out 4
  have z5 : W0.cell? ⟨w.heap.size + 1, 5, none⟩ = some (.slice (s.A 0) (s.Z 0).length (s.c 0)) := blk_cell HG2.out 5
  have z6 : W0.cell? ⟨w.heap.size + 1, 6, none⟩ = some (.slice (s.A 1) (s.Z 1).length (s.c 1)) := blk_cell HG2.out 6
  have z7 : W0.cell? ⟨w.heap.size + 1, 7, none⟩ = some (.slice s.AW s.N.length s.cw) := blk_cell HG2.out 7
  have z8 : W0.cell? ⟨w.heap.size + 1, 8, none⟩ = some (.slice (s.A 2) (s.Z 2).length (s.c 2)) := blk_cell HG2.out 8
  have z9 : W0.cell? ⟨w.heap.size + 1, 9, none⟩ = some (.slice (s.A 3) (s.Z 3).length (s.c 3)) := blk_cell HG2.out 9
  have z10 : W0.cell? ⟨w.heap.size + 1, 10, none⟩ = some (.slice (s.A 4) (s.Z 4).length (s.c 4)) := blk_cell HG2.out 10
  clear hl hl2
  have HW := Lib.hid hW0
  unfold rlV rlC
  unfold rlC at HW
  clear hr hs hW0
  go_enter Tryd.func12, Tryd.ntmps12
  go_upto_region 1 with fail
  rw [HW.out]
  clear HW
  cases q0
  case false =>
    go_wp2_with fail
    go_ret
    exact ⟨by rw [HE.out]; simp, HB0.out⟩
  cases q1
  case false =>
    go_wp2_with fail
    go_ret
    exact ⟨by rw [HE.out]; simp, HB0.out⟩
  cases q2
  case false =>
    go_wp2_with fail
    go_ret
    exact ⟨by rw [HE.out]; simp, HB0.out⟩
  cases q3
  case false =>
    go_wp2_with fail
    go_ret
    exact ⟨by rw [HE.out]; simp, HB0.out⟩
  cases q4
  case false =>
    go_wp2_with fail
    go_ret
    exact ⟨by rw [HE.out]; simp, HB0.out⟩
  by_cases hln : r.N.length = s.N.length
  case neg =>
    have d1 : (((r.N.length : Nat) : Int) != ((s.N.length : Nat) : Int)) = true := by rw [bne_iff_ne]; omega
    have d2 : (((r.N.length : Nat) : Int) == ((s.N.length : Nat) : Int)) = false := by rw [beq_eq_false_iff_ne]; omega
    have d3 : (r.N.length == s.N.length) = false := by rw [beq_eq_false_iff_ne]; exact hln
    have d4 : (r.N.length != s.N.length) = true := by rw [bne_iff_ne]; exact hln
    have HF := Lib.hid (show res = false by rw [HE.out, dec_n (show ¬ r.N = s.N from fun q => hln (congrArg List.length q))]; rfl)
    clear hln HE
    go_wp2_with fail
    go_ret
    exact ⟨by rw [HF.out]; rfl, HB0.out⟩
  have d1 : (((r.N.length : Nat) : Int) != ((s.N.length : Nat) : Int)) = false := by rw [bne_eq_false_iff_eq]; omega
  have d2 : (((r.N.length : Nat) : Int) == ((s.N.length : Nat) : Int)) = true := by rw [beq_iff_eq]; omega
  have d3 : (r.N.length == s.N.length) = true := by rw [beq_iff_eq]; exact hln
  have d4 : (r.N.length != s.N.length) = false := by rw [bne_eq_false_iff_eq]; exact hln
  have HLN := Lib.hid hln
  clear hln
  go_wp2_with fail
  have HNL := Lib.hid hn
  have HN1 := Lib.hid HR.out.2
  have HN2 := Lib.hid HS.out.2
  clear hn hn2
  have hgd := guard_nth
  clear d1 d2 d3 d4
  go_loopw [5] (fun i wr => ∃ k : Nat, k ≤ r.N.length ∧ i = .int .i64 k ∧ Hid (∀ j, j < k → nthN r.N j = nthN s.N j) ∧ Quiet W0 wr) (fun i _ => r.N.length - (intOf i).toNat)
  case atStart => exact ⟨0, Nat.zero_le _, rfl, Lib.hid (fun j hj => by omega), Quiet.refl _⟩
  case round =>
    obtain ⟨k, hk, rfl, HP, hq⟩ := hrel
    have QQ := Lib.hid hq
    clear hq
    have y7 := qcell QQ.out y7
    have z7 := qcell QQ.out z7
    by_cases hlt : k < r.N.length
    · have hlt2 : k < s.N.length := by rw [← HLN.out]; exact hlt
      have hnl := HNL.out
      have hln := HLN.out
      obtain ⟨b1, o1, hA1, _, c0, c1⟩ := HN1.out k hlt
      obtain ⟨b2, o2, hA2, _, x0, x1⟩ := HN2.out k hlt2
      have c0 := qcell QQ.out c0
      have c1 := qcell QQ.out c1
      have x0 := qcell QQ.out x0
      have x1 := qcell QQ.out x1
      rw [hA1] at y7 ⊢
      rw [hA2] at z7 ⊢
      have d0 : decide (k < r.N.length) = true := dec_t hlt
      have i0 : (0 : Int) ≤ (k : Int) := by omega
      have i1 : (k : Int) < (r.N.length : Int) := by omega
      have i2 : (k : Int) < (s.N.length : Int) := by omega
      have hw1 : IntKind.i64.wrap ((k : Int) + 1) = (k : Int) + 1 := IntWalk.i64_in _ ⟨by omega, by omega⟩
      have HK := Lib.hid (And.intro hk hlt)
      by_cases he : nthN r.N k = nthN s.N k
      · have HP2 := Lib.hid (show ∀ j, j < k + 1 → nthN r.N j = nthN s.N j from fun j hj => by
          by_cases ej : j = k
          · subst ej; exact he
          · exact HP.out j (by omega))
        rw [← he] at x0 x1
        generalize nthN r.N k = q at c0 c1 x0 x1
        have ht : eqN2 q.1 q.2 q.1 q.2 = true := dec_t rfl
        have heq := fun W => eq_nth q.1 q.2 q.1 q.2 W
        simp only [ht] at heq
        clear he hlt2 hnl hln hA1 hA2 ht
        go_wp2
        go_quiet (fail)
        go_wp2
        go_roundw
        case rel => exact ⟨k + 1, by have := HK.out; omega, by go_num, HP2, QQ.out.trans (Quiet.of _ _)⟩
        case measure =>
          have := HK.out
          simp [intOf]; omega
      · have HF := Lib.hid (show res = false by rw [HE.out, dec_n (show ¬ r.N = s.N from fun q => he (by rw [q]))]; rfl)
        have ht : eqN2 (nthN r.N k).1 (nthN r.N k).2 (nthN s.N k).1 (nthN s.N k).2 = false := dec_n he
        generalize nthN r.N k = q at c0 c1 ht
        generalize nthN s.N k = p at x0 x1 ht
        have heq := fun W => eq_nth q.1 q.2 p.1 p.2 W
        simp only [ht] at heq
        clear he hlt2 hnl hln hA1 hA2 HE ht
        go_wp2
        go_quiet (fail)
        go_wp2
        go_ret
        exact ⟨by rw [HF.out]; rfl, HB0.out.trans ((qbelow32 (QQ.out.trans (Quiet.of _ _))).mono HB0.out.size)⟩
    · obtain rfl : k = r.N.length := by omega
      have d0 : decide (r.N.length < r.N.length) = false := dec_n (by omega)
      have HF := Lib.hid (show decide (r.N = s.N) = true from dec_t (nths_ext HLN.out HP.out))
      clear hlt
      rw [HF.out] at HE
      have y5 := qcell QQ.out y5
      have z5 := qcell QQ.out z5
      have y6 := qcell QQ.out y6
      have z6 := qcell QQ.out z6
      have y8 := qcell QQ.out y8
      have z8 := qcell QQ.out z8
      have y9 := qcell QQ.out y9
      have z9 := qcell QQ.out z9
      have y10 := qcell QQ.out y10
      have z10 := qcell QQ.out z10
      have hS0 := qbelow32 QQ.out
      go_wp2_with fail
      refine (KS0.out _ hS0).mono ?_
      rintro e v0 ⟨rfl, hq0⟩
      have hS1 := hS0.trans ((qbelow32 hq0).mono hS0.size)
      have HBF0 := Lib.hid (HB0.out.trans (hS1.mono HB0.out.size))
      have y6 := qcell hq0 y6
      have z6 := qcell hq0 z6
      have y8 := qcell hq0 y8
      have z8 := qcell hq0 z8
      have y9 := qcell hq0 y9
      have z9 := qcell hq0 z9
      have y10 := qcell hq0 y10
      have z10 := qcell hq0 z10
      clear hq0
      cases d0x
      case false =>
        go_wp2_with fail
        go_ret
        exact ⟨by rw [HE.out]; simp, HBF0.out⟩
      go_wp2_with fail
      refine (KS1.out _ hS1).mono ?_
      rintro e v1 ⟨rfl, hq1⟩
      have hS2 := hS1.trans ((qbelow32 hq1).mono hS1.size)
      have HBF1 := Lib.hid (HB0.out.trans (hS2.mono HB0.out.size))
      have y8 := qcell hq1 y8
      have z8 := qcell hq1 z8
      have y9 := qcell hq1 y9
      have z9 := qcell hq1 z9
      have y10 := qcell hq1 y10
      have z10 := qcell hq1 z10
      clear hq1
      cases d1x
      case false =>
        go_wp2_with fail
        go_ret
        exact ⟨by rw [HE.out]; simp, HBF1.out⟩
      go_wp2_with fail
      refine (KS2.out _ hS2).mono ?_
      rintro e v2 ⟨rfl, hq2⟩
      have hS3 := hS2.trans ((qbelow32 hq2).mono hS2.size)
      have HBF2 := Lib.hid (HB0.out.trans (hS3.mono HB0.out.size))
      have y9 := qcell hq2 y9
      have z9 := qcell hq2 z9
      have y10 := qcell hq2 y10
      have z10 := qcell hq2 z10
      clear hq2
      cases d2x
      case false =>
        go_wp2_with fail
        go_ret
        exact ⟨by rw [HE.out]; simp, HBF2.out⟩
      go_wp2_with fail
      refine (KS3.out _ hS3).mono ?_
      rintro e v3 ⟨rfl, hq3⟩
      have hS4 := hS3.trans ((qbelow32 hq3).mono hS3.size)
      have HBF3 := Lib.hid (HB0.out.trans (hS4.mono HB0.out.size))
      have y10 := qcell hq3 y10
      have z10 := qcell hq3 z10
      clear hq3
      cases d3x
      case false =>
        go_wp2_with fail
        go_ret
        exact ⟨by rw [HE.out]; simp, HBF3.out⟩
      go_wp2_with fail
      refine (KS4.out _ hS4).mono ?_
      rintro e v4 ⟨rfl, hq4⟩
      have hS5 := hS4.trans ((qbelow32 hq4).mono hS4.size)
      have HBF4 := Lib.hid (HB0.out.trans (hS5.mono HB0.out.size))
      clear hq4
      go_wp2_with fail
      go_ret
      exact ⟨by rw [HE.out]; cases d4x <;> rfl, HBF4.out⟩

end Go.Proofs.YtigbbepgfofcoaaDoor
namespace Go.Proofs.YtigbbepgfofcoaaDoor
open Go.RowKit Civ
set_option linter.unusedVariables false

theorem pln_step (l : List N2) (k : Nat) (h : k < l.length) : plnB (l.take (k + 1)) = (plnB (l.take k) && decide ((nthN l k).1 = 0)) := by
  have e : l.take (k + 1) = l.take k ++ [nthN l k] := by
    unfold nthN
    rw [List.take_add_one, List.getElem?_eq_getElem h]; rfl
  unfold plnB
  rw [e, List.any_append]
  simp
theorem len_sum32 (R : Rl) (hz : ∀ j, j < 5 → (R.Z j).length * 8 ≤ reachBytes) (hn : R.N.length * 16 ≤ reachBytes) : lenR R ≤ 9223372036854775807 := by
  have z0 := hz 0 (by decide)
  have z1 := hz 1 (by decide)
  have z2 := hz 2 (by decide)
  have z3 := hz 3 (by decide)
  have z4 := hz 4 (by decide)
  unfold reachBytes at *
  unfold lenR
  omega
theorem len_each (R : Rl) (h : ¬ 600 < lenR R) : (∀ i, i < 5 → (R.Z i).length ≤ 1000000000) ∧ R.N.length ≤ 100000 := by
  unfold lenR at h
  refine ⟨fun i hi => ?_, by omega⟩
  obtain rfl | rfl | rfl | rfl | rfl : i = 0 ∨ i = 1 ∨ i = 2 ∨ i = 3 ∨ i = 4 := by omega
  all_goals omega
set_option maxHeartbeats 6400000 in
set_option maxRecDepth 20000 in
theorem ruleChecks_g (r s : Rl) (w : World) (hr : RlAt w r) (hir : RlIn r) (hs : RlAt w s) (his : RlIn s) (hsr : lenR r ≤ 9223372036854775807) (hss : lenR s ≤ 9223372036854775807) (hT : TabUn w) (hg : 600 < lenR r) :
    Calls Tryd.prog 3 #[rlV r, rlV s] w fun e w' => e = .returned (.bool true) ∧ Below w.heap.size w w' := by
  have HG1 := Lib.hid (blk_more (blk_new w (.cells (rlC r) 25)) (.cells (rlC s) 25))
  have HG2 := Lib.hid (show ((w.alloc (.cells (rlC r) 25)).alloc (.cells (rlC s) 25)).heap[w.heap.size + 1]? = some (.cells (rlC s) 25 (0, 0)) from by
    have q := blk_new (w.alloc (.cells (rlC r) 25)) (.cells (rlC s) 25)
    rw [World.size_alloc] at q
    exact q)
  have HB0 := Lib.hid (show Below w.heap.size w ((w.alloc (.cells (rlC r) 25)).alloc (.cells (rlC s) 25)) from ((Below.refl _ _).alloc (Nat.le_refl _) _).alloc (by rw [World.size_alloc]; omega) _)
  obtain ⟨W0, hW0⟩ : ∃ W0, (w.alloc (.cells (rlC r) 25)).alloc (.cells (rlC s) 25) = W0 := ⟨_, rfl⟩
  rw [hW0] at HG1 HG2 HB0
  have HR := Lib.hid (hr.below HB0.out)
  have HS := Lib.hid (hs.below HB0.out)
  have HT := Lib.hid (hT.bel HB0.out)
  have KL := Lib.hid (fun W h => lives32_any W h)
  have KG1 := Lib.hid (fun W => great32_any r W hsr)
  have KG2 := Lib.hid (fun W => great32_any s W hss)
  rw [dec_t hg] at KG1
  clear hg
  have y0 : W0.cell? ⟨w.heap.size, 0, none⟩ = some (.int .i64 r.start) := blk_cell HG1.out 0
  have y1 : W0.cell? ⟨w.heap.size, 1, none⟩ = some (.int .i64 r.freq) := blk_cell HG1.out 1
  have y2 : W0.cell? ⟨w.heap.size, 2, none⟩ = some (.int .i64 r.itv) := blk_cell HG1.out 2
  have y3 : W0.cell? ⟨w.heap.size, 3, none⟩ = some (.int .i64 r.cnt) := blk_cell HG1.out 3
  have y4 : W0.cell? ⟨w.heap.size, 4, none⟩ = some (.int .i64 r.unt) := blk_cell HG1.out 4
  have y5 : W0.cell? ⟨w.heap.size, 5, none⟩ = some (.slice (r.A 0) (r.Z 0).length (r.c 0)) := blk_cell HG1.out 5
  have y6 : W0.cell? ⟨w.heap.size, 6, none⟩ = some (.slice (r.A 1) (r.Z 1).length (r.c 1)) := blk_cell HG1.out 6
  have y7 : W0.cell? ⟨w.heap.size, 7, none⟩ = some (.slice r.AW r.N.length r.cw) := blk_cell HG1.out 7
  have y8 : W0.cell? ⟨w.heap.size, 8, none⟩ = some (.slice (r.A 2) (r.Z 2).length (r.c 2)) := blk_cell HG1.out 8
  have y9 : W0.cell? ⟨w.heap.size, 9, none⟩ = some (.slice (r.A 3) (r.Z 3).length (r.c 3)) := blk_cell HG1.out 9
  have y10 : W0.cell? ⟨w.heap.size, 10, none⟩ = some (.slice (r.A 4) (r.Z 4).length (r.c 4)) := blk_cell HG1.out 10
  have HW := Lib.hid hW0
  have hQ0 : SS2 W0 w.heap.size (w.heap.size + 1) r s W0 := ⟨Below.refl _ _, HG1.out, HG2.out⟩
  unfold rlV rlC at KG1 KG2 ⊢
  unfold rlC at HW
  clear hr hs hT hW0 hsr hss hir his
  go_enter Tryd.func3, Tryd.ntmps3
  go_upto_region 1 with fail
  rw [HW.out]
  clear HW
  go_wp2_with fail
  refine (KG1.out _).mono ?_
  rintro e w1 ⟨rfl, hb⟩
  have hQ1 := hQ0.to hb
  clear hb hQ0 y0 y1 y2 y3 y4 y5 y6 y7 y8 y9 y10
  go_wp2_with fail
  refine (KL.out _ (HT.out.bel hQ1.1)).mono ?_
  rintro e w9 ⟨rfl, hb9⟩
  have HBE := Lib.hid (HB0.out.trans ((hQ1.1.trans (hb9.mono hQ1.1.size)).mono HB0.out.size))
  clear hb9 hQ1
  go_wp2
  go_ret
  exact ⟨rfl, HBE.out⟩
set_option maxHeartbeats 6400000 in
set_option maxRecDepth 20000 in
theorem ruleChecks_h (r s : Rl) (w : World) (hr : RlAt w r) (hir : RlIn r) (hs : RlAt w s) (his : RlIn s) (hsr : lenR r ≤ 9223372036854775807) (hss : lenR s ≤ 9223372036854775807) (hT : TabUn w) (hg : ¬ 600 < lenR r) (hh : 600 < lenR s) :
    Calls Tryd.prog 3 #[rlV r, rlV s] w fun e w' => e = .returned (.bool true) ∧ Below w.heap.size w w' := by
  have HG1 := Lib.hid (blk_more (blk_new w (.cells (rlC r) 25)) (.cells (rlC s) 25))
  have HG2 := Lib.hid (show ((w.alloc (.cells (rlC r) 25)).alloc (.cells (rlC s) 25)).heap[w.heap.size + 1]? = some (.cells (rlC s) 25 (0, 0)) from by
    have q := blk_new (w.alloc (.cells (rlC r) 25)) (.cells (rlC s) 25)
    rw [World.size_alloc] at q
    exact q)
  have HB0 := Lib.hid (show Below w.heap.size w ((w.alloc (.cells (rlC r) 25)).alloc (.cells (rlC s) 25)) from ((Below.refl _ _).alloc (Nat.le_refl _) _).alloc (by rw [World.size_alloc]; omega) _)
  obtain ⟨W0, hW0⟩ : ∃ W0, (w.alloc (.cells (rlC r) 25)).alloc (.cells (rlC s) 25) = W0 := ⟨_, rfl⟩
  rw [hW0] at HG1 HG2 HB0
  have HR := Lib.hid (hr.below HB0.out)
  have HS := Lib.hid (hs.below HB0.out)
  have HT := Lib.hid (hT.bel HB0.out)
  have KL := Lib.hid (fun W h => lives32_any W h)
  have KG1 := Lib.hid (fun W => great32_any r W hsr)
  have KG2 := Lib.hid (fun W => great32_any s W hss)
  rw [dec_n hg] at KG1
  rw [dec_t hh] at KG2
  clear hg hh
  have y0 : W0.cell? ⟨w.heap.size, 0, none⟩ = some (.int .i64 r.start) := blk_cell HG1.out 0
  have y1 : W0.cell? ⟨w.heap.size, 1, none⟩ = some (.int .i64 r.freq) := blk_cell HG1.out 1
  have y2 : W0.cell? ⟨w.heap.size, 2, none⟩ = some (.int .i64 r.itv) := blk_cell HG1.out 2
  have y3 : W0.cell? ⟨w.heap.size, 3, none⟩ = some (.int .i64 r.cnt) := blk_cell HG1.out 3
  have y4 : W0.cell? ⟨w.heap.size, 4, none⟩ = some (.int .i64 r.unt) := blk_cell HG1.out 4
  have y5 : W0.cell? ⟨w.heap.size, 5, none⟩ = some (.slice (r.A 0) (r.Z 0).length (r.c 0)) := blk_cell HG1.out 5
  have y6 : W0.cell? ⟨w.heap.size, 6, none⟩ = some (.slice (r.A 1) (r.Z 1).length (r.c 1)) := blk_cell HG1.out 6
  have y7 : W0.cell? ⟨w.heap.size, 7, none⟩ = some (.slice r.AW r.N.length r.cw) := blk_cell HG1.out 7
  have y8 : W0.cell? ⟨w.heap.size, 8, none⟩ = some (.slice (r.A 2) (r.Z 2).length (r.c 2)) := blk_cell HG1.out 8
  have y9 : W0.cell? ⟨w.heap.size, 9, none⟩ = some (.slice (r.A 3) (r.Z 3).length (r.c 3)) := blk_cell HG1.out 9
  have y10 : W0.cell? ⟨w.heap.size, 10, none⟩ = some (.slice (r.A 4) (r.Z 4).length (r.c 4)) := blk_cell HG1.out 10
  have HW := Lib.hid hW0
  have hQ0 : SS2 W0 w.heap.size (w.heap.size + 1) r s W0 := ⟨Below.refl _ _, HG1.out, HG2.out⟩
  unfold rlV rlC at KG1 KG2 ⊢
  unfold rlC at HW
  clear hr hs hT hW0 hsr hss hir his
  go_enter Tryd.func3, Tryd.ntmps3
  go_upto_region 1 with fail
  rw [HW.out]
  clear HW
  go_wp2_with fail
  refine (KG1.out _).mono ?_
  rintro e w1 ⟨rfl, hb⟩
  have hQ1 := hQ0.to hb
  clear hb hQ0 y0 y1 y2 y3 y4 y5 y6 y7 y8 y9 y10
  have z0 : w1.cell? ⟨w.heap.size + 1, 0, none⟩ = some (.int .i64 s.start) := blk_cell hQ1.2.2 0
  have z1 : w1.cell? ⟨w.heap.size + 1, 1, none⟩ = some (.int .i64 s.freq) := blk_cell hQ1.2.2 1
  have z2 : w1.cell? ⟨w.heap.size + 1, 2, none⟩ = some (.int .i64 s.itv) := blk_cell hQ1.2.2 2
  have z3 : w1.cell? ⟨w.heap.size + 1, 3, none⟩ = some (.int .i64 s.cnt) := blk_cell hQ1.2.2 3
  have z4 : w1.cell? ⟨w.heap.size + 1, 4, none⟩ = some (.int .i64 s.unt) := blk_cell hQ1.2.2 4
  have z5 : w1.cell? ⟨w.heap.size + 1, 5, none⟩ = some (.slice (s.A 0) (s.Z 0).length (s.c 0)) := blk_cell hQ1.2.2 5
  have z6 : w1.cell? ⟨w.heap.size + 1, 6, none⟩ = some (.slice (s.A 1) (s.Z 1).length (s.c 1)) := blk_cell hQ1.2.2 6
  have z7 : w1.cell? ⟨w.heap.size + 1, 7, none⟩ = some (.slice s.AW s.N.length s.cw) := blk_cell hQ1.2.2 7
  have z8 : w1.cell? ⟨w.heap.size + 1, 8, none⟩ = some (.slice (s.A 2) (s.Z 2).length (s.c 2)) := blk_cell hQ1.2.2 8
  have z9 : w1.cell? ⟨w.heap.size + 1, 9, none⟩ = some (.slice (s.A 3) (s.Z 3).length (s.c 3)) := blk_cell hQ1.2.2 9
  have z10 : w1.cell? ⟨w.heap.size + 1, 10, none⟩ = some (.slice (s.A 4) (s.Z 4).length (s.c 4)) := blk_cell hQ1.2.2 10
  go_wp2_with fail
  refine (KG2.out _).mono ?_
  rintro e w2 ⟨rfl, hb⟩
  have hQ2 := hQ1.to hb
  clear hb hQ1 z0 z1 z2 z3 z4 z5 z6 z7 z8 z9 z10
  go_wp2_with fail
  refine (KL.out _ (HT.out.bel hQ2.1)).mono ?_
  rintro e w9 ⟨rfl, hb9⟩
  have HBE := Lib.hid (HB0.out.trans ((hQ2.1.trans (hb9.mono hQ2.1.size)).mono HB0.out.size))
  clear hb9 hQ2
  go_wp2
  go_ret
  exact ⟨rfl, HBE.out⟩
set_option maxHeartbeats 6400000 in
set_option maxRecDepth 20000 in
theorem ruleChecks_y (r s : Rl) (w : World) (hr : RlAt w r) (hir : RlIn r) (hs : RlAt w s) (his : RlIn s) (hsr : lenR r ≤ 9223372036854775807) (hss : lenR s ≤ 9223372036854775807) (hT : TabUn w) (hg : ¬ 600 < lenR r) (hh : ¬ 600 < lenR s) :
    Calls Tryd.prog 3 #[rlV r, rlV s] w fun e w' => e = .returned (.bool true) ∧ Below w.heap.size w w' := by
  have HG1 := Lib.hid (blk_more (blk_new w (.cells (rlC r) 25)) (.cells (rlC s) 25))
  have HG2 := Lib.hid (show ((w.alloc (.cells (rlC r) 25)).alloc (.cells (rlC s) 25)).heap[w.heap.size + 1]? = some (.cells (rlC s) 25 (0, 0)) from by
    have q := blk_new (w.alloc (.cells (rlC r) 25)) (.cells (rlC s) 25)
    rw [World.size_alloc] at q
    exact q)
  have HB0 := Lib.hid (show Below w.heap.size w ((w.alloc (.cells (rlC r) 25)).alloc (.cells (rlC s) 25)) from ((Below.refl _ _).alloc (Nat.le_refl _) _).alloc (by rw [World.size_alloc]; omega) _)
  obtain ⟨W0, hW0⟩ : ∃ W0, (w.alloc (.cells (rlC r) 25)).alloc (.cells (rlC s) 25) = W0 := ⟨_, rfl⟩
  rw [hW0] at HG1 HG2 HB0
  have HR := Lib.hid (hr.below HB0.out)
  have HS := Lib.hid (hs.below HB0.out)
  have HT := Lib.hid (hT.bel HB0.out)
  have KL := Lib.hid (fun W h => lives32_any W h)
  have KG1 := Lib.hid (fun W => great32_any r W hsr)
  have KG2 := Lib.hid (fun W => great32_any s W hss)
  rw [dec_n hg] at KG1
  rw [dec_n hh] at KG2
  obtain ⟨lr, nr⟩ := len_each r hg
  obtain ⟨ls, ns⟩ := len_each s hh
  have KC := Lib.hid (fun W (h : Below W0.heap.size W0 W) => check32_any r W (HR.out.below h) hir nr (HT.out.bel h))
  have KD := Lib.hid (fun W (h : Below W0.heap.size W0 W) => rcheck32_any r W (HR.out.below h) hir nr)
  have KP := Lib.hid (fun W (h : Below W0.heap.size W0 W) => plain_any r W (HR.out.below h) hir)
  have KS := Lib.hid (fun W (h : Below W0.heap.size W0 W) => rsame_any r s W (HR.out.below h) (HS.out.below h) lr ls nr ns)
  have KT := Lib.hid (fun W (h : Below W0.heap.size W0 W) => r32same_any r s W (HR.out.below h) (HS.out.below h) lr ls nr ns)
  have KU0 := fun W (h : Below W0.heap.size W0 W) => rsame_any r r W (HR.out.below h) (HR.out.below h) lr lr nr nr
  simp only [sameB_self] at KU0
  have KU := Lib.hid KU0
  have HST := Lib.hid (fun k h => pln_step r.N k h)
  have HPA := Lib.hid (show plnB (r.N.take r.N.length) = plnB r.N by rw [List.take_length])
  have HP0 := Lib.hid (show plnB (r.N.take 0) = true from rfl)
  have HNR := Lib.hid nr
  have HN := Lib.hid HR.out.2
  obtain ⟨pl, hpl⟩ : ∃ pl, plnB r.N = pl := ⟨_, rfl⟩
  rw [hpl] at KP HPA
  generalize chkE r = ec at KC KD
  generalize sameB r s = sb at KS KT
  have hce : (ec == ec) = true := by simp
  have hpp : (pl == pl) = true := by simp
  have hsb : (sb == sb) = true := by simp
  clear hg hh lr nr ls ns KU0 hpl
  have y0 : W0.cell? ⟨w.heap.size, 0, none⟩ = some (.int .i64 r.start) := blk_cell HG1.out 0
  have y1 : W0.cell? ⟨w.heap.size, 1, none⟩ = some (.int .i64 r.freq) := blk_cell HG1.out 1
  have y2 : W0.cell? ⟨w.heap.size, 2, none⟩ = some (.int .i64 r.itv) := blk_cell HG1.out 2
  have y3 : W0.cell? ⟨w.heap.size, 3, none⟩ = some (.int .i64 r.cnt) := blk_cell HG1.out 3
  have y4 : W0.cell? ⟨w.heap.size, 4, none⟩ = some (.int .i64 r.unt) := blk_cell HG1.out 4
  have y5 : W0.cell? ⟨w.heap.size, 5, none⟩ = some (.slice (r.A 0) (r.Z 0).length (r.c 0)) := blk_cell HG1.out 5
  have y6 : W0.cell? ⟨w.heap.size, 6, none⟩ = some (.slice (r.A 1) (r.Z 1).length (r.c 1)) := blk_cell HG1.out 6
  have y7 : W0.cell? ⟨w.heap.size, 7, none⟩ = some (.slice r.AW r.N.length r.cw) := blk_cell HG1.out 7
  have y8 : W0.cell? ⟨w.heap.size, 8, none⟩ = some (.slice (r.A 2) (r.Z 2).length (r.c 2)) := blk_cell HG1.out 8
  have y9 : W0.cell? ⟨w.heap.size, 9, none⟩ = some (.slice (r.A 3) (r.Z 3).length (r.c 3)) := blk_cell HG1.out 9
  have y10 : W0.cell? ⟨w.heap.size, 10, none⟩ = some (.slice (r.A 4) (r.Z 4).length (r.c 4)) := blk_cell HG1.out 10
  have HW := Lib.hid hW0
  have hQ0 : SS2 W0 w.heap.size (w.heap.size + 1) r s W0 := ⟨Below.refl _ _, HG1.out, HG2.out⟩
  unfold rlV rlC at KG1 KG2 ⊢
  unfold rlC at HW
  clear hr hs hT hW0 hsr hss hir his
  go_enter Tryd.func3, Tryd.ntmps3
  go_upto_region 1 with fail
  rw [HW.out]
  clear HW
  go_wp2_with fail
  refine (KG1.out _).mono ?_
  rintro e w1 ⟨rfl, hb⟩
  have hQ1 := hQ0.to hb
  clear hb hQ0 y0 y1 y2 y3 y4 y5 y6 y7 y8 y9 y10
  have z0 : w1.cell? ⟨w.heap.size + 1, 0, none⟩ = some (.int .i64 s.start) := blk_cell hQ1.2.2 0
  have z1 : w1.cell? ⟨w.heap.size + 1, 1, none⟩ = some (.int .i64 s.freq) := blk_cell hQ1.2.2 1
  have z2 : w1.cell? ⟨w.heap.size + 1, 2, none⟩ = some (.int .i64 s.itv) := blk_cell hQ1.2.2 2
  have z3 : w1.cell? ⟨w.heap.size + 1, 3, none⟩ = some (.int .i64 s.cnt) := blk_cell hQ1.2.2 3
  have z4 : w1.cell? ⟨w.heap.size + 1, 4, none⟩ = some (.int .i64 s.unt) := blk_cell hQ1.2.2 4
  have z5 : w1.cell? ⟨w.heap.size + 1, 5, none⟩ = some (.slice (s.A 0) (s.Z 0).length (s.c 0)) := blk_cell hQ1.2.2 5
  have z6 : w1.cell? ⟨w.heap.size + 1, 6, none⟩ = some (.slice (s.A 1) (s.Z 1).length (s.c 1)) := blk_cell hQ1.2.2 6
  have z7 : w1.cell? ⟨w.heap.size + 1, 7, none⟩ = some (.slice s.AW s.N.length s.cw) := blk_cell hQ1.2.2 7
  have z8 : w1.cell? ⟨w.heap.size + 1, 8, none⟩ = some (.slice (s.A 2) (s.Z 2).length (s.c 2)) := blk_cell hQ1.2.2 8
  have z9 : w1.cell? ⟨w.heap.size + 1, 9, none⟩ = some (.slice (s.A 3) (s.Z 3).length (s.c 3)) := blk_cell hQ1.2.2 9
  have z10 : w1.cell? ⟨w.heap.size + 1, 10, none⟩ = some (.slice (s.A 4) (s.Z 4).length (s.c 4)) := blk_cell hQ1.2.2 10
  go_wp2_with fail
  refine (KG2.out _).mono ?_
  rintro e w2 ⟨rfl, hb⟩
  have hQ2 := hQ1.to hb
  clear hb hQ1 z0 z1 z2 z3 z4 z5 z6 z7 z8 z9 z10
  have y7 : w2.cell? ⟨w.heap.size, 7, none⟩ = some (.slice r.AW r.N.length r.cw) := blk_cell hQ2.2.1 7
  have HN2 := Lib.hid (HN.out.below hQ2.1)
  have HQ2 := Lib.hid hQ2
  clear hQ2 KG1 KG2
  go_wp2_with fail
  go_loopw [5, 6] (fun v i wr => ∃ k : Nat, k ≤ r.N.length ∧ i = .int .i64 k ∧ v = .bool (plnB (r.N.take k)) ∧ w2 = wr) (fun _ i _ => r.N.length - (intOf i).toNat)
  case atStart => exact ⟨0, Nat.zero_le _, rfl, by rw [HP0.out], rfl⟩
  case round =>
    obtain ⟨k, hk, rfl, rfl, rfl⟩ := hrel
    have hnr := HNR.out
    by_cases hlt : k < r.N.length
    · obtain ⟨b1, o1, hA1, _, c0, c1⟩ := HN2.out k hlt
      rw [hA1] at y7 ⊢
      have d0 : decide (k < r.N.length) = true := dec_t hlt
      have i0 : (0 : Int) ≤ (k : Int) := by omega
      have i1 : (k : Int) < (r.N.length : Int) := by omega
      have hw1 : IntKind.i64.wrap ((k : Int) + 1) = (k : Int) + 1 := IntWalk.i64_in _ ⟨by omega, by omega⟩
      have HK := Lib.hid (And.intro hk hlt)
      have hst := HST.out k hlt
      have HX := Lib.hid hst
      generalize plnB (r.N.take k) = pk at HX hst ⊢
      generalize nthN r.N k = q at c0 c1 HX hst
      have hq : (q.1 == 0) = decide (q.1 = 0) := by rw [Bool.eq_iff_iff]; simp
      obtain ⟨z, hz⟩ : ∃ z, decide (q.1 = 0) = z := ⟨_, rfl⟩
      rw [hz] at hq HX
      clear hk hlt hA1 hst hz hnr
      cases pk
      · go_wp2_with fail
        go_roundw
        case rel => exact ⟨k + 1, by have := HK.out; omega, by go_num, by rw [HX.out]; rfl, trivial⟩
        case measure =>
          have := HK.out
          simp [intOf]; omega
      · go_wp2_with fail
        go_roundw
        case rel => exact ⟨k + 1, by have := HK.out; omega, by go_num, by rw [HX.out]; rfl, trivial⟩
        case measure =>
          have := HK.out
          simp [intOf]; omega
    · obtain rfl : k = r.N.length := by omega
      have d0 : decide (r.N.length < r.N.length) = false := dec_n (by omega)
      rw [HPA.out]
      clear hk hlt hnr
      go_upto_region 8 with fail
      clear y7 d0
      have HS0 : SS2 W0 w.heap.size (w.heap.size + 1) r s w2.drew := ⟨HQ2.out.1.drew, HQ2.out.2.1, HQ2.out.2.2⟩
      refine wp_region_held_drew (S := SS2 W0 w.heap.size (w.heap.size + 1) r s) (by kernel_rfl) HS0 (fun hHeld => ?_)
      refine heldVal 0 rfl rfl (by kernel_rfl) (by kernel_rfl) (by kernel_rfl) (fun _ _ _ h => h) (by rfl) (fun w hSw => exec_loadRow hSw.2.1 rfl rfl Tryd.underlying25 rfl (by kernel_rfl)) (by assumption) ?_
      try simp only [Act.put, List.setIfInBounds_toArray, List.set_cons_zero, List.set_cons_succ]
      refine heldVal 2 rfl rfl (by kernel_rfl) (by kernel_rfl) (by kernel_rfl) (fun _ _ _ h => h) (by rfl) (fun w hSw => exec_loadRow hSw.2.1 rfl rfl Tryd.underlying25 rfl (by kernel_rfl)) (by assumption) ?_
      try simp only [Act.put, List.setIfInBounds_toArray, List.set_cons_zero, List.set_cons_succ]
      refine heldCall 1 rfl rfl (by kernel_rfl) (by rfl) (fun K hK => ?_)
      go_simp
      go_at_call 8
      refine (KC.out _ hHeld.1).mono ?_
      rintro e u1 ⟨rfl, hb⟩
      have hS1 := hHeld.to hb
      clear hb
      go_wp2_with fail
      refine hK.out _ _ ?hS (fun hHeld => ?_)
      case hS => (exact hS1)
      clear hK K
      try simp only [Act.put, List.setIfInBounds_toArray, List.set_cons_zero, List.set_cons_succ]
      refine heldCall 3 rfl rfl (by kernel_rfl) (by rfl) (fun K hK => ?_)
      go_simp
      go_at_call 9
      refine (KD.out _ hHeld.1).mono ?_
      rintro e u2 ⟨rfl, hb⟩
      have hS2 := hHeld.to hb
      clear hb
      go_wp2_with fail
      refine hK.out _ _ ?hS (fun hHeld => ?_)
      case hS => (exact hS2)
      clear hK K
      try simp only [Act.put, List.setIfInBounds_toArray, List.set_cons_zero, List.set_cons_succ]
      refine heldVal (v := ?v1) 4 rfl rfl (by kernel_rfl) (by kernel_rfl) (by kernel_rfl) (fun _ _ _ h => h) (by rfl) (fun w hSw => ?hy1) (by assumption) ?_
      case hy1 => ((try dsimp only at hSw); go_simp; (try with_reducible rfl))
      try simp only [Act.put, List.setIfInBounds_toArray, List.set_cons_zero, List.set_cons_succ]
      refine heldVal (v := ?v2) 5 rfl rfl (by kernel_rfl) (by kernel_rfl) (by kernel_rfl) (fun _ _ _ h => h) (by rfl) (fun w hSw => ?hy2) (by assumption) ?_
      case hy2 => ((try dsimp only at hSw); go_simp; (try with_reducible rfl))
      try simp only [Act.put, List.setIfInBounds_toArray, List.set_cons_zero, List.set_cons_succ]
      refine heldVal 6 rfl rfl (by kernel_rfl) (by kernel_rfl) (by kernel_rfl) (fun _ _ _ h => h) (by rfl) (fun w hSw => exec_loadRow hSw.2.1 rfl rfl Tryd.underlying25 rfl (by kernel_rfl)) (by assumption) ?_
      try simp only [Act.put, List.setIfInBounds_toArray, List.set_cons_zero, List.set_cons_succ]
      refine heldVal (v := ?v3) 8 rfl rfl (by kernel_rfl) (by kernel_rfl) (by kernel_rfl) (fun _ _ _ h => h) (by rfl) (fun w hSw => ?hy3) (by assumption) ?_
      case hy3 => ((try dsimp only at hSw); go_simp; (try with_reducible rfl))
      try simp only [Act.put, List.setIfInBounds_toArray, List.set_cons_zero, List.set_cons_succ]
      refine heldCall 7 rfl rfl (by kernel_rfl) (by rfl) (fun K hK => ?_)
      go_simp
      go_at_call 10
      refine (KP.out _ hHeld.1).mono ?_
      rintro e u3 ⟨rfl, hb⟩
      have hS3 := hHeld.to hb
      clear hb
      go_wp2_with fail
      refine hK.out _ _ ?hS (fun hHeld => ?_)
      case hS => (exact hS3)
      clear hK K
      try simp only [Act.put, List.setIfInBounds_toArray, List.set_cons_zero, List.set_cons_succ]
      refine heldVal (v := ?v4) 9 rfl rfl (by kernel_rfl) (by kernel_rfl) (by kernel_rfl) (fun _ _ _ h => h) (by rfl) (fun w hSw => ?hy4) (by assumption) ?_
      case hy4 => ((try dsimp only at hSw); go_simp; (try with_reducible rfl))
      try simp only [Act.put, List.setIfInBounds_toArray, List.set_cons_zero, List.set_cons_succ]
      refine heldVal (v := ?v5) 10 rfl rfl (by kernel_rfl) (by kernel_rfl) (by kernel_rfl) (fun _ _ _ h => h) (by rfl) (fun w hSw => ?hy5) (by assumption) ?_
      case hy5 => ((try dsimp only at hSw); go_simp; (try with_reducible rfl))
      try simp only [Act.put, List.setIfInBounds_toArray, List.set_cons_zero, List.set_cons_succ]
      refine heldVal (v := ?v6) 11 rfl rfl (by kernel_rfl) (by kernel_rfl) (by kernel_rfl) (fun _ _ _ h => h) (by rfl) (fun w hSw => ?hy6) (by assumption) ?_
      case hy6 => ((try dsimp only at hSw); go_simp; (try with_reducible rfl))
      try simp only [Act.put, List.setIfInBounds_toArray, List.set_cons_zero, List.set_cons_succ]
      refine heldVal 12 rfl rfl (by kernel_rfl) (by kernel_rfl) (by kernel_rfl) (fun _ _ _ h => h) (by rfl) (fun w hSw => exec_loadRow hSw.2.1 rfl rfl Tryd.underlying25 rfl (by kernel_rfl)) (by assumption) ?_
      try simp only [Act.put, List.setIfInBounds_toArray, List.set_cons_zero, List.set_cons_succ]
      refine heldVal 13 rfl rfl (by kernel_rfl) (by kernel_rfl) (by kernel_rfl) (fun _ _ _ h => h) (by rfl) (fun w hSw => exec_loadRow hSw.2.2 rfl rfl Tryd.underlying25 rfl (by kernel_rfl)) (by assumption) ?_
      try simp only [Act.put, List.setIfInBounds_toArray, List.set_cons_zero, List.set_cons_succ]
      refine heldVal 15 rfl rfl (by kernel_rfl) (by kernel_rfl) (by kernel_rfl) (fun _ _ _ h => h) (by rfl) (fun w hSw => exec_loadRow hSw.2.1 rfl rfl Tryd.underlying25 rfl (by kernel_rfl)) (by assumption) ?_
      try simp only [Act.put, List.setIfInBounds_toArray, List.set_cons_zero, List.set_cons_succ]
      refine heldVal 16 rfl rfl (by kernel_rfl) (by kernel_rfl) (by kernel_rfl) (fun _ _ _ h => h) (by rfl) (fun w hSw => exec_loadRow hSw.2.2 rfl rfl Tryd.underlying25 rfl (by kernel_rfl)) (by assumption) ?_
      try simp only [Act.put, List.setIfInBounds_toArray, List.set_cons_zero, List.set_cons_succ]
      refine heldCall 14 rfl rfl (by kernel_rfl) (by rfl) (fun K hK => ?_)
      go_simp
      go_at_call 11
      refine (KS.out _ hHeld.1).mono ?_
      rintro e u4 ⟨rfl, hb⟩
      have hS4 := hHeld.to hb
      clear hb
      go_wp2_with fail
      refine hK.out _ _ ?hS (fun hHeld => ?_)
      case hS => (exact hS4)
      clear hK K
      try simp only [Act.put, List.setIfInBounds_toArray, List.set_cons_zero, List.set_cons_succ]
      refine heldCall 17 rfl rfl (by kernel_rfl) (by rfl) (fun K hK => ?_)
      go_simp
      go_at_call 12
      refine (KT.out _ hHeld.1).mono ?_
      rintro e u5 ⟨rfl, hb⟩
      have hS5 := hHeld.to hb
      clear hb
      go_wp2_with fail
      refine hK.out _ _ ?hS (fun hHeld => ?_)
      case hS => (exact hS5)
      clear hK K
      try simp only [Act.put, List.setIfInBounds_toArray, List.set_cons_zero, List.set_cons_succ]
      refine heldVal (v := ?v7) 18 rfl rfl (by kernel_rfl) (by kernel_rfl) (by kernel_rfl) (fun _ _ _ h => h) (by rfl) (fun w hSw => ?hy7) (by assumption) ?_
      case hy7 => ((try dsimp only at hSw); go_simp; (try with_reducible rfl))
      try simp only [Act.put, List.setIfInBounds_toArray, List.set_cons_zero, List.set_cons_succ]
      refine heldVal (v := ?v8) 19 rfl rfl (by kernel_rfl) (by kernel_rfl) (by kernel_rfl) (fun _ _ _ h => h) (by rfl) (fun w hSw => ?hy8) (by assumption) ?_
      case hy8 => ((try dsimp only at hSw); go_simp; (try with_reducible rfl))
      try simp only [Act.put, List.setIfInBounds_toArray, List.set_cons_zero, List.set_cons_succ]
      refine heldVal (v := ?v9) 20 rfl rfl (by kernel_rfl) (by kernel_rfl) (by kernel_rfl) (fun _ _ _ h => h) (by rfl) (fun w hSw => ?hy9) (by assumption) ?_
      case hy9 => ((try dsimp only at hSw); go_simp; (try with_reducible rfl))
      try simp only [Act.put, List.setIfInBounds_toArray, List.set_cons_zero, List.set_cons_succ]
      refine heldVal 21 rfl rfl (by kernel_rfl) (by kernel_rfl) (by kernel_rfl) (fun _ _ _ h => h) (by rfl) (fun w hSw => exec_loadRow hSw.2.1 rfl rfl Tryd.underlying25 rfl (by kernel_rfl)) (by assumption) ?_
      try simp only [Act.put, List.setIfInBounds_toArray, List.set_cons_zero, List.set_cons_succ]
      refine heldVal 22 rfl rfl (by kernel_rfl) (by kernel_rfl) (by kernel_rfl) (fun _ _ _ h => h) (by rfl) (fun w hSw => exec_loadRow hSw.2.1 rfl rfl Tryd.underlying25 rfl (by kernel_rfl)) (by assumption) ?_
      try simp only [Act.put, List.setIfInBounds_toArray, List.set_cons_zero, List.set_cons_succ]
      refine heldCall 23 rfl rfl (by kernel_rfl) (by rfl) (fun K hK => ?_)
      go_simp
      go_at_call 11
      refine (KU.out _ hHeld.1).mono ?_
      rintro e u6 ⟨rfl, hb⟩
      have hS6 := hHeld.to hb
      clear hb
      go_wp2_with fail
      refine hK.out _ _ ?hS (fun hHeld => ?_)
      case hS => (exact hS6)
      clear hK K
      try simp only [Act.put, List.setIfInBounds_toArray, List.set_cons_zero, List.set_cons_succ]
      refine heldVal (v := ?v10) 24 rfl rfl (by kernel_rfl) (by kernel_rfl) (by kernel_rfl) (fun _ _ _ h => h) (by rfl) (fun w hSw => ?hy10) (by assumption) ?_
      case hy10 => ((try dsimp only at hSw); go_simp; (try with_reducible rfl))
      try simp only [Act.put, List.setIfInBounds_toArray, List.set_cons_zero, List.set_cons_succ]
      refine heldVal (v := ?v11) 25 rfl rfl (by kernel_rfl) (by kernel_rfl) (by kernel_rfl) (fun _ _ _ h => h) (by rfl) (fun w hSw => ?hy11) (by assumption) ?_
      case hy11 => ((try dsimp only at hSw); go_simp; (try with_reducible rfl))
      try simp only [Act.put, List.setIfInBounds_toArray, List.set_cons_zero, List.set_cons_succ]
      refine heldCall 26 rfl rfl (by kernel_rfl) (by rfl) (fun K hK => ?_)
      go_simp
      go_at_call 7
      refine (KL.out _ (HT.out.bel hHeld.1)).mono ?_
      rintro e u7 ⟨rfl, hb⟩
      have hS7 := hHeld.to hb
      clear hb
      go_wp2_with fail
      refine hK.out _ _ ?hS (fun hHeld => ?_)
      case hS => (exact hS7)
      clear hK K
      try simp only [Act.put, List.setIfInBounds_toArray, List.set_cons_zero, List.set_cons_succ]
      refine heldVal (v := ?v12) 27 rfl rfl (by kernel_rfl) (by kernel_rfl) (by kernel_rfl) (fun _ _ _ h => h) (by rfl) (fun w hSw => ?hy12) (by assumption) ?_
      case hy12 => ((try dsimp only at hSw); go_simp; (try with_reducible rfl))
      try simp only [Act.put, List.setIfInBounds_toArray, List.set_cons_zero, List.set_cons_succ]
      refine heldVal (v := ?v13) 28 rfl rfl (by kernel_rfl) (by kernel_rfl) (by kernel_rfl) (fun _ _ _ h => h) (by rfl) (fun w hSw => ?hy13) (by assumption) ?_
      case hy13 => ((try dsimp only at hSw); go_simp; (try with_reducible rfl))
      try simp only [Act.put, List.setIfInBounds_toArray, List.set_cons_zero, List.set_cons_succ]
      refine wpAnyH_done (by kernel_rfl) ?_ _
      have HBE := Lib.hid (HB0.out.trans (hS7.1.mono HB0.out.size))
      clear hS1 hS2 hS3 hS4 hS5 hS6 hS7
      go_wp2_with fail
      go_ret
      exact ⟨rfl, HBE.out⟩
theorem ruleChecks_any (r s : Rl) (w : World) (hr : RlAt w r) (hir : RlIn r) (hz : ∀ j, j < 5 → (r.Z j).length * 8 ≤ reachBytes) (hn : r.N.length * 16 ≤ reachBytes) (hs : RlAt w s) (his : RlIn s) (hz2 : ∀ j, j < 5 → (s.Z j).length * 8 ≤ reachBytes) (hn2 : s.N.length * 16 ≤ reachBytes) (hT : TabUn w) :
    Calls Tryd.prog 3 #[rlV r, rlV s] w fun e w' => e = .returned (.bool true) ∧ Below w.heap.size w w' := by
  have hsr := len_sum32 r hz hn
  have hss := len_sum32 s hz2 hn2
  by_cases hg : 600 < lenR r
  · exact ruleChecks_g r s w hr hir hs his hsr hss hT hg
  · by_cases hh : 600 < lenR s
    · exact ruleChecks_h r s w hr hir hs his hsr hss hT hg hh
    · exact ruleChecks_y r s w hr hir hs his hsr hss hT hg hh
end Go.Proofs.YtigbbepgfofcoaaDoor
