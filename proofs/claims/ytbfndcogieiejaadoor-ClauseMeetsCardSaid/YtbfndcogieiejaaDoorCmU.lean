/- What clauses have together (layer 13). What clause.Meet stores into the clause that it makes (layer 13). What clause.Meet tells (layer 13). -/
import Derived.Test.YtbfndcogieiejaaDoorCmQ
import Derived.Test.YtbfndcogieiejaaDoorDt
import Derived.Test.YtbfndcogieiejaaDoorWdC
namespace Go.Proofs.YtbfndcogieiejaaDoor
open Go.RowKit
set_option linter.unusedVariables false

theorem and4 (a b c d : Bool) : ((a && b) && (c && d)) = ((a && c) && (b && d)) := by cases a <;> cases b <;> cases c <;> cases d <;> rfl
theorem inM_and (a b : Nat) (n : Int) : inM (a &&& b) n = (inM a n && inM b n) := by
  unfold inM
  rw [Nat.testBit_and]
  cases decide (0 ≤ n ∧ n < 64) <;> cases a.testBit n.toNat <;> cases b.testBit n.toNat <;> rfl
theorem inT_and (s : Int) (H1 H2 M1 M2 S1 S2 : Nat) : inT s (H1 &&& H2) (M1 &&& M2) (S1 &&& S2) = (inT s H1 M1 S1 && inT s H2 M2 S2) := by
  unfold inT
  rw [inM_and, inM_and, inM_and]
  cases decide (0 ≤ s ∧ s < 86400) <;> cases inM H1 (s / 3600) <;> cases inM H2 (s / 3600) <;> cases inM M1 (s / 60 % 60) <;> cases inM M2 (s / 60 % 60) <;> cases inM S1 (s % 60) <;> cases inM S2 (s % 60) <;> rfl
theorem bitsI_and {a : Nat} (b : Nat) {lo hi : Int} (h : bitsI a lo hi = true) : bitsI (a &&& b) lo hi = true := by
  rw [bitsI_iff] at h ⊢
  intro n hn ht
  rw [Nat.testBit_and, Bool.and_eq_true] at ht
  exact h n hn ht.1
theorem hasW_and (P Q : Nat → Bool) (n : Int) : hasW (andP [P, Q]) n = (hasW P n && hasW Q n) := by
  unfold hasW andP fullW
  by_cases h : 0 ≤ n ∧ n < 400
  · rw [dec_t h, dec_t (show n.toNat < 400 by omega)]
    simp
  · rw [dec_n h]; rfl
/-- a clause more is taken over -/
def joinC (a c : Cl) : Cl := stepC (ordJ a c) c
def mergeC (a c : Cl) : Cl := { joinC a c with s := a.s &&& c.s, m := a.m &&& c.m, h := a.h &&& c.h, mo := a.mo &&& c.mo, d := a.d &&& c.d, e := a.e &&& c.e, wk := a.wk &&& c.wk, P := andP [a.P, c.P], fr := if c.fr > a.fr then c.fr else a.fr, un := if c.un < a.un then c.un else a.un }
def okJ (a c : Cl) : Bool := goodC c && (ordOk a c && stepOk (ordJ a c) c)
theorem joinC_orr (a c : Cl) : (joinC a c).orr = a.orr := by
  unfold joinC stepC ordJ
  split <;> split <;> rfl
theorem joinC_ord (a c : Cl) : (joinC a c).n = (ordJ a c).n ∧ (joinC a c).b = (ordJ a c).b ∧ (joinC a c).D = (ordJ a c).D := by
  unfold joinC stepC
  split <;> exact ⟨rfl, rfl, rfl⟩
theorem noO_zero {n : Int} {b : Bool} {D : Nat → Nat} (h : noO n b D = true) : n = 0 ∧ b = false ∧ ∀ i, i < 8 → D i = 0 := by
  unfold noO at h
  rw [Bool.and_eq_true, Bool.and_eq_true, decide_eq_true_eq, decide_eq_true_eq] at h
  obtain ⟨h1, h2, h3, h4, h5, h6, h7, h8, h9, h10⟩ := h
  refine ⟨h1, by simpa using h2, fun i hi => ?_⟩
  match i, hi with
  | 0, _ => exact h3
  | 1, _ => exact h4
  | 2, _ => exact h5
  | 3, _ => exact h6
  | 4, _ => exact h7
  | 5, _ => exact h8
  | 6, _ => exact h9
  | 7, _ => exact h10
theorem ordS_none {n : Int} {b : Bool} {D : Nat → Nat} (h : noO n b D = true) (s : Sp) : ordS n b D s = true := by
  unfold ordS
  rw [if_pos (noO_zero h).1]
theorem ord_join (a c : Cl) (h : ordOk a c = true) (s : Sp) : ordS (ordJ a c).n (ordJ a c).b (ordJ a c).D s = (ordS a.n a.b a.D s && ordS c.n c.b c.D s) := by
  unfold ordJ
  by_cases hc : noO c.n c.b c.D = true
  · rw [if_pos hc, ordS_none hc, Bool.and_true]
  · rw [if_neg hc]
    have ha : noO a.n a.b a.D = true := by
      unfold ordOk at h
      rw [Bool.or_eq_true] at h
      rcases h with h | h
      · exact absurd h hc
      · exact h
    rw [ordS_none ha, Bool.true_and]
theorem date_merge (a c : Cl) (ha : a.orr = false) (hc : c.orr = false) (ho : ordOk a c = true) (s : Sp) : dateB (mergeC a c) s = (dateB a s && dateB c s) := by
  have h1 := joinC_orr a c
  obtain ⟨h2, h3, h4⟩ := joinC_ord a c
  have h5 := ord_join a c ho s
  rw [← h2, ← h3, ← h4] at h5
  unfold dateB
  show (inM (a.mo &&& c.mo) s.m && (inM (a.e &&& c.e) s.bk && (hasW (andP [a.P, c.P]) (s.y - 1970) && (((inM (a.d &&& c.d) s.d && inM (a.wk &&& c.wk) s.wk) || ((joinC a c).orr && (inM (a.d &&& c.d) s.d || inM (a.wk &&& c.wk) s.wk))) && ordS (joinC a c).n (joinC a c).b (joinC a c).D s)))) = _
  rw [inM_and, inM_and, inM_and, inM_and, hasW_and, h5, h1, ha, hc]
  simp only [Bool.false_and, Bool.or_false]
  ac_rfl
theorem onB_one {u an t : Int} (hk : okU u 1 an = true) (ht : 0 ≤ t ∧ t < 12622780800) : onB u 1 an t = true := by
  unfold onB
  rw [hk, dec_t ht, dec_t (Int.emod_one _)]; rfl
theorem step_one {c : Cl} (h : c.st = 1) (n : Int) : stepB c n = true := by
  unfold stepB
  rw [h, dec_t (Int.emod_one _), Bool.or_true]
/-- whose step is taken -/
theorem join_st (a c : Cl) : (c.st = 1 ∧ (joinC a c).u = a.u ∧ (joinC a c).st = a.st ∧ (joinC a c).an = a.an) ∨ (c.st ≠ 1 ∧ (joinC a c).u = c.u ∧ (joinC a c).st = c.st ∧ (joinC a c).an = c.an) := by
  have hj : (ordJ a c).u = a.u ∧ (ordJ a c).st = a.st ∧ (ordJ a c).an = a.an := by
    unfold ordJ
    split <;> exact ⟨rfl, rfl, rfl⟩
  unfold joinC stepC
  by_cases h : c.st = 1
  · rw [if_pos h]; exact .inl ⟨h, hj⟩
  · rw [if_neg h]; exact .inr ⟨h, rfl, rfl, rfl⟩
theorem step_a (a c : Cl) (h : stepOk (ordJ a c) c = true) (h1 : c.st ≠ 1) (h2 : 1 ≤ a.st) : a.st = 1 := by
  have hj : (ordJ a c).st = a.st := by
    unfold ordJ
    split <;> rfl
  unfold stepOk at h
  rw [dec_n h1, Bool.false_or, hj, Bool.not_eq_true', decide_eq_false_iff_not] at h
  omega
theorem may_split (c : Cl) (h : mayB c = true) : masksB c = true ∧ ordB c.n c.b c.D = true ∧ (0 ≤ c.u ∧ c.u < 7) ∧ 1 ≤ c.st ∧ (0 ≤ c.an ∧ c.an < 12622780800) := by
  unfold mayB at h
  simp only [Bool.and_eq_true, decide_eq_true_eq] at h
  exact ⟨h.1, h.2.1, h.2.2.2.1, h.2.2.2.2.1, h.2.2.2.2.2⟩
theorem clip_and (P Q : Nat → Bool) : same7 (andP [P, Q]) (clip (andP [P, Q])) = true := by
  rw [same7_iff]
  intro i _
  unfold clip andP fullW
  by_cases h : i < 400
  · rw [dec_t h, Bool.and_true]
  · rw [dec_n h, Bool.false_and, Bool.and_false]
theorem masks_and (a c : Cl) (h : masksB a = true) : masks7 (a.s &&& c.s) (a.m &&& c.m) (a.h &&& c.h) (a.mo &&& c.mo) (a.d &&& c.d) (a.e &&& c.e) (a.wk &&& c.wk) = true := by
  unfold masksB masks7 at h
  unfold masks7
  simp only [Bool.and_eq_true] at h ⊢
  obtain ⟨h1, h2, h3, h4, h5, h6, h7⟩ := h
  exact ⟨bitsI_and _ h1, bitsI_and _ h2, bitsI_and _ h3, bitsI_and _ h4, bitsI_and _ h5, bitsI_and _ h6, bitsI_and _ h7⟩
theorem may_merge (a c : Cl) (ha : mayB a = true) (hc : mayB c = true) : mayB (mergeC a c) = true := by
  obtain ⟨a1, a2, a3, a4, a5⟩ := may_split a ha
  obtain ⟨c1, c2, c3, c4, c5⟩ := may_split c hc
  have o : ordB (joinC a c).n (joinC a c).b (joinC a c).D = true := by
    obtain ⟨h2, h3, h4⟩ := joinC_ord a c
    rw [h2, h3, h4]
    unfold ordJ
    split
    · exact a2
    · exact c2
  have st : (0 ≤ (joinC a c).u ∧ (joinC a c).u < 7) ∧ 1 ≤ (joinC a c).st ∧ (0 ≤ (joinC a c).an ∧ (joinC a c).an < 12622780800) := by
    rcases join_st a c with ⟨_, h1, h2, h3⟩ | ⟨_, h1, h2, h3⟩
    · rw [h1, h2, h3]; exact ⟨a3, a4, a5⟩
    · rw [h1, h2, h3]; exact ⟨c3, c4, c5⟩
  show (masks7 (a.s &&& c.s) (a.m &&& c.m) (a.h &&& c.h) (a.mo &&& c.mo) (a.d &&& c.d) (a.e &&& c.e) (a.wk &&& c.wk) && (ordB (joinC a c).n (joinC a c).b (joinC a c).D && (same7 (andP [a.P, c.P]) (clip (andP [a.P, c.P])) && (decide (0 ≤ (joinC a c).u ∧ (joinC a c).u < 7) && (decide (1 ≤ (joinC a c).st) && decide (0 ≤ (joinC a c).an ∧ (joinC a c).an < 12622780800)))))) = true
  rw [masks_and a c a1, o, clip_and, dec_t st.1, dec_t st.2.1, dec_t st.2.2]; rfl
theorem okU_of {c : Cl} (h : mayB c = true) : okU c.u c.st c.an = true := (may_facts c h).2.2
theorem on_merge (a c : Cl) (ha : mayB a = true) (hc : mayB c = true) (hj : stepOk (ordJ a c) c = true) (t n : Int) (ht : 0 ≤ t ∧ t < 12622780800) :
    onB (joinC a c).u (joinC a c).st (joinC a c).an t = (onB a.u a.st a.an t && onB c.u c.st c.an t) ∧ stepB (mergeC a c) n = (stepB a n && stepB c n) := by
  have e : stepB (mergeC a c) n = (decide ((joinC a c).u < 3) || decide ((whV (joinC a c).u (86400 * n) - whV (joinC a c).u (joinC a c).an) % (joinC a c).st = 0)) := rfl
  rw [e]
  rcases join_st a c with ⟨h, h1, h2, h3⟩ | ⟨h, h1, h2, h3⟩
  · rw [h1, h2, h3, h, step_one h, onB_one (by rw [← h]; exact okU_of hc) ht, Bool.and_true, Bool.and_true]
    exact ⟨rfl, rfl⟩
  · have g := step_a a c hj h (may_split a ha).2.2.2.1
    rw [h1, h2, h3, g, step_one g, onB_one (by rw [← g]; exact okU_of ha) ht, Bool.true_and, Bool.true_and]
    exact ⟨rfl, rfl⟩
theorem max_le (x y t : Int) : decide ((if y > x then y else x) ≤ t) = (decide (x ≤ t) && decide (y ≤ t)) := by
  rw [← Bool.decide_and, decide_eq_decide]
  split <;> omega
theorem le_min (x y t : Int) : decide (t ≤ (if y < x then y else x)) = (decide (t ≤ x) && decide (t ≤ y)) := by
  rw [← Bool.decide_and, decide_eq_decide]
  split <;> omega
/-- 13.3: what is told of two clauses has what both have -/
theorem has_merge (a c : Cl) (ha : mayB a = true) (hao : a.orr = false) (hj : okJ a c = true) (t : Int) : hasB (mergeC a c) t = (hasB a t && hasB c t) := by
  unfold okJ goodC at hj
  simp only [Bool.and_eq_true, Bool.not_eq_true'] at hj
  obtain ⟨⟨hc, hco⟩, ho, hs⟩ := hj
  by_cases ht : 0 ≤ t ∧ t < 12622780800
  · obtain ⟨e1, e2⟩ := on_merge a c ha hc hs t (t / 86400) ht
    have e3 := date_merge a c hao hco ho (shD (t / 86400))
    have e4 := may_merge a c ha hc
    unfold hasB dayB
    rw [e2, e3, e4, ha, hc]
    show (decide (0 ≤ t ∧ t < 12622780800) && (decide ((if c.fr > a.fr then c.fr else a.fr) ≤ t) && (decide (t ≤ (if c.un < a.un then c.un else a.un)) && (inT (t % 86400) (a.h &&& c.h) (a.m &&& c.m) (a.s &&& c.s) && (onB (joinC a c).u (joinC a c).st (joinC a c).an t && (true && ((dateB a (shD (t / 86400)) && dateB c (shD (t / 86400))) && (stepB a (t / 86400) && stepB c (t / 86400))))))))) = _
    rw [max_le, le_min, inT_and, e1, dec_t ht]
    simp only [Bool.true_and]
    ac_rfl
  · unfold hasB
    rw [dec_n ht]; rfl
/-- what is told of clauses -/
def meetO : List Cl → Cl → Option Cl
  | [], a => some a
  | c :: cs, a => if okJ a c = true then meetO cs (mergeC a c) else none
theorem merge_orr (a c : Cl) : (mergeC a c).orr = a.orr := joinC_orr a c
theorem meetO_has : ∀ (cs : List Cl) (a m : Cl), mayB a = true → a.orr = false → meetO cs a = some m → mayB m = true ∧ ∀ t, hasB m t = (hasB a t && cs.all fun c => hasB c t)
  | [], a, m, ha, hao, h => by
    cases h
    exact ⟨ha, fun t => by simp⟩
  | c :: cs, a, m, ha, hao, h => by
    unfold meetO at h
    by_cases hj : okJ a c = true
    · rw [if_pos hj] at h
      have hc : mayB c = true := by
        unfold okJ goodC at hj
        simp only [Bool.and_eq_true] at hj
        exact hj.1.1
      obtain ⟨h1, h2⟩ := meetO_has cs (mergeC a c) m (may_merge a c ha hc) ((merge_orr a c).trans hao) h
      refine ⟨h1, fun t => ?_⟩
      rw [h2, has_merge a c ha hao hj, List.all_cons, Bool.and_assoc]
    · rw [if_neg hj] at h; cases h
theorem ord_of_merge (a c : Cl) (h : ordOk a c = true) : hasOrd (mergeC a c) = (hasOrd a || hasOrd c) ∧ (hasOrd a && hasOrd c) = false := by
  obtain ⟨h2, h3, h4⟩ := joinC_ord a c
  have e : hasOrd (mergeC a c) = !noO (ordJ a c).n (ordJ a c).b (ordJ a c).D := by
    rw [← h2, ← h3, ← h4]; rfl
  rw [e]
  unfold hasOrd
  unfold ordOk at h
  unfold ordJ
  by_cases hc : noO c.n c.b c.D = true
  · rw [if_pos hc, hc]
    cases noO a.n a.b a.D <;> exact ⟨rfl, rfl⟩
  · rw [if_neg hc]
    have hcf : noO c.n c.b c.D = false := Bool.eq_false_iff.2 hc
    rw [hcf, Bool.false_or] at h
    show (!noO c.n c.b c.D) = _ ∧ _
    rw [hcf, h]
    exact ⟨rfl, rfl⟩
theorem step_of_merge (a c : Cl) (h : stepOk (ordJ a c) c = true) (ha : 1 ≤ a.st) (hc : 1 ≤ c.st) : hasStep (mergeC a c) = (hasStep a || hasStep c) ∧ (hasStep a && hasStep c) = false := by
  have e : hasStep (mergeC a c) = decide (1 < (joinC a c).st) := rfl
  rw [e]
  unfold hasStep
  rcases join_st a c with ⟨g, _, h2, _⟩ | ⟨g, _, h2, _⟩
  · rw [h2, g]
    simp
  · have q := step_a a c h g ha
    rw [h2, q]
    simp
theorem bad_ord (a c : Cl) (h : ordOk a c = false) : hasOrd a = true ∧ hasOrd c = true := by
  unfold ordOk at h
  unfold hasOrd
  rw [Bool.or_eq_false_iff] at h
  rw [h.1, h.2]
  exact ⟨rfl, rfl⟩
theorem bad_step (a c : Cl) (h : stepOk (ordJ a c) c = false) (hc : 1 ≤ c.st) : hasStep a = true ∧ hasStep c = true := by
  have hj : (ordJ a c).st = a.st := by
    unfold ordJ
    split <;> rfl
  unfold stepOk at h
  rw [Bool.or_eq_false_iff, decide_eq_false_iff_not, Bool.not_eq_false', decide_eq_true_eq, hj] at h
  unfold hasStep
  exact ⟨dec_t h.2, dec_t (by omega)⟩
theorem meetO_ok : ∀ (cs : List Cl) (a : Cl), mayB a = true → ((meetO cs a).isSome = true ↔ (cs.all goodC = true ∧ (cs.filter hasOrd).length + (hasOrd a).toNat ≤ 1 ∧ (cs.filter hasStep).length + (hasStep a).toNat ≤ 1))
  | [], a, _ => by
    unfold meetO
    cases hasOrd a <;> cases hasStep a <;> simp
  | c :: cs, a, ha => by
    have a4 := (may_split a ha).2.2.2.1
    unfold meetO
    rw [List.all_cons, Bool.and_eq_true, List.filter_cons, List.filter_cons]
    by_cases hg : goodC c = true
    · have hc : mayB c = true := by
        unfold goodC at hg
        rw [Bool.and_eq_true] at hg
        exact hg.1
      have c4 := (may_split c hc).2.2.2.1
      by_cases ho : ordOk a c = true
      · by_cases hs : stepOk (ordJ a c) c = true
        · have hj : okJ a c = true := by unfold okJ; rw [hg, ho, hs]; rfl
          rw [if_pos hj, meetO_ok cs (mergeC a c) (may_merge a c ha hc)]
          obtain ⟨e1, e2⟩ := ord_of_merge a c ho
          obtain ⟨e3, e4⟩ := step_of_merge a c hs a4 c4
          rw [e1, e3]
          revert e2 e4
          cases hasOrd a <;> cases hasOrd c <;> cases hasStep a <;> cases hasStep c <;> simp [hg]
        · have hs' := Bool.eq_false_iff.2 hs
          have hj : ¬ okJ a c = true := by unfold okJ; rw [hg, ho, hs']; simp
          obtain ⟨e1, e2⟩ := bad_step a c hs' c4
          rw [if_neg hj, e1, e2]
          simp
      · have ho' := Bool.eq_false_iff.2 ho
        have hj : ¬ okJ a c = true := by unfold okJ; rw [hg, ho']; simp
        obtain ⟨e1, e2⟩ := bad_ord a c ho'
        rw [if_neg hj, e1, e2]
        simp
    · have hg' := Bool.eq_false_iff.2 hg
      have hj : ¬ okJ a c = true := by unfold okJ; rw [hg']; simp
      rw [if_neg hj]
      simp [hg']
theorem meet_ok (cs : List Cl) : (meetO cs fullC).isSome = meetB cs := by
  rw [Bool.eq_iff_iff, meetO_ok cs fullC (by decide +kernel)]
  unfold meetB cntC
  rw [List.take_length, Bool.and_eq_true, Bool.and_eq_true, decide_eq_true_eq, decide_eq_true_eq]
  exact Iff.rfl
end Go.Proofs.YtbfndcogieiejaaDoor
namespace Go.Proofs.YtbfndcogieiejaaDoor
open Go.RowKit
set_option linter.unusedVariables false

theorem and_natC (a b : Nat) (ha : a < 18446744073709551616) (hb : b < 18446744073709551616) : bits BinOp.and IntKind.u64 ((a : Nat) : Int) ((b : Nat) : Int) = ((a &&& b : Nat) : Int) := u64_and_nat a b ha hb
theorem and_ltC {a : Nat} (b : Nat) (ha : a < 18446744073709551616) : a &&& b < 18446744073709551616 := Nat.lt_of_le_of_lt Nat.and_le_left ha
theorem in_join (a c : Cl) (ha : ClIn a) (hc : ClIn c) : ClIn (joinC a c) := by
  have ho : ClIn (ordJ a c) := by
    unfold ordJ
    split
    · exact ha
    · exact ⟨ha.1, ha.2.1, ha.2.2.1, ha.2.2.2.1, ha.2.2.2.2.1, ha.2.2.2.2.2.1, ha.2.2.2.2.2.2.1, hc.2.2.2.2.2.2.2⟩
  unfold joinC stepC
  split
  · exact ho
  · exact ho
theorem join_masks (a c : Cl) : (joinC a c).s = a.s ∧ (joinC a c).m = a.m ∧ (joinC a c).h = a.h ∧ (joinC a c).mo = a.mo ∧ (joinC a c).d = a.d ∧ (joinC a c).e = a.e ∧ (joinC a c).wk = a.wk ∧ (joinC a c).P = a.P ∧ (joinC a c).fr = a.fr ∧ (joinC a c).un = a.un := by
  unfold joinC stepC ordJ
  split <;> split <;> exact ⟨rfl, rfl, rfl, rfl, rfl, rfl, rfl, rfl, rfl, rfl⟩
theorem in_merge (a c : Cl) (ha : ClIn a) (hc : ClIn c) : ClIn (mergeC a c) := by
  obtain ⟨h1, h2, h3, h4, h5, h6, h7, _⟩ := ha
  exact ⟨and_ltC _ h1, and_ltC _ h2, and_ltC _ h3, and_ltC _ h4, and_ltC _ h5, and_ltC _ h6, and_ltC _ h7, (in_join a c ⟨h1, h2, h3, h4, h5, h6, h7, by assumption⟩ hc).2.2.2.2.2.2.2⟩
set_option maxHeartbeats 800000 in
set_option maxRecDepth 20000 in
theorem ClAt.put7m {w : World} {g : Nat} {a : Cl} (h : ClAt w g a) (c : Cl) : ClAt (((((((w.setCell ⟨g, 0, none⟩ (.int .u64 (a.s &&& c.s : Nat))).setCell ⟨g, 1, none⟩ (.int .u64 (a.m &&& c.m : Nat))).setCell ⟨g, 2, none⟩ (.int .u64 (a.h &&& c.h : Nat))).setCell ⟨g, 3, none⟩ (.int .u64 (a.mo &&& c.mo : Nat))).setCell ⟨g, 4, none⟩ (.int .u64 (a.d &&& c.d : Nat))).setCell ⟨g, 5, none⟩ (.int .u64 (a.e &&& c.e : Nat))).setCell ⟨g, 6, none⟩ (.int .u64 (a.wk &&& c.wk : Nat))) g { a with s := a.s &&& c.s, m := a.m &&& c.m, h := a.h &&& c.h, mo := a.mo &&& c.mo, d := a.d &&& c.d, e := a.e &&& c.e, wk := a.wk &&& c.wk } := by
  unfold ClAt at h ⊢
  refine ((blk_put (blk_put (blk_put (blk_put (blk_put (blk_put (blk_put h 0 (.int .u64 (a.s &&& c.s : Nat))) 1 (.int .u64 (a.m &&& c.m : Nat))) 2 (.int .u64 (a.h &&& c.h : Nat))) 3 (.int .u64 (a.mo &&& c.mo : Nat))) 4 (.int .u64 (a.d &&& c.d : Nat))) 5 (.int .u64 (a.e &&& c.e : Nat))) 6 (.int .u64 (a.wk &&& c.wk : Nat)))).trans ?_
  simp [clC]
set_option maxHeartbeats 800000 in
set_option maxRecDepth 20000 in
theorem ClAt.putY {w : World} {g : Nat} {a : Cl} (h : ClAt w g a) (Q : Nat → Bool) : ClAt (((((((w.setCell ⟨g, 18, none⟩ (.int .u64 (wv Q 0 : Nat))).setCell ⟨g, 19, none⟩ (.int .u64 (wv Q 1 : Nat))).setCell ⟨g, 20, none⟩ (.int .u64 (wv Q 2 : Nat))).setCell ⟨g, 21, none⟩ (.int .u64 (wv Q 3 : Nat))).setCell ⟨g, 22, none⟩ (.int .u64 (wv Q 4 : Nat))).setCell ⟨g, 23, none⟩ (.int .u64 (wv Q 5 : Nat))).setCell ⟨g, 24, none⟩ (.int .u64 (wv Q 6 : Nat))) g { a with P := Q } := by
  unfold ClAt at h ⊢
  refine ((blk_put (blk_put (blk_put (blk_put (blk_put (blk_put (blk_put h 18 (.int .u64 (wv Q 0 : Nat))) 19 (.int .u64 (wv Q 1 : Nat))) 20 (.int .u64 (wv Q 2 : Nat))) 21 (.int .u64 (wv Q 3 : Nat))) 22 (.int .u64 (wv Q 4 : Nat))) 23 (.int .u64 (wv Q 5 : Nat))) 24 (.int .u64 (wv Q 6 : Nat)))).trans ?_
  simp [clC]
set_option maxHeartbeats 800000 in
set_option maxRecDepth 20000 in
theorem ClAt.putS {w : World} {g : Nat} {a : Cl} (h : ClAt w g a) (x y : Int) : ClAt ((w.setCell ⟨g, 28, none⟩ (.int .i64 x)).setCell ⟨g, 29, none⟩ (.int .i64 y)) g { a with fr := x, un := y } := by
  unfold ClAt at h ⊢
  refine ((blk_put (blk_put h 28 (.int .i64 x)) 29 (.int .i64 y))).trans ?_
  simp [clC]
end Go.Proofs.YtbfndcogieiejaaDoor
namespace Go.Proofs.YtbfndcogieiejaaDoor
open Go.RowKit Go.Deep
set_option linter.unusedVariables false

theorem meetO_none (cs : List Cl) (a : Cl) (k : Nat) (hk : k < cs.length) (h : okJ a (nthC cs k) = false) : meetO (cs.drop k) a = none := by
  rw [List.drop_eq_getElem_cons hk]
  unfold meetO
  have e : cs[k] = nthC cs k := by unfold nthC; rw [List.getElem?_eq_getElem hk]; rfl
  rw [e, if_neg (by rw [h]; simp)]
theorem meetO_step (cs : List Cl) (a : Cl) (k : Nat) (hk : k < cs.length) (h : okJ a (nthC cs k) = true) : meetO (cs.drop k) a = meetO (cs.drop (k + 1)) (mergeC a (nthC cs k)) := by
  rw [List.drop_eq_getElem_cons hk]
  have e : cs[k] = nthC cs k := by unfold nthC; rw [List.getElem?_eq_getElem hk]; rfl
  rw [e]
  show (if okJ a (nthC cs k) = true then meetO (cs.drop (k + 1)) (mergeC a (nthC cs k)) else none) = _
  rw [if_pos h]
theorem meetO_end (cs : List Cl) (a : Cl) : meetO (cs.drop cs.length) a = some a := by rw [List.drop_length]; rfl
end Go.Proofs.YtbfndcogieiejaaDoor
