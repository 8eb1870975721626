/- The periods of clauses, the mathematics (layer 45). -/
import Derived.Test.YtjdoknbmnokkdaaDoorCmL
import Derived.Test.YtjdoknbmnokkdaaDoorCmF
import Derived.Test.YtjdoknbmnokkdaaDoorNmG
namespace Go.Proofs.YtjdoknbmnokkdaaDoor
open Go.RowKit
set_option linter.unusedVariables false

/-- a clause's period -/
def perO (c : Cl) : Option Int :=
  if mayB c = false then none
  else if c.st = 1 then some 1
  else if 0 < sz c.u then some ((c.st.natAbs / Nat.gcd c.st.natAbs (86400 / (sz c.u).natAbs) : Nat) : Int)
  else if c.u = 3 then some c.st
  else if c.u = 4 then (if 7 * c.st ≤ 9223372036854775807 then some (7 * c.st) else none)
  else some 1
/-- a set's period, behind one of the clauses ahead -/
def lcmO : List Cl → Int → Option Int
  | [], a => some a
  | c :: cs, a => match perO c with
    | none => none
    | some p => if a * (p / (Nat.gcd a.natAbs p.natAbs : Nat)) ≤ 9223372036854775807 then lcmO cs (a * (p / (Nat.gcd a.natAbs p.natAbs : Nat))) else none
theorem may_st (c : Cl) (h : mayB c = true) : 1 ≤ c.st := by
  unfold mayB at h
  simp only [Bool.and_eq_true, decide_eq_true_eq] at h
  omega
theorem div_gcd_pos (a b : Nat) (h : 0 < a) : 0 < a / Nat.gcd a b := Nat.div_pos (Nat.gcd_le_left b h) (Nat.gcd_pos_of_pos_left b h)
theorem per_pos (c : Cl) (p : Int) (h : perO c = some p) : 1 ≤ p := by
  unfold perO at h
  cases hm : mayB c
  · rw [if_pos hm] at h; cases h
  · have h1 := may_st c hm
    rw [if_neg (by simp [hm])] at h
    split at h
    · cases h; omega
    · split at h
      · cases h
        have := div_gcd_pos c.st.natAbs (86400 / (sz c.u).natAbs) (by omega)
        omega
      · split at h
        · cases h; omega
        · split at h
          · split at h
            · cases h; omega
            · cases h
          · cases h; omega
theorem per_le (c : Cl) (p : Int) (hi : I64 c.st) (h : perO c = some p) : p ≤ 9223372036854775807 := by
  unfold perO at h
  unfold I64 at hi
  cases hm : mayB c
  · rw [if_pos hm] at h; cases h
  · have h1 := may_st c hm
    rw [if_neg (by simp [hm])] at h
    split at h
    · cases h; omega
    · split at h
      · cases h
        have := Nat.div_le_self c.st.natAbs (Nat.gcd c.st.natAbs (86400 / (sz c.u).natAbs))
        omega
      · split at h
        · cases h; omega
        · split at h
          · split at h
            · cases h; omega
            · cases h
          · cases h; omega
/-- the least number of which both are divisors -/
theorem lcm_step (a p : Int) (ha : 1 ≤ a) (hp : 1 ≤ p) : a * (p / (Nat.gcd a.natAbs p.natAbs : Nat)) = (Nat.lcm a.natAbs p.natAbs : Nat) := by
  obtain ⟨x, rfl⟩ := Int.eq_ofNat_of_zero_le (show 0 ≤ a by omega)
  obtain ⟨y, rfl⟩ := Int.eq_ofNat_of_zero_le (show 0 ≤ p by omega)
  simp only [Int.natAbs_natCast]
  unfold Nat.lcm
  rw [← Int.natCast_ediv, ← Int.natCast_mul, Nat.mul_div_assoc _ (Nat.gcd_dvd_right x y)]
theorem lcm_one (a p : Int) (ha : 1 ≤ a) (hp : 1 ≤ p) : 1 ≤ ((Nat.lcm a.natAbs p.natAbs : Nat) : Int) := by
  have := Nat.lcm_pos (m := a.natAbs) (n := p.natAbs) (by omega) (by omega)
  omega
/-- what a set's period is: all periods divide it, and it divides whatever they divide -/
theorem lcmO_spec : ∀ (cs : List Cl) (a m : Int), 1 ≤ a → lcmO cs a = some m → 1 ≤ m ∧ a ∣ m ∧ (∀ c ∈ cs, ∃ p, perO c = some p ∧ p ∣ m) ∧ ∀ x : Int, a ∣ x → (∀ c ∈ cs, ∀ p, perO c = some p → p ∣ x) → m ∣ x
  | [], a, m, ha, h => by
    cases h
    exact ⟨ha, Int.dvd_refl a, (fun c hc => absurd hc List.not_mem_nil), fun x hx _ => hx⟩
  | c :: cs, a, m, ha, h => by
    unfold lcmO at h
    cases hp : perO c with
    | none => rw [hp] at h; cases h
    | some p =>
      rw [hp] at h
      have p1 := per_pos c p hp
      simp only at h
      split at h
      · rw [lcm_step a p ha p1] at h
        obtain ⟨h1, h2, h3, h4⟩ := lcmO_spec cs _ m (lcm_one a p ha p1) h
        have da : a ∣ ((Nat.lcm a.natAbs p.natAbs : Nat) : Int) := Int.natAbs_dvd_natAbs.1 (by rw [Int.natAbs_natCast]; exact Nat.dvd_lcm_left _ _)
        have dp : p ∣ ((Nat.lcm a.natAbs p.natAbs : Nat) : Int) := Int.natAbs_dvd_natAbs.1 (by rw [Int.natAbs_natCast]; exact Nat.dvd_lcm_right _ _)
        refine ⟨h1, Int.dvd_trans da h2, fun d hd => ?_, fun x hx hall => ?_⟩
        · rcases List.mem_cons.1 hd with rfl | hd
          · exact ⟨p, hp, Int.dvd_trans dp h2⟩
          · exact h3 d hd
        · refine h4 x ?_ (fun d hd => hall d (List.mem_cons_of_mem _ hd))
          refine Int.natAbs_dvd_natAbs.1 ?_
          rw [Int.natAbs_natCast]
          exact Nat.lcm_dvd (Int.natAbs_dvd_natAbs.2 hx) (Int.natAbs_dvd_natAbs.2 (hall c (List.mem_cons_self ..) p hp))
      · cases h
theorem lcmO_drop (cs : List Cl) (a : Int) (k : Nat) (hk : k < cs.length) : lcmO (cs.drop k) a = match perO (nthC cs k) with
    | none => none
    | some p => if a * (p / (Nat.gcd a.natAbs p.natAbs : Nat)) ≤ 9223372036854775807 then lcmO (cs.drop (k + 1)) (a * (p / (Nat.gcd a.natAbs p.natAbs : Nat))) else none := by
  rw [List.drop_eq_getElem_cons hk]
  have e : cs[k] = nthC cs k := by unfold nthC; rw [List.getElem?_eq_getElem hk]; rfl
  rw [e]; rfl
theorem lcmO_end (cs : List Cl) (a : Int) : lcmO (cs.drop cs.length) a = some a := by rw [List.drop_length]; rfl
end Go.Proofs.YtjdoknbmnokkdaaDoor
