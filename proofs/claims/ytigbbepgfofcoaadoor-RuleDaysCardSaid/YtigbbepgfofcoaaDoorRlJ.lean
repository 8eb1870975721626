/- rule.Check's questions, one behind the other, are the document's (layer 32): the mathematics. -/
import Derived.Test.YtigbbepgfofcoaaDoorRlI
namespace Go.Proofs.YtigbbepgfofcoaaDoor
open Go.RowKit
set_option linter.unusedVariables false

theorem any_iff {p : Int → Bool} {zs : List Int} : zs.any p = true ↔ ∃ z, z ∈ zs ∧ p z = true := by rw [List.any_eq_true]
theorem out0_any (zs : List Int) : outB 0 0 zs = zs.any fun z => decide (z ≠ 0) := by
  unfold outB
  congr 1
  funext z
  rw [← Bool.decide_or]
  exact decide_eq_decide.2 (by omega)
/-- signs that differ, or some 0 and some not -/
theorem sg_eq (zs : List Int) : sgB zs = (outB 0 0 zs && unlB zs) := by
  rw [out0_any]
  cases zs with
  | nil => rfl
  | cons z0 zs =>
    rw [Bool.eq_iff_iff]
    unfold sgB unlB mixB sgP
    simp only [List.drop_one, List.tail_cons, List.getElem?_cons_zero, Option.getD_some, Bool.and_eq_true, Bool.or_eq_true, List.any_eq_true, decide_eq_true_eq, bne_iff_ne, ne_eq, decide_eq_decide]
    constructor
    · rintro ⟨z, hz, h⟩
      have m0 : z0 ∈ z0 :: zs := List.mem_cons_self ..
      have mz : z ∈ z0 :: zs := List.mem_cons_of_mem _ hz
      by_cases a : z0 = 0
      · have : ¬ z = 0 := by
          intro e; rw [e, a] at h; simp at h
        exact ⟨⟨z, mz, this⟩, .inl ⟨z0, m0, a⟩⟩
      · by_cases b : z = 0
        · exact ⟨⟨z0, m0, a⟩, .inl ⟨z, mz, b⟩⟩
        · have hs : ¬ (z < 0 ↔ z0 < 0) := by
            rcases h with h | h
            · exact h
            · exact absurd ⟨fun e => absurd e b, fun e => absurd e a⟩ h
          refine ⟨⟨z0, m0, a⟩, .inr ?_⟩
          by_cases c : z < 0
          · have : 0 < z0 := by
              rcases Int.lt_or_lt_of_ne a with d | d
              · exact absurd ⟨fun _ => d, fun _ => c⟩ hs
              · exact d
            exact ⟨⟨z, mz, c⟩, ⟨z0, m0, this⟩⟩
          · have d : z0 < 0 := by
              rcases Int.lt_or_lt_of_ne a with d | d
              · exact d
              · exact absurd ⟨fun e => absurd e c, fun e => absurd e (by omega)⟩ hs
            exact ⟨⟨z0, m0, d⟩, ⟨z, mz, by omega⟩⟩
    · rintro ⟨⟨x, hx, x0⟩, h⟩
      have inT : ∀ y, y ∈ z0 :: zs → y = z0 ∨ y ∈ zs := fun y hy => List.mem_cons.1 hy
      rcases h with ⟨y, hy, y0⟩ | ⟨⟨y, hy, yn⟩, ⟨u, hu, up⟩⟩
      · by_cases a : z0 = 0
        · rcases inT x hx with rfl | hx
          · exact absurd a x0
          · exact ⟨x, hx, .inr fun e => x0 (e.2 a)⟩
        · rcases inT y hy with rfl | hy
          · exact absurd y0 a
          · exact ⟨y, hy, .inr fun e => a (e.1 y0)⟩
      · by_cases a : z0 < 0
        · rcases inT u hu with rfl | hu
          · omega
          · exact ⟨u, hu, .inl fun e => absurd (e.2 a) (by omega)⟩
        · rcases inT y hy with rfl | hy
          · exact absurd yn a
          · exact ⟨y, hy, .inl fun e => a (e.1 yn)⟩
theorem pln_out (l : List N2) : plnB l = !outB 0 0 (nsL l) := by
  rw [out0_any]
  unfold plnB nsL
  rw [List.any_map]
  rfl
theorem bad_nev (l : List N2) : l.any badN = l.any nevB := by
  congr 1
  funext q
  exact (nev_bad q).symm
theorem mix_out (zs : List Int) (h : zs.any (fun z => decide (z = 0)) = false) : sgB zs = mixB zs := by
  rw [sg_eq]
  unfold unlB
  rw [h, Bool.false_or]
  cases hm : mixB zs
  · simp
  · have : outB 0 0 zs = true := by
      rw [out0_any, List.any_eq_true]
      unfold mixB at hm
      rw [Bool.and_eq_true, List.any_eq_true] at hm
      obtain ⟨⟨z, hz, h0⟩, _⟩ := hm
      exact ⟨z, hz, by rw [decide_eq_true_eq] at h0 ⊢; omega⟩
    rw [this]; rfl
/-- the first fault that is there -/
def fstB : List (Int × Bool) → Int
  | [] => 0
  | q :: qs => if q.2 = true then q.1 else fstB qs
def fltL (r : Rl) : List (Int × Bool) := [(4, !inWn r.start), (4, decide (r.freq < 0) || decide (6 < r.freq)), (4, decide (r.itv < 1) || decide (1000000000000000 < r.itv)), (4, decide (r.cnt < 0) || decide (1000000000000000 < r.cnt)), (4, (r.unt != -1) && !inWn r.unt), (12, (r.cnt != 0) && (r.unt != -1)),
  (5, decide (64 < (r.Z 0).length)), (4, outB 1 12 (r.Z 0)), (5, decide (64 < (r.Z 1).length)), (4, outB (-31) 31 (r.Z 1) || (r.Z 1).any (fun z => decide (z = 0))), (12, decide (0 < (r.Z 1).length) && decide (r.freq = 4) || mixB (r.Z 1)),
  (5, decide (64 < r.N.length)), (4, r.N.any nevB), (12, !plnB r.N && (decide (r.freq < 5) || unlB (nsL r.N))), (4, wimB r && outB (-5) 5 (nsL r.N)),
  (5, decide (64 < (r.Z 2).length)), (4, outB 0 23 (r.Z 2)), (5, decide (64 < (r.Z 3).length)), (4, outB 0 59 (r.Z 3)), (5, decide (64 < (r.Z 4).length)), (4, outB 0 59 (r.Z 4))]
theorem fstB_cons (e : Int) (b : Bool) (qs : List (Int × Bool)) : fstB ((e, b) :: qs) = if b = true then e else fstB qs := rfl
theorem fstE_cons (e : Int) (es : List Int) : fstE (e :: es) = if e = 0 then fstE es else e := rfl
theorem lst_two (lo hi : Int) (zs : List Int) (qs : List (Int × Bool)) : fstB ((5, decide (64 < zs.length)) :: (4, outB lo hi zs) :: qs) = if lstE lo hi zs = 0 then fstB qs else lstE lo hi zs := by
  rw [fstB_cons, fstB_cons]
  unfold lstE
  by_cases h : 64 < zs.length
  · rw [dec_t h, if_pos rfl, if_pos h]; rfl
  · rw [dec_n h, if_neg (by decide), if_neg h]
    cases outB lo hi zs <;> rfl
theorem days_three (r : Rl) (qs : List (Int × Bool)) : fstB ((5, decide (64 < (r.Z 1).length)) :: (4, outB (-31) 31 (r.Z 1) || (r.Z 1).any (fun z => decide (z = 0))) :: (12, decide (0 < (r.Z 1).length) && decide (r.freq = 4) || mixB (r.Z 1)) :: qs) = if daysE r = 0 then fstB qs else daysE r := by
  rw [fstB_cons, fstB_cons, fstB_cons]
  unfold daysE lstE
  by_cases h : 64 < (r.Z 1).length
  · rw [dec_t h, if_pos rfl, if_pos h]; rfl
  · rw [dec_n h, if_neg (show ¬ (false = true) by decide), if_neg h]
    cases ho : outB (-31) 31 (r.Z 1)
    · cases ha : (r.Z 1).any (fun z => decide (z = 0))
      · rw [mix_out _ ha]
        cases (decide (0 < (r.Z 1).length) && decide (r.freq = 4) || mixB (r.Z 1)) <;> rfl
      · rfl
    · rfl
theorem weeks_four (r : Rl) (qs : List (Int × Bool)) : fstB ((5, decide (64 < r.N.length)) :: (4, r.N.any nevB) :: (12, !plnB r.N && (decide (r.freq < 5) || unlB (nsL r.N))) :: (4, wimB r && outB (-5) 5 (nsL r.N)) :: qs) = if weeksE r = 0 then fstB qs else weeksE r := by
  rw [fstB_cons, fstB_cons, fstB_cons, fstB_cons]
  unfold weeksE
  by_cases h : 64 < r.N.length
  · rw [dec_t h, if_pos rfl, if_pos h]; rfl
  · rw [dec_n h, if_neg (show ¬ (false = true) by decide), if_neg h, bad_nev, pln_out, sg_eq]
    unfold wimB
    cases r.N.any nevB
    · cases outB 0 0 (nsL r.N) <;> cases decide (r.freq < 5) <;> cases unlB (nsL r.N) <;> cases outB (-5) 5 (nsL r.N) <;> cases decide (r.freq = 5) <;> cases decide (0 < (r.Z 0).length) <;> rfl
    · rfl
/-- the two orders tell the same -/
theorem chk_eq (r : Rl) : fstB (fltL r) = chkE r := by
  unfold fltL chkE numB
  rw [fstB_cons, fstB_cons, fstB_cons, fstB_cons, fstB_cons, fstB_cons, lst_two, days_three, weeks_four, lst_two, lst_two, lst_two]
  unfold listsE
  rw [fstE_cons, fstE_cons, fstE_cons, fstE_cons, fstE_cons, fstE_cons]
  cases inWn r.start
  · rfl
  · cases decide (r.freq < 0)
    · cases decide (6 < r.freq)
      · cases decide (r.itv < 1)
        · cases decide (1000000000000000 < r.itv)
          · by_cases hc : r.cnt < 0
            · rw [dec_t hc]; rfl
            · rw [dec_n hc]
              have e : (r.cnt != 0) = decide (0 < r.cnt) := by
                by_cases h0 : r.cnt = 0
                · rw [h0]; rfl
                · rw [dec_t (by omega)]; simp [h0]
              rw [e]
              cases decide (1000000000000000 < r.cnt)
              · cases (r.unt != -1)
                · cases decide (0 < r.cnt) <;> rfl
                · cases inWn r.unt
                  · rfl
                  · cases decide (0 < r.cnt) <;> rfl
              · rfl
          · rfl
        · rfl
      · rfl
    · rfl
end Go.Proofs.YtigbbepgfofcoaaDoor
