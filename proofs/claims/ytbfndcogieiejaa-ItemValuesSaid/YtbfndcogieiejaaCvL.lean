/- Contract of cover.Len (layer 3). -/
import Derived.Test.YtbfndcogieiejaaCvC
namespace Go.Proofs.Ytbfndcogieiejaa
open Go.RowKit
set_option linter.unusedVariables false

def noPiece (p : P3) : Prop := p.1 < 0 ∨ p.2.1 < p.1 ∨ 9999 < p.2.1 ∨ p.2.2 < 1 ∨ (p.2.1 - p.1) % p.2.2 ≠ 0
instance (p : P3) : Decidable (noPiece p) := by unfold noPiece; infer_instance
/-- how many numbers a piece has -/
def lenN (p : P3) : Nat := if noPiece p then 0 else ((p.2.1 - p.1) / p.2.2).toNat + 1
theorem lenN_no {p : P3} (h : noPiece p) : lenN p = 0 := if_pos h
theorem lenN_yes {p : P3} (h : ¬ noPiece p) : lenN p = ((p.2.1 - p.1) / p.2.2).toNat + 1 := if_neg h
theorem quo_bd {a b : Int} (ha : 0 ≤ a) (hb : 1 ≤ b) : 0 ≤ a / b ∧ a / b ≤ a := ⟨Int.ediv_nonneg ha (by omega), Int.ediv_le_self b ha⟩
theorem lenN_le (p : P3) : lenN p ≤ 10000 := by
  by_cases h : noPiece p
  · rw [lenN_no h]; omega
  · rw [lenN_yes h]
    unfold noPiece at h
    have := quo_bd (a := p.2.1 - p.1) (b := p.2.2) (by omega) (by omega)
    omega
set_option maxHeartbeats 1600000 in
theorem len_any (f t s : Int) (w : World) (hf : I64 f) (ht : I64 t) (hs : I64 s) :
    Calls Try.prog 25 #[.agg #[.int .i64 f, .int .i64 t, .int .i64 s]] w fun e w' => e = .returned (.int .i64 (lenN (f, t, s))) ∧ Below w.heap.size w w' := by
  obtain ⟨f1, f2⟩ := hf
  obtain ⟨t1, t2⟩ := ht
  obtain ⟨s1, s2⟩ := hs
  have HN := Lib.hid (fun h : noPiece (f, t, s) => (show (0 : Int) = lenN (f, t, s) by rw [lenN_no h]; rfl))
  have HY := Lib.hid (fun h : ¬ noPiece (f, t, s) => lenN_yes h)
  unfold noPiece at HN HY
  simp only [] at HN HY
  by_cases h1 : f < 0
  · have HX := Lib.hid (HN.out (.inl h1))
    have d1 := dec_t h1
    clear h1 f1 f2 t1 t2 s1 s2
    go_enter Try.func25, Try.ntmps25
    go_wp2
    go_ret
    exact ⟨ret_i64 HX.out, (Below.refl _ _).alloc (Nat.le_refl _) _⟩
  · have d1 := dec_n h1
    by_cases h2 : t < f
    · have HX := Lib.hid (HN.out (.inr (.inl h2)))
      have d2 := dec_t h2
      clear h1 h2 f1 f2 t1 t2 s1 s2
      go_enter Try.func25, Try.ntmps25
      go_wp2
      go_ret
      exact ⟨ret_i64 HX.out, (Below.refl _ _).alloc (Nat.le_refl _) _⟩
    · have d2 := dec_n h2
      by_cases h3 : 9999 < t
      · have HX := Lib.hid (HN.out (.inr (.inr (.inl h3))))
        have d3 := dec_t h3
        clear h1 h2 h3 f1 f2 t1 t2 s1 s2
        go_enter Try.func25, Try.ntmps25
        go_wp2
        go_ret
        exact ⟨ret_i64 HX.out, (Below.refl _ _).alloc (Nat.le_refl _) _⟩
      · have d3 := dec_n h3
        by_cases h4 : s < 1
        · have HX := Lib.hid (HN.out (.inr (.inr (.inr (.inl h4)))))
          have d4 := dec_t h4
          clear h1 h2 h3 h4 f1 f2 t1 t2 s1 s2
          go_enter Try.func25, Try.ntmps25
          go_wp2
          go_ret
          exact ⟨ret_i64 HX.out, (Below.refl _ _).alloc (Nat.le_refl _) _⟩
        · have d4 := dec_n h4
          have w1 : IntKind.i64.wrap (t - f) = t - f := IntWalk.i64_in _ ⟨by omega, by omega⟩
          have m1 : (t - f).tmod s = (t - f) % s := Int.tmod_eq_emod_of_nonneg (by omega)
          have q1 : (t - f).tdiv s = (t - f) / s := Int.tdiv_eq_ediv_of_nonneg (by omega)
          have qb := quo_bd (a := t - f) (b := s) (by omega) (by omega)
          have mb := Int.emod_nonneg (t - f) (show s ≠ 0 by omega)
          have mc := Int.emod_lt_of_pos (t - f) (show 0 < s by omega)
          have w2 : IntKind.i64.wrap ((t - f) % s) = (t - f) % s := IntWalk.i64_in _ ⟨by omega, by omega⟩
          have w3 : IntKind.i64.wrap ((t - f) / s) = (t - f) / s := IntWalk.i64_in _ ⟨by omega, by omega⟩
          have w4 : IntKind.i64.wrap ((t - f) / s + 1) = (t - f) / s + 1 := IntWalk.i64_in _ ⟨by omega, by omega⟩
          have s0 : (s == 0) = false := by rw [beq_eq_false_iff_ne]; omega
          have s3 : s ≠ 0 := by omega
          by_cases h5 : (t - f) % s ≠ 0
          · have HX := Lib.hid (HN.out (.inr (.inr (.inr (.inr h5)))))
            have d5 : ((t - f) % s == 0) = false := by rw [beq_eq_false_iff_ne]; exact h5
            have d6 : ((t - f) % s != 0) = true := by rw [bne_iff_ne]; exact h5
            clear h1 h2 h3 h4 h5 f1 f2 t1 t2 s1 s2 qb mb mc
            go_enter Try.func25, Try.ntmps25
            go_wp2
            go_ret
            exact ⟨ret_i64 HX.out, (Below.refl _ _).alloc (Nat.le_refl _) _⟩
          · have HX := Lib.hid (show (t - f) / s + 1 = (lenN (f, t, s) : Int) by rw [HY.out (by omega)]; omega)
            have d5 : ((t - f) % s == 0) = true := by rw [beq_iff_eq]; omega
            have d6 : ((t - f) % s != 0) = false := by rw [bne_eq_false_iff_eq]; omega
            clear h1 h2 h3 h4 h5 f1 f2 t1 t2 s1 s2 qb mb mc
            go_enter Try.func25, Try.ntmps25
            go_wp2
            go_ret
            exact ⟨ret_i64 HX.out, (Below.refl _ _).alloc (Nat.le_refl _) _⟩
end Go.Proofs.Ytbfndcogieiejaa
