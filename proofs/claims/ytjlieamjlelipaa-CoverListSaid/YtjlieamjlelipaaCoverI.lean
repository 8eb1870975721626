/- Contract of the document's List for one piece (layer 3). -/
import Derived.Test.YtjlieamjlelipaaCoverG
namespace Go.Proofs.Ytjlieamjlelipaa
open Go.RowKit
set_option linter.unusedVariables false

theorem valsOf_no {p : P3} (h : noPiece p) : valsOf p = [] := by unfold valsOf; rw [lenN_no h]; rfl
theorem end_yes (f t s : Int) (m : Nat) (hm : 1 ≤ m) (hf : 0 ≤ f) (ht : t ≤ 9999) (hs : 1 ≤ s) (e : f + ((m : Int) - 1) * s = t) : valsOf (f, t, s) = valsN (f, t, s) m := by
  have hd : t - f = ((m : Int) - 1) * s := by omega
  have h0 : 0 ≤ ((m : Int) - 1) * s := Int.mul_nonneg (by omega) (by omega)
  have hn : ¬ noPiece (f, t, s) := by
    unfold noPiece
    simp only [hd, Int.mul_emod_left]
    omega
  unfold valsOf
  rw [lenN_yes hn]
  simp only [hd]
  rw [Int.mul_ediv_cancel _ (by omega)]
  congr 1
  omega
theorem end_no (f t s : Int) (m : Nat) (hs : 1 ≤ s) (h1 : f + ((m : Int) - 1) * s < t) (h2 : t < f + (m : Int) * s) : noPiece (f, t, s) := by
  unfold noPiece
  refine .inr (.inr (.inr (.inr fun h0 => ?_)))
  simp only [] at h0
  obtain ⟨q, hq⟩ := Int.dvd_of_emod_eq_zero h0
  rw [Int.mul_comm] at hq
  have a1 : ((m : Int) - 1) * s < q * s := by omega
  have a2 : q * s < (m : Int) * s := by omega
  have b1 := Int.lt_of_mul_lt_mul_right a1 (by omega)
  have b2 := Int.lt_of_mul_lt_mul_right a2 (by omega)
  omega
theorem valsN_get (p : P3) (n k : Nat) (h : k < n) : (valsN p n)[k]?.getD 0 = p.1 + (k : Int) * p.2.2 := by simp [valsN, h]
theorem gives_nil {w w' : World} (h : Below w.heap.size w w') : Gives [] w (.returned (.slice none 0 0)) w' := ⟨none, 0, rfl, fun j hj => by simp at hj, h⟩
def GivesZ (zs : List Int) (w : World) (e : Ending) (w' : World) : Prop := Gives zs w e w' ∧ (zs = [] → e = .returned (.slice none 0 0))
theorem givesz_nil {w w' : World} (h : Below w.heap.size w w') : GivesZ [] w (.returned (.slice none 0 0)) w' := ⟨gives_nil h, fun _ => rfl⟩
def RLAt (f t s : Int) (w0 : World) (v i : Value) (wr : World) : Prop := ∃ m : Nat, m ≤ 10000 ∧ i = .int .i64 (f + (m : Int) * s) ∧ OwnI wr w0.heap.size v (valsN (f, t, s) m) ∧ Below w0.heap.size w0 wr ∧ Hid (1 ≤ m → f + ((m : Int) - 1) * s ≤ t)
set_option maxHeartbeats 3200000 in
set_option maxRecDepth 20000 in
theorem rlist_in (f t s : Int) (w : World) (hf : 0 ≤ f) (ht : t ≤ 9999) (hs : 1 ≤ s) (hs2 : s ≤ 9223372036854775807) :
    Calls Try.prog 6 #[.agg #[.int .i64 f, .int .i64 t, .int .i64 s]] w (GivesZ (valsOf (f, t, s)) w) := by
  obtain ⟨i0, hi, hz0, hz1, hz2⟩ := info_parts info_int
  have d1 : decide (f < 0) = false := dec_n (by omega)
  have d2 : decide (9999 < t) = false := dec_n (by omega)
  have d3 : decide (s < 1) = false := dec_n (by omega)
  obtain ⟨W0, hW0⟩ : ∃ W0, w.alloc (.cells #[.int .i64 f, .int .i64 t, .int .i64 s] 27) = W0 := ⟨_, rfl⟩
  have hx : w.heap.size < W0.heap.size := by rw [← hW0]; simp
  have HB0 := Lib.hid (show Below w.heap.size w W0 by rw [← hW0]; exact (Below.refl _ _).alloc (Nat.le_refl _) _)
  have c0 : W0.cell? ⟨w.heap.size, 0, none⟩ = some (.int .i64 f) := by rw [← hW0]; exact cell_new w _ _ 0
  have HC1 := Lib.hid (show W0.cell? ⟨w.heap.size, 1, none⟩ = some (.int .i64 t) by rw [← hW0]; exact cell_new w _ _ 1)
  have HC2 := Lib.hid (show W0.cell? ⟨w.heap.size, 2, none⟩ = some (.int .i64 s) by rw [← hW0]; exact cell_new w _ _ 2)
  have c1 := HC1.out
  have c2 := HC2.out
  go_enter Try.func6, Try.ntmps6
  have HN := Lib.hid (fun (m : Nat) (hm : 1 ≤ m) => end_yes f t s m hm hf ht hs)
  have HO := Lib.hid (fun (m : Nat) => end_no f t s m hs)
  go_wp2_with fail
  try rw [hW0]
  clear hW0 c0 c1 c2 d1 d2 d3
  go_loopw [3, 4] (fun v i wr => RLAt f t s W0 v i wr) (fun _ i _ => (t + 1 - intOf i).toNat)
  case atStart => exact ⟨0, by omega, by simp, OwnI.nil _ _, Below.refl _ _, Lib.hid (fun h => by omega)⟩
  case round =>
    obtain ⟨m, hm, rfl, hown, hb, HL⟩ := hrel
    have HW := Lib.hid hown
    have HB := Lib.hid hb
    have e1 := (hb.cell (p := ⟨w.heap.size, 1, none⟩) hx).trans HC1.out
    have e2 := (hb.cell (p := ⟨w.heap.size, 2, none⟩) hx).trans HC2.out
    have hms : 0 ≤ (m : Int) * s := Int.mul_nonneg (by omega) (by omega)
    have HS := Lib.hid (show f + ((m + 1 : Nat) : Int) * s = f + (m : Int) * s + s by rw [Int.natCast_add, Int.add_mul]; simp; omega)
    have HM := Lib.hid (show f + (m : Int) * s ≤ t → m + 1 ≤ 10000 from fun h => by
      have : (m : Int) * 1 ≤ (m : Int) * s := Int.mul_le_mul_of_nonneg_left hs (by omega)
      omega)
    clear hown hb
    by_cases hlt : f + (m : Int) * s ≤ t
    · have d1 := dec_t hlt
      have hm1 := HM.out hlt
      obtain ⟨x, hxe⟩ : ∃ x, f + (m : Int) * s = x := ⟨_, rfl⟩
      have hx0 : 0 ≤ x := by omega
      rw [hxe] at d1 hlt HS ⊢
      have hX := Lib.hid hxe
      have HXX := Lib.hid hxe
      clear hms hxe
      by_cases hbig : 9999 < s
      · have d2 := dec_t hbig
        go_wp2_with ((at_builtin; refine wpList_append_own _ rfl _ _ 24 rfl W0.heap.size 3 i0 (.int .i64 0) 1 8 Try.underlying24 hi hz0 hz1 hz2 rfl (by decide) _ _ _ rfl (World.ownsRow.alloc HW.out _) ⟨wr.heap.size, 0, none⟩ 1 1 [.int .i64 x] rfl rfl ?nn1 ?nn2 ?nn3 ?nn4 ?nn5 ?_))
        case nn1 =>
          intro j u hj
          cases j with
          | zero => cases hj; exact cell_new _ _ _ 0
          | succ j => cases hj
        case nn2 => simp [Value.oneCell']
        case nn3 => rw [valsN_len]; unfold maxLen; omega
        case nn4 => rw [valsN_len]; omega
        case nn5 => have := HB.out.size; simp; omega
        intro v' w1 hown1 hgrow _
        have HW1 := Lib.hid (show OwnI w1 W0.heap.size v' (valsN (f, t, s) (m + 1)) by rw [valsN_succ]; rw [← hX.out] at hown1; exact OwnI.snoc hown1)
        have HB1 := Lib.hid (Below.grown (HB.out.alloc HB.out.size (.cells #[.int .i64 x] 3)) hgrow (by have := HB.out.size; simp; omega) (own_block HW.out))
        clear hown1 hgrow
        have e1 := (HB1.out.cell (p := ⟨w.heap.size, 1, none⟩) hx).trans HC1.out
        have e2 := (HB1.out.cell (p := ⟨w.heap.size, 2, none⟩) hx).trans HC2.out
        have hl2 : x ≤ t := hlt
        have hl : ∃ l, l = x := ⟨_, rfl⟩
        obtain ⟨l, hl⟩ := hl
        obtain ⟨N, hN⟩ : ∃ N, N = m + 1 := ⟨_, rfl⟩
        have HW2 := Lib.hid (show OwnI w1 W0.heap.size v' (valsN (f, t, s) N) by rw [hN]; exact HW1.out)
        have hN1 : 1 ≤ N := by omega
        have hN2 : N ≤ 10000 := by omega
        have HNm := Lib.hid (show ((N : Nat) : Int) - 1 = (m : Int) by omega)
        have HNk := Lib.hid (show ((N - 1 : Nat) : Int) = (m : Int) by omega)
        have HSN := Lib.hid (show f + ((N : Nat) : Int) * s = x + s by rw [hN]; exact HS.out)
        clear hN hm1
        obtain ⟨A1, c1, hv, hin⟩ := HW2.out.ints
        rw [valsN_len] at hv
        subst hv
        obtain ⟨b1, off1, rfl, _, hcell⟩ := hin (N - 1) (by rw [valsN_len]; omega)
        rw [valsN_get _ _ _ (show N - 1 < N by omega)] at hcell
        have hlv : (f, t, s).1 + ((N - 1 : Nat) : Int) * (f, t, s).2.2 = l := by show f + ((N - 1 : Nat) : Int) * s = l; rw [HNk.out, hl]; exact hX.out
        rw [hlv] at hcell
        have HI := Lib.hid hin
        have HQ := Lib.hid (show Below w.heap.size w w1 from HB0.out.trans (HB1.out.mono (by omega)))
        have z1 : (((N : Nat) : Int) == 0) = false := by rw [beq_eq_false_iff_ne]; omega
        have z2 : IntKind.i64.wrap (((N : Nat) : Int) - 1) = ((N : Nat) : Int) - 1 := IntWalk.i64_in _ ⟨by omega, by omega⟩
        have z3 : (((N : Nat) : Int) - 1).toNat = N - 1 := by omega
        have z4 : (0 : Int) ≤ ((N : Nat) : Int) - 1 := by omega
        have z5 : ((N : Nat) : Int) - 1 < ((N : Nat) : Int) := by omega
        clear hin hlv
        by_cases hend : l = t
        · have HR := Lib.hid (show Gives (valsOf (f, t, s)) w (.returned (.slice (some ⟨b1, off1, none⟩) N c1)) w1 from ⟨_, _, by rw [HN.out N (by omega) (by rw [HNm.out, hX.out, ← hl]; exact hend), valsN_len], by rw [HN.out N (by omega) (by rw [HNm.out, hX.out, ← hl]; exact hend)]; exact HI.out, HQ.out⟩)
          have HE := Lib.hid (show valsOf (f, t, s) ≠ [] from fun h0 => by
            have e0 := HN.out N (by omega) (by rw [HNm.out, hX.out, ← hl]; exact hend)
            rw [h0] at e0
            have e9 := valsN_len (f, t, s) N
            rw [← e0] at e9
            simp at e9
            omega)
          have q1 : (l == t) = true := by rw [beq_iff_eq]; exact hend
          have q2 : (l != t) = false := by rw [bne_eq_false_iff_eq]; exact hend
          clear hend
          go_wp2
          go_quiet (fail)
          go_wp2
          go_ret
          obtain ⟨A9, c9, r1, r2, r3⟩ := HR.out
          exact ⟨⟨A9, c9, r1, r2.quiet (Quiet.of _ _), r3.trans (quiet_bel _ (Quiet.of _ _))⟩, fun h0 => absurd h0 HE.out⟩
        · have HR := Lib.hid (show valsOf (f, t, s) = [] from valsOf_no (HO.out N (by rw [HNm.out, hX.out]; omega) (by rw [HSN.out]; omega)))
          have q1 : (l == t) = false := by rw [beq_eq_false_iff_ne]; exact hend
          have q2 : (l != t) = true := by rw [bne_iff_ne]; exact hend
          clear hend
          go_wp2
          go_quiet (fail)
          go_wp2
          go_ret
          rw [HR.out]
          exact givesz_nil (HQ.out.trans (quiet_bel _ (Quiet.of _ _)))
      · have d2 := dec_n hbig
        go_wp2_with ((at_builtin; refine wpList_append_own _ rfl _ _ 24 rfl W0.heap.size 3 i0 (.int .i64 0) 1 8 Try.underlying24 hi hz0 hz1 hz2 rfl (by decide) _ _ _ rfl (World.ownsRow.alloc HW.out _) ⟨wr.heap.size, 0, none⟩ 1 1 [.int .i64 x] rfl rfl ?nn1 ?nn2 ?nn3 ?nn4 ?nn5 ?_))
        case nn2 => simp [Value.oneCell']
        case nn3 => rw [valsN_len]; unfold maxLen; omega
        case nn4 => rw [valsN_len]; omega
        case nn5 => have := HB.out.size; simp; omega
        intro v' w1 hown1 hgrow _
        have HW1 := Lib.hid (show OwnI w1 W0.heap.size v' (valsN (f, t, s) (m + 1)) by rw [valsN_succ]; rw [← hX.out] at hown1; exact OwnI.snoc hown1)
        have HB1 := Lib.hid (Below.grown (HB.out.alloc HB.out.size (.cells #[.int .i64 x] 3)) hgrow (by have := HB.out.size; simp; omega) (own_block HW.out))
        clear hown1 hgrow
        have e1 := (HB1.out.cell (p := ⟨w.heap.size, 1, none⟩) hx).trans HC1.out
        have e2 := (HB1.out.cell (p := ⟨w.heap.size, 2, none⟩) hx).trans HC2.out
        have w1' : IntKind.i64.wrap (x + s) = x + s := IntWalk.i64_in _ ⟨by omega, by omega⟩
        go_wp2
        go_roundw
        case rel => exact ⟨m + 1, hm1, by rw [HS.out], HW1.out, HB1.out, Lib.hid (fun _ => by rw [show (((m + 1 : Nat) : Int) - 1) = (m : Int) by omega, HXX.out]; exact hlt)⟩
        case measure => simp [intOf]; omega
    · have d1 := dec_n hlt
      by_cases h0 : m = 0
      · subst h0
        have HR := Lib.hid (show valsOf (f, t, s) = [] from valsOf_no (.inr (.inl (by simp at hlt; exact hlt))))
        obtain ⟨A1, c1, hv, hin⟩ := HW.out.ints
        rw [valsN_len] at hv
        subst hv
        have HQ := Lib.hid (show Below w.heap.size w wr from HB0.out.trans (HB.out.mono (by omega)))
        clear hin
        go_wp2
        go_quiet (fail)
        go_wp2
        go_ret
        rw [HR.out]
        exact givesz_nil (HQ.out.trans (quiet_bel _ (Quiet.of _ _)))
      · have hl2 := HL.out (by omega)
        have hl : ∃ l, l = f + ((m : Int) - 1) * s := ⟨_, rfl⟩
        obtain ⟨l, hl⟩ := hl
        have hl3 := hlt
        generalize hxx : f + (m : Int) * s = x at d1 ⊢
        clear hlt
        obtain ⟨A1, c1, hv, hin⟩ := HW.out.ints
        rw [valsN_len] at hv
        subst hv
        obtain ⟨b1, off1, rfl, _, hcell⟩ := hin (m - 1) (by rw [valsN_len]; omega)
        rw [valsN_get _ _ _ (show m - 1 < m by omega)] at hcell
        have hlv : (f, t, s).1 + ((m - 1 : Nat) : Int) * (f, t, s).2.2 = l := by rw [hl]; show f + ((m - 1 : Nat) : Int) * s = _; rw [show ((m - 1 : Nat) : Int) = (m : Int) - 1 by omega]
        rw [hlv] at hcell
        have HI := Lib.hid hin
        have HQ := Lib.hid (show Below w.heap.size w wr from HB0.out.trans (HB.out.mono (by omega)))
        have z1 : (((m : Nat) : Int) == 0) = false := by rw [beq_eq_false_iff_ne]; omega
        have z2 : IntKind.i64.wrap (((m : Nat) : Int) - 1) = ((m : Nat) : Int) - 1 := IntWalk.i64_in _ ⟨by omega, by omega⟩
        have z3 : (((m : Nat) : Int) - 1).toNat = m - 1 := by omega
        have z4 : (0 : Int) ≤ ((m : Nat) : Int) - 1 := by omega
        have z5 : ((m : Nat) : Int) - 1 < ((m : Nat) : Int) := by omega
        clear hin hlv
        by_cases hend : l = t
        · have HR := Lib.hid (show Gives (valsOf (f, t, s)) w (.returned (.slice (some ⟨b1, off1, none⟩) m c1)) wr from ⟨_, _, by rw [HN.out m (by omega) (by rw [← hl]; exact hend), valsN_len], by rw [HN.out m (by omega) (by rw [← hl]; exact hend)]; exact HI.out, HQ.out⟩)
          have HE := Lib.hid (show valsOf (f, t, s) ≠ [] from fun h0 => by
            have e0 := HN.out m (by omega) (by rw [← hl]; exact hend)
            rw [h0] at e0
            have e9 := valsN_len (f, t, s) m
            rw [← e0] at e9
            simp at e9
            omega)
          have q1 : (l == t) = true := by rw [beq_iff_eq]; exact hend
          have q2 : (l != t) = false := by rw [bne_eq_false_iff_eq]; exact hend
          clear hend
          go_wp2
          go_quiet (fail)
          go_wp2
          go_ret
          obtain ⟨A9, c9, r1, r2, r3⟩ := HR.out
          exact ⟨⟨A9, c9, r1, r2.quiet (Quiet.of _ _), r3.trans (quiet_bel _ (Quiet.of _ _))⟩, fun h0 => absurd h0 HE.out⟩
        · have HR := Lib.hid (show valsOf (f, t, s) = [] from valsOf_no (HO.out m (by rw [← hl]; omega) (by omega)))
          have q1 : (l == t) = false := by rw [beq_eq_false_iff_ne]; exact hend
          have q2 : (l != t) = true := by rw [bne_iff_ne]; exact hend
          clear hend
          go_wp2
          go_quiet (fail)
          go_wp2
          go_ret
          rw [HR.out]
          exact givesz_nil (HQ.out.trans (quiet_bel _ (Quiet.of _ _)))
set_option maxHeartbeats 800000 in
theorem rlist_any (f t s : Int) (w : World) (hf : I64 f) (ht : I64 t) (hs : I64 s) :
    Calls Try.prog 6 #[.agg #[.int .i64 f, .int .i64 t, .int .i64 s]] w (GivesZ (valsOf (f, t, s)) w) := by
  by_cases h1 : f < 0
  · have HX := Lib.hid (valsOf_no (p := (f, t, s)) (.inl h1))
    have d1 := dec_t h1
    clear h1 hf ht hs
    go_enter Try.func6, Try.ntmps6
    go_wp2
    go_ret
    rw [HX.out]
    exact givesz_nil ((Below.refl _ _).alloc (Nat.le_refl _) _)
  · have d1 := dec_n h1
    by_cases h2 : 9999 < t
    · have HX := Lib.hid (valsOf_no (p := (f, t, s)) (.inr (.inr (.inl h2))))
      have d2 := dec_t h2
      clear h1 h2 hf ht hs
      go_enter Try.func6, Try.ntmps6
      go_wp2
      go_ret
      rw [HX.out]
      exact givesz_nil ((Below.refl _ _).alloc (Nat.le_refl _) _)
    · have d2 := dec_n h2
      by_cases h3 : s < 1
      · have HX := Lib.hid (valsOf_no (p := (f, t, s)) (.inr (.inr (.inr (.inl h3)))))
        have d3 := dec_t h3
        clear h1 h2 h3 hf ht hs
        go_enter Try.func6, Try.ntmps6
        go_wp2
        go_ret
        rw [HX.out]
        exact givesz_nil ((Below.refl _ _).alloc (Nat.le_refl _) _)
      · exact rlist_in f t s w (by omega) (by omega) (by omega) hs.2
end Go.Proofs.Ytjlieamjlelipaa
