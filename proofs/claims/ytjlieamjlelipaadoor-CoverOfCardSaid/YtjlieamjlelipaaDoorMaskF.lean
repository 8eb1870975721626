/- Contract of mask.Span, the walk of lives of layer 2, and of MaskSpans. -/
import Derived.Test.YtjlieamjlelipaaDoorMaskE
import Derived.Test.YtjlieamjlelipaaDoorOpen
namespace Go.Proofs.YtjlieamjlelipaaDoor
open Go.RowKit
set_option linter.unusedVariables false

theorem inS_iff (f t s : Int) (i : Nat) : inS f t s i = true ↔ (1 ≤ s ∧ f ≤ i ∧ (i : Int) ≤ t ∧ ((i : Int) - f) % s = 0) := by unfold inS; simp
/-- the numbers of a span below another one -/
def upto (f t s n : Int) (i : Nat) : Bool := inS f t s i && decide ((i : Int) < n)
theorem upto_end {f t s n : Int} (h : 64 ≤ n ∨ t < n) : mk (upto f t s n) = mk (inS f t s) := by
  apply mk_congr
  intro i hi
  unfold upto
  cases hs : inS f t s i
  · rfl
  · have h2 := (inS_iff f t s i).1 hs
    rw [dec_t (show (i : Int) < n by omega)]; rfl
theorem mod_step {n f s i : Int} (hs : 0 < s) (h1 : (n - f) % s = 0) (h2 : (i - f) % s = 0) (h3 : n ≤ i) (h4 : i < n + s) : i = n := by
  have e : (i - n) % s = 0 := by
    have : i - n = (i - f) - (n - f) := by omega
    rw [this]
    exact Int.emod_eq_zero_of_dvd (Int.dvd_sub (Int.dvd_of_emod_eq_zero h2) (Int.dvd_of_emod_eq_zero h1))
  rw [Int.emod_eq_of_lt (by omega) (by omega)] at e
  omega
theorem upto_step {f t s : Int} {j : Nat} (hs : 0 < s) (hf : f ≤ j) (ht : (j : Int) ≤ t) (hm : ((j : Int) - f) % s = 0) : mk (fun i => upto f t s j i || decide (i = j)) = mk (upto f t s (j + s)) := by
  apply mk_congr
  intro i _
  unfold upto
  cases h : inS f t s i
  · have : i ≠ j := by
      intro e
      subst e
      have := (inS_iff f t s i).2 ⟨by omega, hf, ht, hm⟩
      rw [h] at this; cases this
    rw [dec_n this]; rfl
  · have h2 := (inS_iff f t s i).1 h
    by_cases c : (i : Int) < j
    · rw [dec_t c, dec_t (show (i : Int) < j + s by omega)]; rfl
    · rw [dec_n c]
      by_cases c2 : (i : Int) < j + s
      · have := mod_step hs hm h2.2.2.2 (by omega) c2
        rw [dec_t (show i = j by omega), dec_t c2]; rfl
      · rw [dec_n (show ¬ i = j by omega), dec_n c2]; rfl
theorem upto_start (f t s g : Int) (hs : 0 < s) (hg : f ≤ g) (h : (g - f) % s = 0) (h2 : f = g ∨ (0 ≤ g ∧ g < s ∧ f < 0)) : mk (upto f t s g) = 0 := by
  rw [← mk_none]
  apply mk_congr
  intro i _
  unfold upto
  cases hi : inS f t s i
  · rfl
  · have h3 := (inS_iff f t s i).1 hi
    rw [dec_n]; · rfl
    intro hlt
    rcases h2 with h2 | ⟨a, b, c⟩
    · omega
    · have e : (g - i) % s = 0 := by
        have : g - (i : Int) = (g - f) - ((i : Int) - f) := by omega
        rw [this]
        exact Int.emod_eq_zero_of_dvd (Int.dvd_sub (Int.dvd_of_emod_eq_zero h) (Int.dvd_of_emod_eq_zero h3.2.2.2))
      rw [Int.emod_eq_of_lt (by omega) (by omega)] at e
      omega
def SpanRel (f t s : Int) (m i : Value) : Prop := ∃ n : Int, 0 ≤ n ∧ n ≤ 9223372036854775807 ∧ i = .int .i64 n ∧ m = .int .u64 (mk (upto f t s n) : Nat) ∧ Hid ((n - f) % s = 0 ∧ f ≤ n)
theorem mod_back (f s : Int) : (f % s - f) % s = 0 := by
  have e : f % s - f = s * (-(f / s)) := by
    have := Int.emod_add_mul_ediv f s
    rw [Int.mul_neg]; omega
  rw [e, Int.mul_emod_right]
theorem span_none (f t s : Int) (w : World) (hs : s ≤ 0) : Calls Tryd.prog 16 #[.int .i64 f, .int .i64 t, .int .i64 s] w fun e w' => e = .returned (.int .u64 (mk (inS f t s) : Nat)) ∧ w = w' := by
  have d := dec_t (show s < 1 by omega)
  have e0 : mk (inS f t s) = 0 := by rw [← mk_none]; exact mk_congr fun i _ => by unfold inS; rw [dec_n (by omega)]
  rw [e0]
  clear hs e0
  go_enter Tryd.func16, Tryd.ntmps16
  go_wp2
  go_ret
  exact ⟨rfl, rfl⟩
set_option maxHeartbeats 1600000 in
set_option maxRecDepth 20000 in
theorem span_pos (f t s : Int) (w : World) (hs : 0 < s) (hsl : s ≤ 9223372036854775807) (hf0 : 0 ≤ f) (hf1 : f ≤ 9223372036854775807) : Calls Tryd.prog 16 #[.int .i64 f, .int .i64 t, .int .i64 s] w fun e w' => e = .returned (.int .u64 (mk (inS f t s) : Nat)) ∧ w = w' := by
  have d := dec_n (show ¬ s < 1 by omega)
  have df := dec_n (show ¬ f < 0 by omega)
  have HS0 := Lib.hid (upto_start f t s f hs (by omega) (by rw [Int.sub_self]; rfl) (.inl rfl))
  have HG := Lib.hid (show (f - f) % s = 0 ∧ f ≤ f from ⟨by rw [Int.sub_self]; rfl, Int.le_refl _⟩)
  go_enter Tryd.func16, Tryd.ntmps16
  go_wp2
  go_loop [7, 8] (fun m i => SpanRel f t s m i) (fun _ i => (64 - intOf i).toNat)
  case atStart => exact ⟨f, hf0, hf1, rfl, by rw [HS0.out]; rfl, HG.out⟩
  case round =>
    obtain ⟨n, hn0, hn1, rfl, rfl, HR⟩ := hrel
    by_cases h64 : n < 64
    · have d64 := dec_t h64
      by_cases hnt : n ≤ t
      · have dt := dec_t hnt
        obtain ⟨j, rfl⟩ := Int.eq_ofNat_of_zero_le hn0
        have HO := Lib.hid (or_put (upto f t s j) j (by omega))
        have HST := Lib.hid (upto_step hs HR.out.2 hnt HR.out.1)
        generalize hM : mk (upto f t s j) = M at HO ⊢
        clear hM
        have i1 : (j : Int) < 64 := by omega
        by_cases hbig : 64 ≤ s
        · have db := dec_t hbig
          have HE := Lib.hid (upto_end (f := f) (t := t) (s := s) (n := j + s) (.inl (by omega)))
          clear hn1 hnt hsl
          go_wp2
          go_ret
          exact ⟨by rw [← HE.out, ← HST.out, ← HO.out]; rfl, rfl⟩
        · have db := dec_n hbig
          have HN2 := Lib.hid (show ((j : Int) + s - f) % s = 0 ∧ f ≤ j + s by
            refine ⟨?_, by have := HR.out.2; omega⟩
            rw [show (j : Int) + s - f = ((j : Int) - f) + s by omega, Int.add_emod_right]
            exact HR.out.1)
          have s64 : s < 64 := by omega
          clear hn1 hnt hsl
          go_wp2
          go_round
          case rel => exact ⟨(j : Int) + s, by omega, by omega, rfl, by rw [← HST.out, ← HO.out], HN2⟩
          case measure => simp [intOf]; omega
      · have dt := dec_n hnt
        have HE := Lib.hid (upto_end (f := f) (t := t) (s := s) (n := n) (.inr (by omega)))
        clear hn1
        go_wp2
        go_ret
        exact ⟨by rw [← HE.out]; rfl, rfl⟩
    · have d64 := dec_n h64
      have HE := Lib.hid (upto_end (f := f) (t := t) (s := s) (n := n) (.inl (by omega)))
      clear hn1
      go_wp2
      go_ret
      exact ⟨by rw [← HE.out]; rfl, rfl⟩
set_option maxHeartbeats 1600000 in
set_option maxRecDepth 20000 in
theorem span_neg (f t s : Int) (w : World) (hs : 0 < s) (hsl : s ≤ 9223372036854775807) (hf0 : f < 0) (hf1 : -9223372036854775808 ≤ f) : Calls Tryd.prog 16 #[.int .i64 f, .int .i64 t, .int .i64 s] w fun e w' => e = .returned (.int .u64 (mk (inS f t s) : Nat)) ∧ w = w' := by
  have d := dec_n (show ¬ s < 1 by omega)
  have df := dec_t hf0
  have hB0 : 0 ≤ f % s := Int.emod_nonneg _ (by omega)
  have hB1 : f % s < s := Int.emod_lt_of_pos _ hs
  have HS0 := Lib.hid (upto_start f t s (f % s) hs (by omega) (mod_back f s) (.inr ⟨hB0, hB1, hf0⟩))
  have HG := Lib.hid (show (f % s - f) % s = 0 ∧ f ≤ f % s from ⟨mod_back f s, by omega⟩)
  obtain ⟨T, hT⟩ : ∃ T, f.tmod s = T := ⟨_, rfl⟩
  have hs0 : ¬ s = 0 := by omega
  by_cases hneg : T < 0
  · have hn := tmod_neg f s hs (by rw [hT]; exact hneg)
    rw [hT] at hn
    have dT := dec_t hneg
    have hl := hn.2
    have he2 : T + s = f % s := hn.1
    obtain ⟨g, hg⟩ : ∃ g, f % s = g := ⟨_, rfl⟩
    rw [hg] at he2 hB0 hB1 HS0 HG
    have hg1 : g ≤ 9223372036854775807 := by omega
    have hg0 := hB0
    clear hn hg hf1
    go_enter Tryd.func16, Tryd.ntmps16
    go_wp2
    clear hT he2 hl hneg dT hs0 hf0 df hB0 hB1
    go_loop [7, 8] (fun m i => SpanRel f t s m i) (fun _ i => (64 - intOf i).toNat)
    case atStart => exact ⟨g, hg0, hg1, rfl, by rw [HS0.out]; rfl, HG.out⟩
    case round =>
      obtain ⟨n, hn0, hn1, rfl, rfl, HR⟩ := hrel
      by_cases h64 : n < 64
      · have d64 := dec_t h64
        by_cases hnt : n ≤ t
        · have dt := dec_t hnt
          obtain ⟨j, rfl⟩ := Int.eq_ofNat_of_zero_le hn0
          have HO := Lib.hid (or_put (upto f t s j) j (by omega))
          have HST := Lib.hid (upto_step hs HR.out.2 hnt HR.out.1)
          generalize hM : mk (upto f t s j) = M at HO ⊢
          clear hM
          have i1 : (j : Int) < 64 := by omega
          by_cases hbig : 64 ≤ s
          · have db := dec_t hbig
            have HE := Lib.hid (upto_end (f := f) (t := t) (s := s) (n := j + s) (.inl (by omega)))
            clear hn1 hnt hsl
            go_wp2
            go_ret
            exact ⟨by rw [← HE.out, ← HST.out, ← HO.out]; rfl, rfl⟩
          · have db := dec_n hbig
            have HN2 := Lib.hid (show ((j : Int) + s - f) % s = 0 ∧ f ≤ j + s by
              refine ⟨?_, by have := HR.out.2; omega⟩
              rw [show (j : Int) + s - f = ((j : Int) - f) + s by omega, Int.add_emod_right]
              exact HR.out.1)
            have s64 : s < 64 := by omega
            clear hn1 hnt hsl
            go_wp2
            go_round
            case rel => exact ⟨(j : Int) + s, by omega, by omega, rfl, by rw [← HST.out, ← HO.out], HN2⟩
            case measure => simp [intOf]; omega
        · have dt := dec_n hnt
          have HE := Lib.hid (upto_end (f := f) (t := t) (s := s) (n := n) (.inr (by omega)))
          clear hn1
          go_wp2
          go_ret
          exact ⟨by rw [← HE.out]; rfl, rfl⟩
      · have d64 := dec_n h64
        have HE := Lib.hid (upto_end (f := f) (t := t) (s := s) (n := n) (.inl (by omega)))
        clear hn1
        go_wp2
        go_ret
        exact ⟨by rw [← HE.out]; rfl, rfl⟩
  · have hn := tmod_pos f s hs (by rw [hT]; omega)
    rw [hT] at hn
    have dT := dec_n hneg
    have he2 : T = f % s := hn.1
    obtain ⟨g, hg⟩ : ∃ g, f % s = g := ⟨_, rfl⟩
    rw [hg] at he2 hB0 hB1 HS0 HG
    subst he2
    have hg1 : T ≤ 9223372036854775807 := by omega
    have hg0 := hB0
    clear hn hg hf1
    go_enter Tryd.func16, Tryd.ntmps16
    go_wp2
    clear hT hneg dT hs0 hf0 df hB0 hB1
    go_loop [7, 8] (fun m i => SpanRel f t s m i) (fun _ i => (64 - intOf i).toNat)
    case atStart => exact ⟨T, hg0, hg1, rfl, by rw [HS0.out]; rfl, HG.out⟩
    case round =>
      obtain ⟨n, hn0, hn1, rfl, rfl, HR⟩ := hrel
      by_cases h64 : n < 64
      · have d64 := dec_t h64
        by_cases hnt : n ≤ t
        · have dt := dec_t hnt
          obtain ⟨j, rfl⟩ := Int.eq_ofNat_of_zero_le hn0
          have HO := Lib.hid (or_put (upto f t s j) j (by omega))
          have HST := Lib.hid (upto_step hs HR.out.2 hnt HR.out.1)
          generalize hM : mk (upto f t s j) = M at HO ⊢
          clear hM
          have i1 : (j : Int) < 64 := by omega
          by_cases hbig : 64 ≤ s
          · have db := dec_t hbig
            have HE := Lib.hid (upto_end (f := f) (t := t) (s := s) (n := j + s) (.inl (by omega)))
            clear hn1 hnt hsl
            go_wp2
            go_ret
            exact ⟨by rw [← HE.out, ← HST.out, ← HO.out]; rfl, rfl⟩
          · have db := dec_n hbig
            have HN2 := Lib.hid (show ((j : Int) + s - f) % s = 0 ∧ f ≤ j + s by
              refine ⟨?_, by have := HR.out.2; omega⟩
              rw [show (j : Int) + s - f = ((j : Int) - f) + s by omega, Int.add_emod_right]
              exact HR.out.1)
            have s64 : s < 64 := by omega
            clear hn1 hnt hsl
            go_wp2
            go_round
            case rel => exact ⟨(j : Int) + s, by omega, by omega, rfl, by rw [← HST.out, ← HO.out], HN2⟩
            case measure => simp [intOf]; omega
        · have dt := dec_n hnt
          have HE := Lib.hid (upto_end (f := f) (t := t) (s := s) (n := n) (.inr (by omega)))
          clear hn1
          go_wp2
          go_ret
          exact ⟨by rw [← HE.out]; rfl, rfl⟩
      · have d64 := dec_n h64
        have HE := Lib.hid (upto_end (f := f) (t := t) (s := s) (n := n) (.inl (by omega)))
        clear hn1
        go_wp2
        go_ret
        exact ⟨by rw [← HE.out]; rfl, rfl⟩
theorem span_any (f t s : Int) (w : World) (hf : I64 f) (hs : I64 s) : Calls Tryd.prog 16 #[.int .i64 f, .int .i64 t, .int .i64 s] w fun e w' => e = .returned (.int .u64 (mk (inS f t s) : Nat)) ∧ w = w' := by
  by_cases h : 0 < s
  · by_cases h2 : 0 ≤ f
    · exact span_pos f t s w h hs.2 h2 hf.2
    · exact span_neg f t s w h hs.2 (by omega) hf.1
  · exact span_none f t s w (by omega)
end Go.Proofs.YtjlieamjlelipaaDoor
