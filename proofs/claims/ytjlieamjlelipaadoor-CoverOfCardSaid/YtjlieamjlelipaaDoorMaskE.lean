/- Contract of the document's Span (layer 2). -/
import Derived.Test.YtjlieamjlelipaaDoorMaskD
import Derived.Deep.QuietTactic
import Derived.BigQuiet
namespace Go.Proofs.YtjlieamjlelipaaDoor
open Go.RowKit
set_option linter.unusedVariables false

theorem mk_nums (p : Nat → Bool) : mk (inL (numsP p 64)) = mk p := by
  apply mk_congr
  intro i hi
  unfold inL
  cases h : p i
  · apply decide_eq_false
    intro hm
    obtain ⟨j, _, h2, h3⟩ := mem_numsP.1 hm
    have : i = j := by omega
    subst this
    rw [h] at h2; cases h2
  · exact decide_eq_true (mem_numsP.2 ⟨i, hi, h, rfl⟩)
theorem OwnI.draws {w : World} {base : Nat} {v : Value} {zs : List Int} (h : OwnI w base v zs) (n : Nat) : OwnI (w.drewN n) base v zs := h
theorem tmod_neg (a b : Int) (hb : 0 < b) (h : a.tmod b < 0) : a.tmod b + b = a % b ∧ -b < a.tmod b := by
  have h1 := Int.mul_tdiv_add_tmod a b
  have h2 := Int.lt_tmod_of_pos a hb
  have h3 : a / b = a.tdiv b - 1 ∧ a % b = a.tmod b + b := by
    rw [Int.ediv_emod_unique hb]
    refine ⟨?_, by omega, by omega⟩
    rw [Int.mul_sub]; omega
  exact ⟨h3.2.symm, h2⟩
theorem tmod_pos (a b : Int) (hb : 0 < b) (h : 0 ≤ a.tmod b) : a.tmod b = a % b ∧ a.tmod b < b := by
  have h1 := Int.mul_tdiv_add_tmod a b
  have h2 := Int.tmod_lt_of_pos a hb
  have h3 : a / b = a.tdiv b ∧ a % b = a.tmod b := by
    rw [Int.ediv_emod_unique hb]
    exact ⟨by omega, by omega, by omega⟩
  exact ⟨h3.2.symm, h2⟩
theorem same_mod (k f s : Int) : (k % s = f % s) ↔ (k - f) % s = 0 := Int.emod_eq_emod_iff_emod_sub_eq_zero
theorem inS_in {f t s : Int} {k : Nat} (hs : 0 < s) (h1 : f ≤ k) (h2 : (k : Int) ≤ t) (h3 : (k : Int) % s = f % s) : inS f t s k = true := by
  unfold inS
  exact decide_eq_true ⟨by omega, h1, h2, (same_mod _ _ _).1 h3⟩
theorem inS_out {f t s : Int} {k : Nat} (h : ¬ f ≤ k ∨ ¬ (k : Int) ≤ t ∨ (k : Int) % s ≠ f % s) : inS f t s k = false := by
  unfold inS
  apply decide_eq_false
  rintro ⟨_, h1, h2, h3⟩
  rcases h with h | h | h
  · exact h h1
  · exact h h2
  · exact h ((same_mod _ _ _).2 h3)
def SpanAt (p : Nat → Bool) (w : World) (v i : Value) (wr : World) : Prop := ∃ k : Nat, k ≤ 64 ∧ i = .int .i64 k ∧ OwnI wr w.heap.size v (numsP p k) ∧ Below w.heap.size w wr
theorem rspan_none (f t s : Int) (w : World) (hs : s ≤ 0) : Calls Tryd.prog 17 #[.int .i64 f, .int .i64 t, .int .i64 s] w fun e w' => e = .returned (.int .u64 (mk (inS f t s) : Nat)) ∧ Below w.heap.size w w' := by
  have d := dec_n (show ¬ 0 < s by omega)
  have k0 := rof_any none 0 [] w (by simp) (fun j hj => by simp at hj)
  have e0 : mk (inS f t s) = mk (inL []) := mk_congr fun i _ => by unfold inS inL; rw [dec_n (by omega), dec_n (by simp)]
  rw [e0]
  clear hs e0
  go_enter Tryd.func17, Tryd.ntmps17
  go_wp2
  refine wp_loop_rounds 1 ?_
  rw [rounds_succ]
  go_wp2_with fail
  refine k0.mono ?_
  rintro e w1 ⟨rfl, rfl⟩
  go_wp2
  go_ret
  exact ⟨rfl, Below.refl _ _⟩
set_option maxHeartbeats 1600000 in
set_option maxRecDepth 20000 in
theorem rspan_some (f t s : Int) (w : World) (hs : 0 < s) (hf : I64 f) (hsb : I64 s) : Calls Tryd.prog 17 #[.int .i64 f, .int .i64 t, .int .i64 s] w fun e w' => e = .returned (.int .u64 (mk (inS f t s) : Nat)) ∧ Below w.heap.size w w' := by
  obtain ⟨i0, hi, hz0, hz1, hz2⟩ := info_parts info_int
  have HP := Lib.hid (mk_nums (inS f t s))
  have HN := Lib.hid (tmod_neg f s hs)
  have HQ := Lib.hid (tmod_pos f s hs)
  obtain ⟨T, hT⟩ : ∃ T, f.tmod s = T := ⟨_, rfl⟩
  have HT := Lib.hid hT
  have ds := dec_t hs
  have hsl := hsb.2
  have hs0 : ¬ s = 0 := by omega
  have hB0 : 0 ≤ f % s := Int.emod_nonneg _ (by omega)
  have hB1 : f % s < s := Int.emod_lt_of_pos _ hs
  obtain ⟨B, hB⟩ : ∃ B, f % s = B := ⟨_, rfl⟩
  rw [hB] at hB0 hB1
  have HB0 := Lib.hid hB
  clear hB hf hsb
  go_enter Tryd.func17, Tryd.ntmps17
  clear hT
  go_wp2
  go_loopw [7, 8] (fun v i wr => SpanAt (inS f t s) w v i wr) (fun _ i _ => 64 - (intOf i).toNat)
  case atStart => exact ⟨0, by omega, rfl, OwnI.nil _ _, Below.refl _ _⟩
  case round =>
    obtain ⟨k, hk, rfl, hown, hb⟩ := hrel
    have HB := Lib.hid hb
    have HO := Lib.hid hown
    clear hb hown
    by_cases hlt : k < 64
    · have dk := dec_t (show (k : Int) < 64 by omega)
      have hn := numsP_le (inS f t s) k
      obtain ⟨K, hK⟩ : ∃ K, (k : Int).tmod s = K := ⟨_, rfl⟩
      have hKe : K = (k : Int) % s := by rw [← hK]; exact Int.tmod_eq_emod_of_nonneg (by omega)
      have HK := Lib.hid hKe
      have k0 : 0 ≤ K := by rw [hKe]; exact Int.emod_nonneg _ (by omega)
      have k1 : K < s := by rw [hKe]; exact Int.emod_lt_of_pos _ hs
      clear hKe
      have hT := HT.out
      by_cases hneg : T < 0
      · have dT := dec_t hneg
        have hl := (HN.out (by rw [hT]; exact hneg)).2
        have he := (HN.out (by rw [hT]; exact hneg)).1
        rw [hT] at hl he
        have he2 : T + s = B := he.trans HB0.out
        have HW := Lib.hid he2
        clear he he2
        by_cases h1 : f ≤ (k : Int)
        · have e1 := dec_t h1
          by_cases h2 : (k : Int) ≤ t
          · have e2 := dec_t h2
            by_cases h3 : K = B
            · have HS := Lib.hid (numsP_yes (inS f t s) k (inS_in hs h1 h2 (by rw [← HK.out, HB0.out]; exact h3)))
              subst h3
              have hw := HW.out
              clear h1 h2
              go_wp2
              go_quiet (fail)
              go_wp2_with ((at_builtin; refine wpList_append_own _ rfl _ _ 22 rfl w.heap.size 3 i0 (.int .i64 0) 1 8 Tryd.underlying22 hi hz0 hz1 hz2 rfl (by decide) _ _ _ rfl (World.ownsRow.alloc (OwnI.draws HO.out _) _) ⟨wr.heap.size, 0, none⟩ 1 1 [.int .i64 (k : Int)] rfl rfl ?c1 ?c2 ?c3 ?c4 ?c5 ?_))
              case c1 =>
                intro j u hj
                cases j with
                | zero => cases hj; exact cell_new _ _ _ 0
                | succ j => cases hj
              case c2 => simp [Value.oneCell']
              case c3 => unfold maxLen; omega
              case c4 => omega
              case c5 => have := HB.out.size; simp; omega
              intro v' w1 hown1 hgrow _
              have HO1 := Lib.hid (OwnI.snoc hown1)
              have HB1 := Lib.hid (Below.grown ((HB.out.trans (below_draws _ _ _)).alloc HB.out.size (.cells #[.int .i64 (k : Int)] 3)) hgrow (by have := HB.out.size; simp; omega) (own_block HO.out))
              clear hown1 hgrow
              go_wp2
              go_roundw
              case rel => exact ⟨k + 1, by omega, by go_num, by rw [HS.out]; exact HO1.out, HB1.out⟩
              case measure => simp [intOf]; omega
            · have HS := Lib.hid (numsP_no (inS f t s) k (inS_out (.inr (.inr (by rw [← HK.out, HB0.out]; exact h3)))))
              have e3 : (K == B) = false := by rw [beq_eq_false_iff_ne]; exact h3
              have hw := HW.out
              clear h1 h2 h3
              go_wp2
              go_quiet (fail)
              go_wp2
              go_roundw
              case rel => exact ⟨k + 1, by omega, by go_num, by rw [HS.out]; exact HO.out, (HB.out.trans (below_draws _ _ _))⟩
              case measure => simp [intOf]; omega
          · have e2 := dec_n h2
            have HS := Lib.hid (numsP_no (inS f t s) k (inS_out (.inr (.inl h2))))
            have hw := HW.out
            clear h1 h2
            go_wp2
            go_quiet (fail)
            go_wp2
            go_roundw
            case rel => exact ⟨k + 1, by omega, by go_num, by rw [HS.out]; exact HO.out, (HB.out.trans (below_draws _ _ _))⟩
            case measure => simp [intOf]; omega
        · have e1 := dec_n h1
          have HS := Lib.hid (numsP_no (inS f t s) k (inS_out (.inl h1)))
          have hw := HW.out
          clear h1
          go_wp2
          go_quiet (fail)
          go_wp2
          go_roundw
          case rel => exact ⟨k + 1, by omega, by go_num, by rw [HS.out]; exact HO.out, (HB.out.trans (below_draws _ _ _))⟩
          case measure => simp [intOf]; omega
      · have dT := dec_n hneg
        have he := (HQ.out (by rw [hT]; omega)).1
        have hl := (HQ.out (by rw [hT]; omega)).2
        rw [hT] at he hl
        have he2 : T = B := he.trans HB0.out
        have HW := Lib.hid he2
        clear he he2
        by_cases h1 : f ≤ (k : Int)
        · have e1 := dec_t h1
          by_cases h2 : (k : Int) ≤ t
          · have e2 := dec_t h2
            by_cases h3 : K = B
            · have HS := Lib.hid (numsP_yes (inS f t s) k (inS_in hs h1 h2 (by rw [← HK.out, HB0.out]; exact h3)))
              subst h3
              have hw := HW.out
              clear h1 h2
              go_wp2
              go_quiet (fail)
              go_wp2_with ((at_builtin; refine wpList_append_own _ rfl _ _ 22 rfl w.heap.size 3 i0 (.int .i64 0) 1 8 Tryd.underlying22 hi hz0 hz1 hz2 rfl (by decide) _ _ _ rfl (World.ownsRow.alloc (OwnI.draws HO.out _) _) ⟨wr.heap.size, 0, none⟩ 1 1 [.int .i64 (k : Int)] rfl rfl ?c1 ?c2 ?c3 ?c4 ?c5 ?_))
              case c1 =>
                intro j u hj
                cases j with
                | zero => cases hj; exact cell_new _ _ _ 0
                | succ j => cases hj
              case c2 => simp [Value.oneCell']
              case c3 => unfold maxLen; omega
              case c4 => omega
              case c5 => have := HB.out.size; simp; omega
              intro v' w1 hown1 hgrow _
              have HO1 := Lib.hid (OwnI.snoc hown1)
              have HB1 := Lib.hid (Below.grown ((HB.out.trans (below_draws _ _ _)).alloc HB.out.size (.cells #[.int .i64 (k : Int)] 3)) hgrow (by have := HB.out.size; simp; omega) (own_block HO.out))
              clear hown1 hgrow
              go_wp2
              go_roundw
              case rel => exact ⟨k + 1, by omega, by go_num, by rw [HS.out]; exact HO1.out, HB1.out⟩
              case measure => simp [intOf]; omega
            · have HS := Lib.hid (numsP_no (inS f t s) k (inS_out (.inr (.inr (by rw [← HK.out, HB0.out]; exact h3)))))
              have e3 : (K == B) = false := by rw [beq_eq_false_iff_ne]; exact h3
              have hw := HW.out
              clear h1 h2 h3
              go_wp2
              go_quiet (fail)
              go_wp2
              go_roundw
              case rel => exact ⟨k + 1, by omega, by go_num, by rw [HS.out]; exact HO.out, (HB.out.trans (below_draws _ _ _))⟩
              case measure => simp [intOf]; omega
          · have e2 := dec_n h2
            have HS := Lib.hid (numsP_no (inS f t s) k (inS_out (.inr (.inl h2))))
            have hw := HW.out
            clear h1 h2
            go_wp2
            go_quiet (fail)
            go_wp2
            go_roundw
            case rel => exact ⟨k + 1, by omega, by go_num, by rw [HS.out]; exact HO.out, (HB.out.trans (below_draws _ _ _))⟩
            case measure => simp [intOf]; omega
        · have e1 := dec_n h1
          have HS := Lib.hid (numsP_no (inS f t s) k (inS_out (.inl h1)))
          have hw := HW.out
          clear h1
          go_wp2
          go_quiet (fail)
          go_wp2
          go_roundw
          case rel => exact ⟨k + 1, by omega, by go_num, by rw [HS.out]; exact HO.out, (HB.out.trans (below_draws _ _ _))⟩
          case measure => simp [intOf]; omega
    · obtain rfl : k = 64 := by omega
      obtain ⟨A, c, rfl, hin⟩ := HO.out.ints
      have kk := rof_any A c (numsP (inS f t s) 64) wr (by have := numsP_le (inS f t s) 64; omega) hin
      rw [HP.out] at kk
      clear hin hlt
      go_wp2_with fail
      refine kk.mono ?_
      rintro e w' ⟨rfl, rfl⟩
      go_wp2
      go_ret
      exact ⟨rfl, HB.out⟩
theorem rspan_any (f t s : Int) (w : World) (hf : I64 f) (hs : I64 s) : Calls Tryd.prog 17 #[.int .i64 f, .int .i64 t, .int .i64 s] w fun e w' => e = .returned (.int .u64 (mk (inS f t s) : Nat)) ∧ Below w.heap.size w w' := by
  by_cases h : 0 < s
  · exact rspan_some f t s w h hf hs
  · exact rspan_none f t s w (by omega)
end Go.Proofs.YtjlieamjlelipaaDoor
