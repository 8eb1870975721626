/- The numbers of a mask one by one; the contract of the document's Held (layer 7). -/
import Derived.Test.YtjpdfbljhbgbcaaDoorWalk07O
namespace Go.Proofs.YtjpdfbljhbgbcaaDoor
open Go.RowKit
set_option linter.unusedVariables false

theorem count_up (q : Nat → Bool) (a d : Nat) : (numsP q a).length ≤ (numsP q (a + d)).length := by rw [numsP_add]; omega
theorem none_between (q : Nat → Bool) (a : Nat) : ∀ d, (numsP q a).length = (numsP q (a + d)).length → ∀ i, a ≤ i → i < a + d → q i = false
  | 0, _, i, h1, h2 => by omega
  | d + 1, h, i, h1, h2 => by
    have u := count_up q a d
    cases hq : q (a + d)
    · rw [← Nat.add_assoc, numsP_no q (a + d) hq] at h
      by_cases e : i = a + d
      · rw [e]; exact hq
      · exact none_between q a d h i h1 (by omega)
    · rw [← Nat.add_assoc, numsP_yes q (a + d) hq, List.length_append] at h
      simp at h
      omega
theorem nth_spec (q : Nat → Bool) : ∀ (N i : Nat), i < (numsP q N).length → ∃ x : Nat, x < N ∧ q x = true ∧ (numsP q N)[i]?.getD 0 = (x : Int) ∧ (numsP q x).length = i
  | 0, i, h => by simp [numsP] at h
  | N + 1, i, h => by
    cases hq : q N
    · rw [numsP_no q N hq] at h ⊢
      obtain ⟨x, h1, h2, h3, h4⟩ := nth_spec q N i h
      exact ⟨x, by omega, h2, h3, h4⟩
    · rw [numsP_yes q N hq] at h ⊢
      by_cases hi : i < (numsP q N).length
      · obtain ⟨x, h1, h2, h3, h4⟩ := nth_spec q N i hi
        refine ⟨x, by omega, h2, ?_, h4⟩
        rw [List.getElem?_append_left hi]
        exact h3
      · rw [List.length_append] at h
        simp at h
        obtain rfl : i = (numsP q N).length := by omega
        refine ⟨N, by omega, hq, ?_, rfl⟩
        rw [List.getElem?_append_right (Nat.le_refl _)]
        simp
theorem same_gen {p : Nat → Bool} {u v : Nat} (h : ∀ i, u ≤ i → i < v → p i = false) (h' : ∀ i, v ≤ i → i < u → p i = false) : numsP p u = numsP p v := by
  rcases Nat.le_total u v with g | g
  · exact (numsP_to p u v g h).symm
  · exact numsP_to p v u g h'
theorem between (q : Nat → Bool) {u v : Nat} (h : (numsP q u).length = (numsP q v).length) : ∀ i, u ≤ i → i < v → q i = false := fun i h1 h2 => by
  have := none_between q u (v - u) (by rw [show u + (v - u) = v by omega]; exact h) i h1 (by omega)
  exact this
theorem same_c {a b c : Nat → Bool} (x y u v : Nat) (hu : u ≤ 60) (hv : v ≤ 60) (h : (numsP c u).length = (numsP c v).length) : numsP (pT a b c) (3600 * x + 60 * y + u) = numsP (pT a b c) (3600 * x + 60 * y + v) :=
  same_gen (fun i h1 h2 => pT_no_c (between c h _ (by omega) (by omega))) (fun i h1 h2 => pT_no_c (between c h.symm _ (by omega) (by omega)))
theorem same_b {a b c : Nat → Bool} (x u v : Nat) (hu : u ≤ 60) (hv : v ≤ 60) (h : (numsP b u).length = (numsP b v).length) : numsP (pT a b c) (3600 * x + 60 * u) = numsP (pT a b c) (3600 * x + 60 * v) :=
  same_gen (fun i h1 h2 => pT_no_b (between b h _ (by omega) (by omega))) (fun i h1 h2 => pT_no_b (between b h.symm _ (by omega) (by omega)))
theorem same_a {a b c : Nat → Bool} (u v : Nat) (h : (numsP a u).length = (numsP a v).length) : numsP (pT a b c) (3600 * u) = numsP (pT a b c) (3600 * v) :=
  same_gen (fun i h1 h2 => pT_no_a (between a h _ (by omega) (by omega))) (fun i h1 h2 => pT_no_a (between a h.symm _ (by omega) (by omega)))
theorem step_c {a b c : Nat → Bool} {x y z : Nat} (hy : y < 60) (hz : z < 60) (ha : a x = true) (hb : b y = true) (hc : c z = true) : numsP (pT a b c) (3600 * x + 60 * y + (z + 1)) = numsP (pT a b c) (3600 * x + 60 * y + z) ++ [((3600 * x + 60 * y + z : Nat) : Int)] := by
  rw [← Nat.add_assoc]
  exact numsP_yes _ _ (by rw [pT_at hy hz, ha, hb, hc]; rfl)
theorem mk_nums' (m k : Nat) (hk : k ≤ 64) : mk (inL (numsP m.testBit k)) = m % 2 ^ k := by
  refine (mk_eq _ (Nat.lt_of_lt_of_le (Nat.mod_lt _ (Nat.pow_pos (by decide))) (Nat.pow_le_pow_right (by decide) hk)) fun i hi => ?_).symm
  rw [mod_bit]
  unfold inL
  by_cases h1 : i < k
  · rw [dec_t h1, Bool.true_and]
    cases h : m.testBit i
    · refine (decide_eq_false fun hm => ?_).symm
      obtain ⟨j, _, h2, h3⟩ := mem_numsP.1 hm
      have : i = j := by omega
      subst this
      rw [h] at h2; cases h2
    · exact (decide_eq_true (mem_numsP.2 ⟨i, h1, h, rfl⟩)).symm
  · rw [dec_n h1, Bool.false_and]
    refine (decide_eq_false fun hm => ?_).symm
    obtain ⟨j, h2, _, h3⟩ := mem_numsP.1 hm
    omega
def HeldAt (m t : Nat) (w : World) (v i : Value) (wr : World) : Prop := ∃ k : Nat, k ≤ t + 1 ∧ i = .int .i64 k ∧ OwnI wr w.heap.size v (numsP m.testBit k) ∧ Below w.heap.size w wr
set_option maxHeartbeats 800000 in
set_option maxRecDepth 20000 in
theorem rheld_any (m t : Nat) (w : World) (hm : m < 18446744073709551616) (ht : t < 64) : Calls Tryd.prog 33 #[.int .u64 m, .int .i64 t] w fun e w' => e = .returned (.int .u64 (m % 2 ^ (t + 1) : Nat)) ∧ Below w.heap.size w w' := by
  obtain ⟨i0, hi, hz0, hz1, hz2⟩ := info_parts info_int
  have HAS := Lib.hid (fun (n : Nat) (wr : World) => rhas_any m n wr hm)
  have hmk := mk_nums' m (t + 1) (by omega)
  generalize m % 2 ^ (t + 1) = r at hmk ⊢
  have HMK := Lib.hid hmk
  clear hmk
  clear hm
  go_enter Tryd.func33, Tryd.ntmps33
  go_wp2
  go_loopw [5, 6] (fun v i wr => HeldAt m t w v i wr) (fun _ i _ => t + 1 - (intOf i).toNat)
  case atStart => exact ⟨0, by omega, rfl, OwnI.nil _ _, Below.refl _ _⟩
  case round =>
    obtain ⟨k, hk, rfl, hown, hb⟩ := hrel
    have HB := Lib.hid hb
    have HO := Lib.hid hown
    clear hb hown
    by_cases hlt : k < t + 1
    · have hn := numsP_le m.testBit k
      have kk := HAS.out k wr
      rw [inM_in m k (by omega)] at kk
      have dk : decide ((k : Int) ≤ (t : Int)) = true := dec_t (by omega)
      cases hbit : m.testBit k
      · rw [hbit] at kk
        have HS := Lib.hid (numsP_no m.testBit k hbit)
        clear hbit
        go_wp2_with fail
        refine kk.mono ?_
        rintro e w' ⟨rfl, rfl⟩
        go_wp2
        go_roundw
        case rel => exact ⟨k + 1, by omega, by go_num, by rw [HS.out]; exact HO.out, HB.out⟩
        case measure => simp [intOf]; omega
      · rw [hbit] at kk
        have HS := Lib.hid (numsP_yes m.testBit k hbit)
        clear hbit
        go_wp2_with fail
        refine kk.mono ?_
        rintro e w' ⟨rfl, rfl⟩
        go_wp2_with ((at_builtin; refine wpList_append_own _ rfl _ _ 26 rfl w.heap.size 3 i0 (.int .i64 0) 1 8 Tryd.underlying26 hi hz0 hz1 hz2 rfl (by decide) _ _ _ rfl (World.ownsRow.alloc HO.out _) ⟨wr.heap.size, 0, none⟩ 1 1 [.int .i64 (k : Int)] rfl rfl ?c1 ?c2 ?c3 ?c4 ?c5 ?_))
        case c1 =>
          intro j u hj
          cases j with
          | zero => cases hj; exact cell_new _ _ _ 0
          | succ j => cases hj
        case c2 => simp [Value.oneCell']
        case c3 => unfold maxLen; omega
        case c4 => omega
        case c5 => have := HB.out.size; simp; omega
        intro v' w1 hown1 hgrow _
        have HO1 := Lib.hid (OwnI.snoc hown1)
        have HB1 := Lib.hid (Below.grown (HB.out.alloc HB.out.size (.cells #[.int .i64 (k : Int)] 3)) hgrow (by have := HB.out.size; simp; omega) (own_block HO.out))
        clear hown1 hgrow
        go_wp2
        go_roundw
        case rel => exact ⟨k + 1, by omega, by go_num, by rw [HS.out]; exact HO1.out, HB1.out⟩
        case measure => simp [intOf]; omega
    · obtain rfl : k = t + 1 := by omega
      have dk : decide (((t + 1 : Nat) : Int) ≤ (t : Int)) = false := dec_n (by omega)
      have hn := numsP_le m.testBit (t + 1)
      obtain ⟨A, c, rfl, hin⟩ := HO.out.ints
      have KO := rof_any A c _ wr (by omega) hin
      rw [HMK.out] at KO
      clear hin hlt hn
      go_wp2_with fail
      refine KO.mono ?_
      rintro e w' ⟨rfl, rfl⟩
      go_wp2
      go_ret
      exact ⟨rfl, HB.out⟩
end Go.Proofs.YtjpdfbljhbgbcaaDoor
