/- The document's Has and List of sets (layer 4). -/
import Derived.Test.YtbfndcogieiejaaDoorWdF
namespace Go.Proofs.YtbfndcogieiejaaDoor
open Go.RowKit
set_option linter.unusedVariables false

set_option maxHeartbeats 800000 in
set_option maxRecDepth 20000 in
theorem wrhas_any (P : Nat → Bool) (n : Int) (w : World) : Calls Tryd.prog 59 #[S7 P, .int .i64 n] w fun e w' => e = .returned (.bool (hasW P n)) ∧ Below w.heap.size w w' := by
  have HR0 := Lib.hid (Sev.new w (wv P))
  have HB0 := Lib.hid (show Below w.heap.size w (w.alloc (.cells (c7 (wv P)) 26)) from (Below.refl _ _).alloc (Nat.le_refl _) _)
  unfold S7
  by_cases h1 : 0 ≤ n
  · have d1 := dec_t h1
    by_cases h2 : n < 400
    · obtain ⟨m, rfl⟩ := Int.eq_ofNat_of_zero_le h1
      have hm : m < 400 := by omega
      have d2 := dec_t h2
      have hx1 : (if 0 < (m : Int) then (m : Int) else 0) = (m : Int) := by split <;> omega
      have hx2 : (if 0 < m then (m : Int) else 0) = (m : Int) := by split <;> omega
      have hq : Int.tdiv (m : Int) 64 = ((m / 64 : Nat) : Int) := by rw [Int.tdiv_eq_ediv_of_nonneg (by omega)]; omega
      have hr : Int.tmod (m : Int) 64 = ((m % 64 : Nat) : Int) := by rw [Int.tmod_eq_emod_of_nonneg (by omega)]; omega
      have hq7 : m / 64 < 7 := by omega
      have hm6 : m % 64 < 64 := by omega
      have hs : Int.tmod ((m / 64 : Nat) : Int) 7 = ((m / 64 : Nat) : Int) := by rw [Int.tmod_eq_emod_of_nonneg (by omega)]; omega
      have hq' : (m : Int) / 64 = ((m / 64 : Nat) : Int) := by omega
      have hr' : (m : Int) % 64 = ((m % 64 : Nat) : Int) := by omega
      have hs' : ((m / 64 : Nat) : Int) % 7 = ((m / 64 : Nat) : Int) := by omega
      have ck := HR0.out.cell (m / 64) hq7
      have cg := c7_get (wv P) (m / 64) hq7
      have K := fun W => rhas_any (wv P (m / 64)) ((m % 64 : Nat) : Int) W (wv_lt _ _)
      rw [inM_in _ _ hm6, wv_bit] at K
      have HH := Lib.hid (hasW_in P m hm)
      have HK := Lib.hid K
      generalize m / 64 = q at hq hq7 ck cg hs HK hq' hs'
      obtain ⟨W0, hW0⟩ : ∃ W0, w.alloc (.cells (c7 (wv P)) 26) = W0 := ⟨_, rfl⟩
      rw [hW0] at HR0 HB0 ck
      generalize m % 64 = r at hr hm6 HK hr'
      clear h1 h2 K
      go_enter Tryd.func59, Tryd.ntmps59
      go_wp2_with fail
      try rw [hW0]
      refine (HK.out _).mono ?_
      rintro e w2 ⟨rfl, rfl⟩
      go_wp2
      go_ret
      exact ⟨by rw [HH.out]; rfl, HB0.out⟩
    · have d2 := dec_n h2
      have HH := Lib.hid (hasW_lo P n (by omega))
      clear h1 h2
      go_enter Tryd.func59, Tryd.ntmps59
      go_wp2
      go_ret
      exact ⟨by rw [HH.out]; rfl, HB0.out⟩
  · have d1 := dec_n h1
    have HH := Lib.hid (hasW_lo P n (by omega))
    clear h1
    go_enter Tryd.func59, Tryd.ntmps59
    go_wp2
    go_ret
    exact ⟨by rw [HH.out]; rfl, HB0.out⟩
theorem hasW_clip (P : Nat → Bool) (k : Nat) (h : k < 400) : hasW P k = clip P k := by
  rw [hasW_in P k h]; unfold clip; simp [h]
theorem OwnI.ints2 {w : World} {base : Nat} {v : Value} {zs : List Int} (h : OwnI w base v zs) : ∃ A c, v = .slice A zs.length c ∧ Ints .i64 w A zs ∧ zs.length ≤ c := by
  obtain ⟨A, c, hv, hi⟩ := h.ints
  refine ⟨A, c, hv, hi, ?_⟩
  rcases h.2 with ⟨h1, h2⟩ | ⟨g, cap, cur, h1, _, _, h3, _⟩
  · omega
  · rw [hv] at h1
    cases h1
    exact h3
def WListAt (P : Nat → Bool) (w : World) (v i : Value) (wr : World) : Prop := ∃ k : Nat, k ≤ 400 ∧ i = .int .i64 k ∧ OwnI wr (w.heap.size + 1) v (numsP (clip P) k) ∧ Sev wr w.heap.size (wv P) ∧ Below w.heap.size w wr ∧ w.heap.size + 1 ≤ wr.heap.size
set_option maxHeartbeats 1600000 in
set_option maxRecDepth 20000 in
theorem wrlist2_any (P : Nat → Bool) (w : World) : Calls Tryd.prog 30 #[S7 P] w fun e w' => ∃ A c, e = .returned (.slice A (numsP (clip P) 400).length c) ∧ Ints .i64 w' A (numsP (clip P) 400) ∧ Below w.heap.size w w' ∧ (numsP (clip P) 400).length ≤ c := by
  obtain ⟨i0, hi, hz0, hz1, hz2⟩ := info_parts info_int
  have HAS := Lib.hid (fun (n : Nat) (wr : World) => wrhas_any P n wr)
  have HR0 := Lib.hid (Sev.new w (wv P))
  have HB0 := Lib.hid (show Below w.heap.size w (w.alloc (.cells (c7 (wv P)) 26)) from (Below.refl _ _).alloc (Nat.le_refl _) _)
  have HQ := Lib.hid (fun k (h : k < 400) => hasW_clip P k h)
  have HLE := Lib.hid (fun k => numsP_le (clip P) k)
  have HNO := Lib.hid (fun k => numsP_no (clip P) k)
  have HYES := Lib.hid (fun k => numsP_yes (clip P) k)
  have HNIL := Lib.hid (show numsP (clip P) 0 = [] from rfl)
  unfold S7
  go_enter Tryd.func30, Tryd.ntmps30
  go_wp2
  go_loopw [3, 4] (fun v i wr => WListAt P w v i wr) (fun _ i _ => 400 - (intOf i).toNat)
  case atStart => exact ⟨0, by omega, rfl, by rw [HNIL.out]; exact OwnI.nil _ _, HR0.out, HB0.out, by simp⟩
  case round =>
    obtain ⟨k, hk, rfl, hown, hs, hb, hsz⟩ := hrel
    have HB := Lib.hid hb
    have HO := Lib.hid hown
    have HS := Lib.hid hs
    have HZ := Lib.hid hsz
    clear hb hown hs hsz
    by_cases hlt : k < 400
    · have hn := HLE.out k
      have kk := HAS.out k wr
      rw [HQ.out k hlt] at kk
      unfold S7 c7 at kk
      obtain ⟨x0, x1, x2, x3, x4, x5, x6⟩ := HS.out.cells
      cases hbit : clip P k
      · rw [hbit] at kk
        have HT := Lib.hid (HNO.out k hbit)
        have HKK := Lib.hid kk
        clear hbit kk
        go_wp2_with fail
        refine HKK.out.mono ?_
        rintro e w2 ⟨rfl, hb2⟩
        have HB2 := Lib.hid hb2
        clear hb2 x0 x1 x2 x3 x4 x5 x6
        go_wp2
        go_roundw
        case rel => exact ⟨k + 1, by omega, by go_num, by rw [HT.out]; exact HO.out.below HB2.out, HS.out.below HB2.out, HB.out.trans (HB2.out.mono HB.out.size), Nat.le_trans HZ.out HB2.out.size⟩
        case measure => simp [intOf]; omega
      · rw [hbit] at kk
        have HT := Lib.hid (HYES.out k hbit)
        have HKK := Lib.hid kk
        clear hbit kk
        go_wp2_with fail
        refine HKK.out.mono ?_
        rintro e w2 ⟨rfl, hb2⟩
        have HB2 := Lib.hid (HB.out.trans (hb2.mono HB.out.size))
        have HZ2 := Lib.hid (Nat.le_trans HZ.out hb2.size)
        have HO2 := Lib.hid (HO.out.below hb2)
        have HS2 := Lib.hid (HS.out.below hb2)
        clear hb2 x0 x1 x2 x3 x4 x5 x6
        go_wp2_with ((at_builtin; refine wpList_append_own _ rfl _ _ 59 rfl (w.heap.size + 1) 3 i0 (.int .i64 0) 1 8 Tryd.underlying59 hi hz0 hz1 hz2 rfl (by decide) _ _ _ rfl (World.ownsRow.alloc HO2.out _) ⟨w2.heap.size, 0, none⟩ 1 1 [.int .i64 (k : Int)] rfl rfl ?e1 ?e2 ?e3 ?e4 ?e5 ?_))
        case e1 =>
          intro j u hj
          cases j with
          | zero => cases hj; exact cell_new _ _ _ 0
          | succ j => cases hj
        case e2 => simp [Value.oneCell']
        case e3 => unfold maxLen; omega
        case e4 => omega
        case e5 => have := HZ2.out; simp; omega
        intro v' w1 hown1 hgrow _
        have HO1 := Lib.hid (OwnI.snoc hown1)
        have HB1 := Lib.hid (Below.grown ((Below.refl (w.heap.size + 1) w2).alloc HZ2.out (.cells #[.int .i64 (k : Int)] 3)) hgrow (by have := HZ2.out; simp; omega) (own_block HO2.out))
        clear hown1 hgrow
        go_wp2
        go_roundw
        case rel => exact ⟨k + 1, by omega, by go_num, by rw [HT.out]; exact HO1.out, (HB1.out.block _ (by omega)).trans HS2.out, HB2.out.trans (HB1.out.mono (by omega)), Nat.le_trans HZ2.out HB1.out.size⟩
        case measure => simp [intOf]; omega
    · obtain rfl : k = 400 := by omega
      obtain ⟨A, c, rfl, hin, hcap⟩ := HO.out.ints2
      have HI := Lib.hid hin
      have HCP := Lib.hid hcap
      clear hin hlt hcap
      go_wp2
      go_ret
      exact ⟨A, c, rfl, HI.out, HB.out, HCP.out⟩
theorem wrlist_any (P : Nat → Bool) (w : World) : Calls Tryd.prog 30 #[S7 P] w (Gives (numsP (clip P) 400) w) :=
  (wrlist2_any P w).mono fun e w' ⟨A, c, h1, h2, h3, _⟩ => ⟨A, c, h1, h2, h3⟩
end Go.Proofs.YtbfndcogieiejaaDoor
