/- wide.Len; the document's Has, List and Of (layer 4). The document's Has and List of sets (layer 4). The document's Of of sets: a list of 448 (layer 4). -/
import Derived.Test.YtjdoknbmnokkdaaDoorWdE
import Derived.Test.YtjdoknbmnokkdaaDoorMask5
import Derived.Deep.WholeRow
namespace Go.Proofs.YtjdoknbmnokkdaaDoor
open Go.RowKit
set_option linter.unusedVariables false

/-- how many numbers of a set lie in its first words -/
theorem len_step (P : Nat → Bool) (j : Nat) : (numsP P (64 * (j + 1))).length = (numsP P (64 * j)).length + (numsP (wv P j).testBit 64).length := by
  rw [show 64 * (j + 1) = 64 * j + 64 by omega, numsP_add]
  congr 2
  exact numsP_congr 64 fun i hi => by rw [wv_test, dec_t hi]; simp
theorem nums_clip (P : Nat → Bool) : ∀ n, numsP (clip P) (400 + n) = numsP (clip P) 400
  | 0 => rfl
  | n + 1 => by
    rw [show 400 + (n + 1) = (400 + n) + 1 by omega, numsP_no _ _ (by unfold clip; rw [dec_n (by omega)]; simp), nums_clip P n]
theorem by_words (P : Nat → Bool) : numsP (clip P) (64 * 7) = numsP (clip P) 400 := by
  rw [show 64 * 7 = 400 + 48 by decide]
  exact nums_clip P 48
theorem no_words (P : Nat → Bool) : (numsP P (64 * 0)).length = 0 := rfl
attribute [local irreducible] numsP
end Go.Proofs.YtjdoknbmnokkdaaDoor
namespace Go.Proofs.YtjdoknbmnokkdaaDoor
open Go.RowKit
set_option linter.unusedVariables false

set_option maxHeartbeats 800000 in
set_option maxRecDepth 20000 in
theorem wrhas_any (P : Nat → Bool) (n : Int) (w : World) : Calls Tryd.prog 168 #[S7 P, .int .i64 n] w fun e w' => e = .returned (.bool (hasW P n)) ∧ Below w.heap.size w w' := by
  have HR0 := Lib.hid (Sev.new w (wv P))
  have HB0 := Lib.hid (show Below w.heap.size w (w.alloc (.cells (c7 (wv P)) 68)) from (Below.refl _ _).alloc (Nat.le_refl _) _)
  unfold S7
  by_cases h1 : 0 ≤ n
  · have d1 := dec_t h1
    by_cases h2 : n < 400
    · obtain ⟨m, rfl⟩ := Int.eq_ofNat_of_zero_le h1
      have hm : m < 400 := by omega
      have d2 := dec_t h2
      have hx1 : (if 0 < (m : Int) then (m : Int) else 0) = (m : Int) := by split <;> omega
      have hx2 : (if 0 < m then (m : Int) else 0) = (m : Int) := by split <;> omega
      have hq : Int.tdiv (m : Int) 64 = ((m / 64 : Nat) : Int) := by rw [Int.tdiv_eq_ediv_of_nonneg (by omega)]; omega
      have hr : Int.tmod (m : Int) 64 = ((m % 64 : Nat) : Int) := by rw [Int.tmod_eq_emod_of_nonneg (by omega)]; omega
      have hq7 : m / 64 < 7 := by omega
      have hm6 : m % 64 < 64 := by omega
      have hs : Int.tmod ((m / 64 : Nat) : Int) 7 = ((m / 64 : Nat) : Int) := by rw [Int.tmod_eq_emod_of_nonneg (by omega)]; omega
      have hq' : (m : Int) / 64 = ((m / 64 : Nat) : Int) := by omega
      have hr' : (m : Int) % 64 = ((m % 64 : Nat) : Int) := by omega
      have hs' : ((m / 64 : Nat) : Int) % 7 = ((m / 64 : Nat) : Int) := by omega
      have ck := HR0.out.cell (m / 64) hq7
      have cg := c7_get (wv P) (m / 64) hq7
      have K := fun W => rhas_any (wv P (m / 64)) ((m % 64 : Nat) : Int) W (wv_lt _ _)
      rw [inM_in _ _ hm6, wv_bit] at K
      have HH := Lib.hid (hasW_in P m hm)
      have HK := Lib.hid K
      generalize m / 64 = q at hq hq7 ck cg hs HK hq' hs'
      obtain ⟨W0, hW0⟩ : ∃ W0, w.alloc (.cells (c7 (wv P)) 68) = W0 := ⟨_, rfl⟩
      rw [hW0] at HR0 HB0 ck
      generalize m % 64 = r at hr hm6 HK hr'
      clear h1 h2 K
      go_enter Tryd.func168, Tryd.ntmps168
      go_wp2_with fail
      try rw [hW0]
      refine (HK.out _).mono ?_
      rintro e w2 ⟨rfl, rfl⟩
      go_wp2
      go_ret
      exact ⟨by rw [HH.out]; rfl, HB0.out⟩
    · have d2 := dec_n h2
      have HH := Lib.hid (hasW_lo P n (by omega))
      clear h1 h2
      go_enter Tryd.func168, Tryd.ntmps168
      go_wp2
      go_ret
      exact ⟨by rw [HH.out]; rfl, HB0.out⟩
  · have d1 := dec_n h1
    have HH := Lib.hid (hasW_lo P n (by omega))
    clear h1
    go_enter Tryd.func168, Tryd.ntmps168
    go_wp2
    go_ret
    exact ⟨by rw [HH.out]; rfl, HB0.out⟩
theorem hasW_clip (P : Nat → Bool) (k : Nat) (h : k < 400) : hasW P k = clip P k := by
  rw [hasW_in P k h]; unfold clip; simp [h]
theorem OwnI.ints2 {w : World} {base : Nat} {v : Value} {zs : List Int} (h : OwnI w base v zs) : ∃ A c, v = .slice A zs.length c ∧ Ints .i64 w A zs ∧ zs.length ≤ c := by
  obtain ⟨A, c, hv, hi⟩ := h.ints
  refine ⟨A, c, hv, hi, ?_⟩
  rcases h.2 with ⟨h1, h2⟩ | ⟨g, cap, cur, h1, _, _, h3, _⟩
  · omega
  · rw [hv] at h1
    cases h1
    exact h3
def WListAt (P : Nat → Bool) (w : World) (v i : Value) (wr : World) : Prop := ∃ k : Nat, k ≤ 400 ∧ i = .int .i64 k ∧ OwnI wr (w.heap.size + 1) v (numsP (clip P) k) ∧ Sev wr w.heap.size (wv P) ∧ Below w.heap.size w wr ∧ w.heap.size + 1 ≤ wr.heap.size
set_option maxHeartbeats 1600000 in
set_option maxRecDepth 20000 in
theorem wrlist2_any (P : Nat → Bool) (w : World) : Calls Tryd.prog 149 #[S7 P] w fun e w' => ∃ A c, e = .returned (.slice A (numsP (clip P) 400).length c) ∧ Ints .i64 w' A (numsP (clip P) 400) ∧ Below w.heap.size w w' ∧ (numsP (clip P) 400).length ≤ c := by
  obtain ⟨i0, hi, hz0, hz1, hz2⟩ := info_parts info_int
  have HAS := Lib.hid (fun (n : Nat) (wr : World) => wrhas_any P n wr)
  have HR0 := Lib.hid (Sev.new w (wv P))
  have HB0 := Lib.hid (show Below w.heap.size w (w.alloc (.cells (c7 (wv P)) 68)) from (Below.refl _ _).alloc (Nat.le_refl _) _)
  have HQ := Lib.hid (fun k (h : k < 400) => hasW_clip P k h)
  have HLE := Lib.hid (fun k => numsP_le (clip P) k)
  have HNO := Lib.hid (fun k => numsP_no (clip P) k)
  have HYES := Lib.hid (fun k => numsP_yes (clip P) k)
  have HNIL := Lib.hid (show numsP (clip P) 0 = [] from rfl)
  unfold S7
  go_enter Tryd.func149, Tryd.ntmps149
  go_wp2
  go_loopw [3, 4] (fun v i wr => WListAt P w v i wr) (fun _ i _ => 400 - (intOf i).toNat)
  case atStart => exact ⟨0, by omega, rfl, by rw [HNIL.out]; exact OwnI.nil _ _, HR0.out, HB0.out, by simp⟩
  case round =>
    obtain ⟨k, hk, rfl, hown, hs, hb, hsz⟩ := hrel
    have HB := Lib.hid hb
    have HO := Lib.hid hown
    have HS := Lib.hid hs
    have HZ := Lib.hid hsz
    clear hb hown hs hsz
    by_cases hlt : k < 400
    · have hn := HLE.out k
      have kk := HAS.out k wr
      rw [HQ.out k hlt] at kk
      unfold S7 c7 at kk
      obtain ⟨x0, x1, x2, x3, x4, x5, x6⟩ := HS.out.cells
      cases hbit : clip P k
      · rw [hbit] at kk
        have HT := Lib.hid (HNO.out k hbit)
        have HKK := Lib.hid kk
        clear hbit kk
        go_wp2_with fail
        refine HKK.out.mono ?_
        rintro e w2 ⟨rfl, hb2⟩
        have HB2 := Lib.hid hb2
        clear hb2 x0 x1 x2 x3 x4 x5 x6
        go_wp2
        go_roundw
        case rel => exact ⟨k + 1, by omega, by go_num, by rw [HT.out]; exact HO.out.below HB2.out, HS.out.below HB2.out, HB.out.trans (HB2.out.mono HB.out.size), Nat.le_trans HZ.out HB2.out.size⟩
        case measure => simp [intOf]; omega
      · rw [hbit] at kk
        have HT := Lib.hid (HYES.out k hbit)
        have HKK := Lib.hid kk
        clear hbit kk
        go_wp2_with fail
        refine HKK.out.mono ?_
        rintro e w2 ⟨rfl, hb2⟩
        have HB2 := Lib.hid (HB.out.trans (hb2.mono HB.out.size))
        have HZ2 := Lib.hid (Nat.le_trans HZ.out hb2.size)
        have HO2 := Lib.hid (HO.out.below hb2)
        have HS2 := Lib.hid (HS.out.below hb2)
        clear hb2 x0 x1 x2 x3 x4 x5 x6
        go_wp2_with ((at_builtin; refine wpList_append_own _ rfl _ _ 34 rfl (w.heap.size + 1) 3 i0 (.int .i64 0) 1 8 Tryd.underlying34 hi hz0 hz1 hz2 rfl (by decide) _ _ _ rfl (World.ownsRow.alloc HO2.out _) ⟨w2.heap.size, 0, none⟩ 1 1 [.int .i64 (k : Int)] rfl rfl ?e1 ?e2 ?e3 ?e4 ?e5 ?_))
        case e1 =>
          intro j u hj
          cases j with
          | zero => cases hj; exact cell_new _ _ _ 0
          | succ j => cases hj
        case e2 => simp [Value.oneCell']
        case e3 => unfold maxLen; omega
        case e4 => omega
        case e5 => have := HZ2.out; simp; omega
        intro v' w1 hown1 hgrow _
        have HO1 := Lib.hid (OwnI.snoc hown1)
        have HB1 := Lib.hid (Below.grown ((Below.refl (w.heap.size + 1) w2).alloc HZ2.out (.cells #[.int .i64 (k : Int)] 3)) hgrow (by have := HZ2.out; simp; omega) (own_block HO2.out))
        clear hown1 hgrow
        go_wp2
        go_roundw
        case rel => exact ⟨k + 1, by omega, by go_num, by rw [HT.out]; exact HO1.out, (HB1.out.block _ (by omega)).trans HS2.out, HB2.out.trans (HB1.out.mono (by omega)), Nat.le_trans HZ2.out HB1.out.size⟩
        case measure => simp [intOf]; omega
    · obtain rfl : k = 400 := by omega
      obtain ⟨A, c, rfl, hin, hcap⟩ := HO.out.ints2
      have HI := Lib.hid hin
      have HCP := Lib.hid hcap
      clear hin hlt hcap
      go_wp2
      go_ret
      exact ⟨A, c, rfl, HI.out, HB.out, HCP.out⟩
theorem wrlist_any (P : Nat → Bool) (w : World) : Calls Tryd.prog 149 #[S7 P] w (Gives (numsP (clip P) 400) w) :=
  (wrlist2_any P w).mono fun e w' ⟨A, c, h1, h2, h3, _⟩ => ⟨A, c, h1, h2, h3⟩
end Go.Proofs.YtjdoknbmnokkdaaDoor
namespace Go.Proofs.YtjdoknbmnokkdaaDoor
open Go.RowKit
set_option linter.unusedVariables false

theorem info448 : (Tryd.prog.info? 176).map (fun i => (i.zero, i.size)) = some (some (.agg (Array.replicate 448 (.bool false))), 448) := by kernel_rfl
/-- a block of 448 truths -/
def Bs (w : World) (b : Nat) (f : Nat → Bool) : Prop := ∃ cs, w.heap[b]? = some (.cells cs 176 (0, 0)) ∧ cs.size = 448 ∧ ∀ j, j < 448 → cs[j]? = some (.bool (f j))
theorem Bs.cell {w : World} {b : Nat} {f : Nat → Bool} (h : Bs w b f) (k : Nat) (hk : k < 448) : w.cell? ⟨b, k, none⟩ = some (.bool (f k)) := by
  obtain ⟨cs, h1, h2, h3⟩ := h
  rw [blk_cell h1 k, h3 k hk]
theorem Bs.lt {w : World} {b : Nat} {f : Nat → Bool} (h : Bs w b f) : b < w.heap.size := by
  obtain ⟨cs, h1, h2, h3⟩ := h
  exact lt_of_block h1
theorem Bs.free {w : World} {b : Nat} {f : Nat → Bool} (h : Bs w b f) (k : Nat) : w.frozen? ⟨b, k, none⟩ = false := by
  obtain ⟨cs, h1, h2, h3⟩ := h
  exact blk_free h1 k
theorem Bs.congr {w : World} {b : Nat} {f g : Nat → Bool} (h : Bs w b f) (e : ∀ j, j < 448 → f j = g j) : Bs w b g := by
  obtain ⟨cs, h1, h2, h3⟩ := h
  exact ⟨cs, h1, h2, fun j hj => by rw [h3 j hj, e j hj]⟩
theorem Bs.put {w : World} {b : Nat} {f : Nat → Bool} (h : Bs w b f) (k : Nat) (hk : k < 448) (x : Bool) : Bs (w.setCell ⟨b, k, none⟩ (.bool x)) b (fun j => if j = k then x else f j) := by
  obtain ⟨cs, h1, h2, h3⟩ := h
  refine ⟨_, blk_put h1 k (.bool x), by simp [h2], fun j hj => ?_⟩
  by_cases e : j = k
  · subst e
    rw [Array.getElem?_setIfInBounds_self_of_lt (by omega)]; simp
  · rw [Array.getElem?_setIfInBounds_ne (fun q => e q.symm), h3 j hj]; simp [e]
theorem Bs.other {w : World} {b : Nat} {f : Nat → Bool} (h : Bs w b f) (g k : Nat) (u : Value) (hg : b ≠ g) : Bs (w.setCell ⟨g, k, none⟩ u) b f := by
  obtain ⟨cs, h1, h2, h3⟩ := h
  exact ⟨cs, blk_else h1 ⟨g, k, none⟩ hg u, h2, h3⟩
theorem Bs.alloc {w : World} {b : Nat} {f : Nat → Bool} (h : Bs w b f) (o : Obj) : Bs (w.alloc o) b f := by
  obtain ⟨cs, h1, h2, h3⟩ := h
  exact ⟨cs, blk_more h1 o, h2, h3⟩
theorem Bs.new (w : World) : Bs (w.alloc (.cells (Array.replicate 448 (.bool false)) 176)) w.heap.size (fun _ => false) := ⟨_, blk_new w _, Array.size_replicate, fun j hj => by rw [Array.getElem?_replicate, if_pos hj]⟩
/-- how far the sum has got -/
def preW (Q : Nat → Bool) (i x : Nat) : Nat := if x < i then wv Q x else 0
def accW (Q : Nat → Bool) (i n x : Nat) : Nat := if x < i then wv Q x else if x = i then bv (fun t => Q (64 * i + t)) n (64 - n) else 0
theorem accW_start (Q : Nat → Bool) (i x : Nat) : preW Q i x = accW Q i 64 x := by
  unfold preW accW
  split
  · rfl
  · split <;> rfl
theorem accW_at (Q : Nat → Bool) (i n : Nat) : accW Q i n i = bv (fun t => Q (64 * i + t)) n (64 - n) := by
  unfold accW
  rw [if_neg (by omega), if_pos rfl]
theorem accW_end (Q : Nat → Bool) (i x : Nat) : accW Q i 0 x = preW Q (i + 1) x := by
  unfold preW accW
  split
  · rw [if_pos (by omega)]
  · split
    · rename_i h e
      rw [if_pos (by omega), e]
      exact (mk_bv _).symm
    · rw [if_neg (by omega)]
theorem accW_else (Q : Nat → Bool) (i n m x : Nat) (h : x ≠ i) : accW Q i n x = accW Q i m x := by
  unfold accW
  rw [if_neg (show ¬ x = i from h), if_neg (show ¬ x = i from h)]
theorem preW_all (Q : Nat → Bool) : ∀ x, x < 7 → preW Q 7 x = wv Q x := fun x hx => by unfold preW; rw [if_pos hx]
theorem preW_none (Q : Nat → Bool) (x : Nat) : 0 = preW Q 0 x := by unfold preW; rw [if_neg (by omega)]
attribute [local irreducible] accW preW
set_option maxHeartbeats 3200000 in
set_option maxRecDepth 20000 in
theorem wrof_any (A : Option Addr) (c : Nat) (zs : List Int) (w : World) (hl : zs.length ≤ 1000000) (hc : Ints .i64 w A zs) :
    Calls Tryd.prog 148 #[.slice A zs.length c] w fun e w' => e = .returned (S7 (inW zs)) ∧ Below w.heap.size w w' := by
  have HC := Lib.hid hc
  obtain ⟨hz, hs⟩ := zero_of_info info448
  have HR0 := Lib.hid ((Sev.new w (fun _ => 0)).alloc (.cells (Array.replicate 448 (.bool false)) 176))
  have HI0 := Lib.hid (show Bs ((w.alloc (.cells (c7 fun _ => 0) 68)).alloc (.cells (Array.replicate 448 (.bool false)) 176)) (w.heap.size + 1) (fun _ => false) by
    have q := Bs.new (w.alloc (.cells (c7 fun _ => 0) 68))
    rwa [World.size_alloc] at q)
  have HB0 := Lib.hid (show Below w.heap.size w ((w.alloc (.cells (c7 fun _ => 0) 68)).alloc (.cells (Array.replicate 448 (.bool false)) 176)) from ((Below.refl _ _).alloc (Nat.le_refl _) _).alloc (by simp) _)
  clear hc
  go_enter Tryd.func148, Tryd.ntmps148
  go_wp2_with fail
  clear hz hs
  go_loopw [4] (fun i wr => ∃ k : Nat, k ≤ zs.length ∧ i = .int .i64 k ∧ Bs wr (w.heap.size + 1) (inW (zs.take k)) ∧ Sev wr w.heap.size (fun _ => 0) ∧ Below w.heap.size w wr) (fun i _ => zs.length - (intOf i).toNat)
  case atStart => exact ⟨0, by omega, rfl, HI0.out.congr fun j _ => by rw [List.take_zero, inW_nil], HR0.out, HB0.out⟩
  case round =>
    obtain ⟨k, hk, rfl, hi, hr, hb⟩ := hrel
    have HI := Lib.hid hi
    have HR := Lib.hid hr
    have HB := Lib.hid hb
    by_cases hlt : k < zs.length
    · obtain ⟨b, off, rfl, hbl, hcell⟩ := (Ints.below HC.out HB.out) k hlt
      have HP := Lib.hid (fun (hx : zs[k]?.getD 0 < 0 ∨ 400 ≤ zs[k]?.getD 0) (j : Nat) => show inW (zs.take k) j = inW (zs.take (k + 1)) j by rw [take_step zs k hlt, inW_skip _ _ _ hx])
      have HN := Lib.hid (fun n hn h4 => inW_step zs k n hlt hn h4)
      have d3 := dec_t hlt
      clear hi hr hb
      generalize hz : zs[k]?.getD 0 = z at hcell HP HN
      by_cases h1 : 0 ≤ z
      · have d1 := dec_t h1
        by_cases h2 : z < 400
        · obtain ⟨n, rfl⟩ := Int.eq_ofNat_of_zero_le h1
          have hn : n < 400 := by omega
          have d2 := dec_t h2
          have ck := HI.out.cell n (by omega)
          have fk := HI.out.free n
          have HP1 := Lib.hid (HN.out n rfl hn)
          clear hz HP HN h1 h2
          have h448 : (n : Int) < 448 := by omega
          go_wp2
          go_roundw
          case rel => exact ⟨k + 1, by omega, by go_num, (HI.out.put n (by omega) true).congr (fun j _ => by rw [HP1.out]; by_cases e : j = n <;> simp [e]), HR.out.other _ _ _ (by omega), HB.out.setCell (by show w.heap.size ≤ w.heap.size + 1; omega) _⟩
          case measure => simp [intOf]; omega
        · have HE := Lib.hid (HP.out (.inr (by omega)))
          have d2 := dec_n h2
          clear h1 h2 hz HP HN
          go_wp2
          go_roundw
          case rel => exact ⟨k + 1, by omega, by go_num, HI.out.congr (fun j _ => HE.out j), HR.out, HB.out⟩
          case measure => simp [intOf]; omega
      · have HE := Lib.hid (HP.out (.inl (by omega)))
        have d1 := dec_n h1
        clear h1 hz HP HN
        go_wp2
        go_roundw
        case rel => exact ⟨k + 1, by omega, by go_num, HI.out.congr (fun j _ => HE.out j), HR.out, HB.out⟩
        case measure => simp [intOf]; omega
    · obtain rfl : k = zs.length := by omega
      rw [List.take_length] at HI hi
      clear hi hr hb hlt hk
      have HI2 := Lib.hid (HI.out.alloc (.cells (c7 fun _ => 0) 68))
      have HR2 := Lib.hid (HR.out.alloc (.cells (c7 fun _ => 0) 68))
      have HS2 := Lib.hid (Sev.new wr (fun _ => 0))
      have HB2 := Lib.hid (HB.out.alloc HB.out.size (.cells (c7 fun _ => 0) 68))
      have l1 := HI.out.lt
      generalize hg : wr.heap.size = g at HS2 l1
      generalize hQ : inW zs = Q at HI2 HI
      have HQ := Lib.hid hQ
      clear hQ HI HR HB HR0 HI0 HB0
      go_wp2
      go_loopw [6] (fun i wx => ∃ j : Nat, j ≤ 7 ∧ i = .int .i64 j ∧ Sev wx g (preW Q j) ∧ Bs wx (w.heap.size + 1) Q ∧ Sev wx w.heap.size (fun _ => 0) ∧ Below w.heap.size w wx) (fun i _ => 7 - (intOf i).toNat)
      case atStart => exact ⟨0, by omega, rfl, HS2.out.congr (fun j _ => preW_none Q j), HI2.out, HR2.out, HB2.out⟩
      case round =>
        obtain ⟨j, hj, rfl, hs, hi, hr, hb⟩ := hrel
        have HS3 := Lib.hid (hs.congr (fun x _ => accW_start Q j x))
        have HI3 := Lib.hid hi
        have HR3 := Lib.hid hr
        have HB3 := Lib.hid hb
        by_cases hjl : j < 7
        · have d4 : decide ((j : Int) < 7) = true := decide_eq_true (by omega)
          clear hs hi hr hb
          go_wp2
          go_loopw [7] (fun i wx => ∃ n : Nat, n ≤ 64 ∧ i = .int .i64 ((n : Int) - 1) ∧ Sev wx g (accW Q j n) ∧ Bs wx (w.heap.size + 1) Q ∧ Sev wx w.heap.size (fun _ => 0) ∧ Below w.heap.size w wx) (fun i _ => (intOf i + 1).toNat)
          case atStart => exact ⟨64, by omega, rfl, HS3.out, HI3.out, HR3.out, HB3.out⟩
          case round =>
            obtain ⟨n', hn, rfl, hs, hi, hr, hb⟩ := hrel
            have HS4 := Lib.hid hs
            have HI4 := Lib.hid hi
            have HR4 := Lib.hid hr
            have HB4 := Lib.hid hb
            cases n' with
            | zero =>
              clear hs hi hr hb
              go_wp2
              go_roundw
              case rel => exact ⟨j + 1, by omega, by go_num, HS4.out.congr (fun x _ => accW_end Q j x), HI4.out, HR4.out, HB4.out⟩
              case measure => simp [intOf]; omega
            | succ n =>
              rw [show ((n + 1 : Nat) : Int) - 1 = (n : Int) by omega]
              have ck := hs.cell j hjl
              have fk := hs.free j
              have hq : 64 * j + n < 448 := by omega
              have cb := hi.cell (64 * j + n) hq
              have hM := accW_at Q j (n + 1)
              rw [show 64 - (n + 1) = 63 - n by omega] at hM
              have hsm := bv_small (fun t => Q (64 * j + t)) n
              have hst := bv_step (fun t => Q (64 * j + t)) n (by omega)
              have hM2 := accW_at Q j n
              rw [hM] at ck
              rw [hst] at hM2
              generalize bv (fun t => Q (64 * j + t)) (n + 1) (63 - n) = M at ck hsm hM2
              obtain ⟨N, hN⟩ : ∃ N, N = 2 * M := ⟨_, rfl⟩
              have hi0 : (M : Int) < 9223372036854775808 := by omega
              have e1 : 2 * (M : Int) = (N : Int) := by omega
              have e2 : 64 * (j : Int) + (n : Int) = ((64 * j + n : Nat) : Int) := by omega
              generalize hqq : 64 * j + n = q at hq cb e2 hM2
              have hi1 : (q : Int) < 448 := by omega
              have l0 : w.heap.size < g := by omega
              clear hs hi hr hb hM hst
              cases hbit : Q q
              · rw [hbit] at cb hM2
                have hM3 : accW Q j n j = N := by rw [hM2, hN]; simp
                have HM3 := Lib.hid hM3
                clear hM2 hM3 hN hbit hsm
                go_wp2
                go_roundw
                case rel => exact ⟨n, by omega, by go_num, HS4.out.put j N hjl HM3.out (fun x _ hne => accW_else Q j n (n + 1) x hne), HI4.out.other _ _ _ (by omega), HR4.out.other _ _ _ (by omega), HB4.out.setCell (by show w.heap.size ≤ g; omega) _⟩
                case measure => simp [intOf]
              · rw [hbit] at cb hM2
                obtain ⟨N1, hN1⟩ : ∃ N1, N1 = N + 1 := ⟨_, rfl⟩
                have e3 : (N : Int) + 1 = (N1 : Int) := by omega
                have hi2 : (N : Int) < 18446744073709551615 := by omega
                have hM3 : accW Q j n j = N1 := by rw [hM2, hN1, hN]; simp; omega
                have HM3 := Lib.hid hM3
                have HS5 := Lib.hid (HS4.out.put (g := fun x => if x = j then N else accW Q j (n + 1) x) j N hjl (if_pos rfl) (fun x _ hne => if_neg hne))
                have ck2 := HS5.out.cell j hjl
                rw [if_pos rfl] at ck2
                have fk2 := HS5.out.free j
                clear hM2 hM3 hN hbit hsm hN1
                go_wp2
                go_roundw
                case rel => exact ⟨n, by omega, by go_num, HS5.out.put j N1 hjl HM3.out (fun x _ hne => (accW_else Q j n (n + 1) x hne).trans (if_neg hne).symm), (HI4.out.other _ _ _ (by omega)).other _ _ _ (by omega), (HR4.out.other _ _ _ (by omega)).other _ _ _ (by omega), (HB4.out.setCell (by show w.heap.size ≤ g; omega) _).setCell (by show w.heap.size ≤ g; omega) _⟩
                case measure => simp [intOf]
        · obtain rfl : j = 7 := by omega
          have HS5 := Lib.hid (hs.congr (preW_all Q))
          obtain ⟨x0, x1, x2, x3, x4, x5, x6⟩ := HS5.out.cells
          obtain ⟨y0, y1, y2, y3, y4, y5, y6⟩ := hr.cells
          obtain ⟨z0, z1, z2, z3, z4, z5, z6⟩ := hr.frees
          have l0 : w.heap.size < g := by omega
          clear hs hi hr hb
          go_wp2
          obtain ⟨q1, q2⟩ := HR3.out.put7 (wv Q)
          refine bodyPost_ret (results7 rfl rfl q1) rfl ⟨by rw [HQ.out]; rfl, Below.but HB3.out q2 (fun i hi hx => by omega)⟩
end Go.Proofs.YtjdoknbmnokkdaaDoor
