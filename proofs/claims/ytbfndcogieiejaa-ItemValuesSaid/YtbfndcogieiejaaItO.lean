/- The items of numbers: item.Of (layer 12). -/
import Derived.Test.YtbfndcogieiejaaCvL
import Derived.Test.YtbfndcogieiejaaItmD
import Derived.LoopN
import Derived.LoopTactic
import Derived.WalkMore
namespace Go.Proofs.Ytbfndcogieiejaa
open Go.RowKit
set_option linter.unusedVariables false

/-- the item of a piece -/
def itemOf (p : P3) : Q4 := if lenN p = 1 then (1, p.1, 0, 0) else (2, p.1, p.2.1, p.2.2)
theorem cells4_snoc (q : Q4) : ∀ qs : List Q4, cells4 (qs ++ [q]) = cells4 qs ++ [.int .i64 q.1, .int .i64 q.2.1, .int .i64 q.2.2.1, .int .i64 q.2.2.2]
  | [] => rfl
  | r :: qs => by
    rw [List.cons_append]
    unfold cells4
    rw [cells4_snoc q qs]; rfl
theorem OwnQ.snoc {w' : World} {base : Nat} {v' : Value} {qs : List Q4} {q : Q4} (h : w'.ownsRow base 27 4 v' (qs.length + 1) (cells4 qs ++ [.int .i64 q.1, .int .i64 q.2.1, .int .i64 q.2.2.1, .int .i64 q.2.2.2])) : OwnQ w' base v' (qs ++ [q]) := by
  unfold OwnQ
  rw [cells4_snoc, List.length_append]
  exact h
theorem OwnQ.below {w w' : World} {base : Nat} {v : Value} {qs : List Q4} (h : OwnQ w base v qs) (hb : Below w.heap.size w w') : OwnQ w' base v qs := by
  obtain ⟨h1, h2⟩ := h
  refine ⟨h1, ?_⟩
  rcases h2 with h2 | ⟨g, cap, cur, a1, a2, a3, a4⟩
  · exact .inl h2
  · exact .inr ⟨g, cap, cur, a1, a2, (hb.block _ (lt_of_block a3)).trans a3, a4⟩
theorem items_step (ps : List P3) (k : Nat) (h : k < ps.length) : (ps.take (k + 1)).map itemOf = (ps.take k).map itemOf ++ [itemOf (nthP ps k)] := by
  have e : ps.take (k + 1) = ps.take k ++ [ps[k]] := by rw [List.take_add_one, List.getElem?_eq_getElem h]; rfl
  have e2 : nthP ps k = ps[k] := by unfold nthP; rw [List.getElem?_eq_getElem h]; rfl
  rw [e, e2, List.map_append]; rfl
set_option maxHeartbeats 3200000 in
set_option maxRecDepth 20000 in
theorem iof_some (lo hi : Int) (A : Option Addr) (c : Nat) (zs : List Int) (w : World) (hl : zs.length ≤ 1000) (hc : Ints .i64 w A zs) (hcap : zs.length ≤ c) (hr : Rise zs) (h0 : 0 < zs.length) (hp0 : 0 < (pieces zs).length) (hp1 : (pieces zs).length ≤ 1000)
    (hpb : ∀ k, k < (pieces zs).length → I64 (nthP (pieces zs) k).1 ∧ I64 (nthP (pieces zs) k).2.1 ∧ I64 (nthP (pieces zs) k).2.2) (e1 : zs[0]?.getD 0 = lo) (e2 : zs[zs.length - 1]?.getD 0 ≠ hi) :
    Calls Try.prog 17 #[.int .i64 lo, .int .i64 hi, .slice A zs.length c, .bool true] w fun e w' => ∃ B d, e = .returned (.slice B (pieces zs).length d) ∧ ItemsAt w' B ((pieces zs).map itemOf) ∧ Below w.heap.size w w' := by
  obtain ⟨i0, hi', hz0, hz1, hz2⟩ := info_parts info_item
  have K1 := of_yes A c zs w (by omega) hc hcap hr
  have HC := Lib.hid hc
  have HPB := Lib.hid hpb
  generalize pieces zs = ps at *
  unfold GivesP at K1
  have HPL := Lib.hid (And.intro hp0 hp1)
  have hne : ((ps.length : Int) == 0) = false := by rw [beq_eq_false_iff_ne]; omega
  have hne2 : (ps.length == 0) = false := by rw [beq_eq_false_iff_ne]; omega
  have b2 : (zs[zs.length - 1]?.getD 0 == hi) = false := by rw [beq_eq_false_iff_ne]; exact e2
  clear hc hr hpb hp0 hp1
  go_enter Try.func17, Try.ntmps17
  go_wp2_with fail
  refine K1.mono ?_
  clear K1
  rintro e w1 ⟨B, d, rfl, hp, hb, hcp⟩
  obtain ⟨b, off, rfl, hcell⟩ := cell_at (HC.out.below hb) h0
  have x0 : w1.cell? ⟨b, off, none⟩ = some (.int .i64 (zs[0]?.getD 0)) := hcell 0 h0
  have x1 := hcell (zs.length - 1) (by omega)
  rw [e1] at x0
  have ik0 : (0 : Int) ≤ (zs.length : Int) - 1 := by omega
  have ik1 : (zs.length : Int) - 1 < (zs.length : Int) := by omega
  have ikn : ((zs.length : Int) - 1) = ((zs.length - 1 : Nat) : Int) := by omega
  have wl : IntKind.i64.wrap ((zs.length : Int) - 1) = ((zs.length - 1 : Nat) : Int) := (IntWalk.i64_in _ ⟨by omega, by omega⟩).trans ikn
  have ln0 : (0 : Int) < (zs.length : Int) := by omega
  have ln1 : 0 < zs.length := h0
  have ln2 : ((zs.length - 1 : Nat) : Int) < (zs.length : Int) := by omega
  have ln3 : zs.length - 1 < zs.length := by omega
  have HP := Lib.hid hp
  have HB := Lib.hid hb
  clear hcell hp hb hcap hcp e1 e2
  generalize zs[zs.length - 1]?.getD 0 = zl at x1 b2
  have HMK := Lib.hid (show i0.bytes * ps.length ≤ 281474976710656 ∧ ps.length ≤ maxLen by
    have := HPL.out
    rw [hz2]
    unfold maxLen
    omega)
  go_wp2_with (refine wpList_make_own _ rfl _ _ 22 rfl w1.heap.size 27 i0 (.agg #[.int .i64 0, .int .i64 0, .int .i64 0, .int .i64 0]) 4 Try.underlying22 hi' hz0 hz1 .i64 .i64 (ps.length : Int) ps.length rfl rfl rfl HMK.out.1 HMK.out.2 (Nat.le_refl _) ?_)
  intro w2 hown hgrow
  have HO2 := Lib.hid (show OwnQ w2 w1.heap.size (.slice (some ⟨w1.heap.size, 0, none⟩) 0 ps.length) ((ps.take 0).map itemOf) from hown)
  have HB2 := Lib.hid (Below.grown (Below.refl w1.heap.size w1) hgrow (Nat.le_refl _) (fun k hk => by cases hk))
  clear hown hgrow HMK x0 x1 ik0 ik1 ikn wl ln0 ln1 ln2 ln3 b2
  go_wp2
  go_loopw [10, 52] (fun v i wr => ∃ k : Nat, k ≤ ps.length ∧ i = .int .i64 k ∧ OwnQ wr w1.heap.size v ((ps.take k).map itemOf) ∧ Below w1.heap.size w1 wr) (fun _ i _ => ps.length - (intOf i).toNat)
  case atStart => exact ⟨0, by omega, rfl, HO2.out, HB2.out⟩
  case round =>
    obtain ⟨k, hk, rfl, hown, hb2⟩ := hrel
    have HO := Lib.hid hown
    have HB3 := Lib.hid hb2
    by_cases hlt : k < ps.length
    · have d0 : decide (k < ps.length) = true := dec_t hlt
      obtain ⟨b1, off1, rfl, hbl, y0, y1, y2⟩ := (HP.out.below hb2) k hlt
      obtain ⟨i1, i2, i3⟩ := HPB.out k hlt
      have ik0 : (0 : Int) ≤ (k : Int) := by omega
      have ik1 : (k : Int) < (ps.length : Int) := by omega
      have hkl := HPL.out
      have hw1 : IntKind.i64.wrap ((k : Int) + 1) = (k : Int) + 1 := IntWalk.i64_in _ ⟨by omega, by omega⟩
      have HST := Lib.hid (items_step ps k hlt)
      have HLN := Lib.hid (show ((ps.take k).map itemOf).length = k ∧ k ≤ 1000 by
        rw [List.length_map, List.length_take]; omega)
      generalize nthP ps k = q at y0 y1 y2 i1 i2 i3 HST
      generalize (ps.take k).map itemOf = rs at HO HST HLN
      obtain ⟨q1, q2, q3⟩ := q
      have KL := fun W => len_any q1 q2 q3 W i1 i2 i3
      have HB4 := Lib.hid (HB3.out.alloc HB3.out.size (.cells #[.int .i64 q1, .int .i64 q2, .int .i64 q3] 55))
      have HO4 := Lib.hid (show OwnQ (wr.alloc (.cells #[.int .i64 q1, .int .i64 q2, .int .i64 q3] 55)) w1.heap.size u10 rs from HO.out.below ((Below.refl _ _).alloc (Nat.le_refl _) _))
      have HX := Lib.hid (blk_new wr (.cells #[.int .i64 q1, .int .i64 q2, .int .i64 q3] 55))
      have HSZ := Lib.hid HB3.out.size
      clear hb2 i1 i2 i3 hkl hown
      simp only at y0 y1 y2
      by_cases hone : lenN (q1, q2, q3) = 1
      · have hb1 : ((lenN (q1, q2, q3) : Nat) : Int) = 1 := by omega
        have HI := Lib.hid (show itemOf (q1, q2, q3) = (1, q1, 0, 0) from if_pos hone)
        rw [hb1] at KL
        clear hb1 hone
        go_wp2_with fail
        refine (KL _).mono ?_
        rintro e w3 ⟨rfl, hb3⟩
        have HB5 := Lib.hid (HB4.out.trans (hb3.mono HB4.out.size))
        have HO5 := Lib.hid (HO4.out.below hb3)
        have hy := (hb3.block _ (lt_of_block HX.out)).trans HX.out
        have z0 : w3.cell? ⟨wr.heap.size, 0, none⟩ = some (.int .i64 q1) := blk_cell hy 0
        have z1 : w3.cell? ⟨wr.heap.size, 1, none⟩ = some (.int .i64 q2) := blk_cell hy 1
        have z2 : w3.cell? ⟨wr.heap.size, 2, none⟩ = some (.int .i64 q3) := blk_cell hy 2
        have HZ := Lib.hid HB5.out.size
        clear hb3 hy KL y0 y1 y2
        go_wp2_with ((at_builtin; refine wpList_append_own _ rfl _ _ 22 rfl w1.heap.size 27 i0 (.agg #[.int .i64 0, .int .i64 0, .int .i64 0, .int .i64 0]) 4 32 Try.underlying22 hi' hz0 hz1 hz2 rfl (by decide) _ _ _ rfl (World.ownsRow.alloc HO5.out _) ⟨w3.heap.size, 0, none⟩ 1 1 [.int .i64 1, .int .i64 q1, .int .i64 0, .int .i64 0] rfl rfl ?c1 ?c2 ?c3 ?c4 ?c5 ?_))
        case c1 =>
          intro j u hj
          match j, hj with
          | 0, hj => cases hj; exact cell_new _ _ _ 0
          | 1, hj => cases hj; exact cell_new _ _ _ 1
          | 2, hj => cases hj; exact cell_new _ _ _ 2
          | 3, hj => cases hj; exact cell_new _ _ _ 3
          | j + 4, hj => cases hj
        case c2 => simp [Value.oneCell']
        case c3 => have := HLN.out; unfold maxLen; omega
        case c4 => have := HLN.out; omega
        case c5 => have := HZ.out; simp; omega
        intro v' w4 hown1 hgrow _
        have HO6 := Lib.hid (OwnQ.snoc (q := (1, q1, 0, 0)) hown1)
        have HB6 := Lib.hid (Below.grown ((HB5.out.alloc HB5.out.size (.cells #[.int .i64 1, .int .i64 q1, .int .i64 0, .int .i64 0] 27))) hgrow (by have := HZ.out; simp; omega) (ownq_block HO5.out))
        clear hown1 hgrow z0 z1 z2
        go_wp2
        go_roundw
        case rel => exact ⟨k + 1, by omega, by go_num, by rw [HST.out, HI.out]; exact HO6.out, HB6.out⟩
        case measure => simp [intOf]; omega
      · have hb1 : (((lenN (q1, q2, q3) : Nat) : Int) == 1) = false := by rw [beq_eq_false_iff_ne]; omega
        have hb1n : (lenN (q1, q2, q3) == 1) = false := by rw [beq_eq_false_iff_ne]; exact hone
        have HI := Lib.hid (show itemOf (q1, q2, q3) = (2, q1, q2, q3) from if_neg hone)
        generalize lenN (q1, q2, q3) = ln at KL hb1 hb1n
        clear hone
        go_wp2_with fail
        refine (KL _).mono ?_
        rintro e w3 ⟨rfl, hb3⟩
        have HB5 := Lib.hid (HB4.out.trans (hb3.mono HB4.out.size))
        have HO5 := Lib.hid (HO4.out.below hb3)
        have hy := (hb3.block _ (lt_of_block HX.out)).trans HX.out
        have z0 : w3.cell? ⟨wr.heap.size, 0, none⟩ = some (.int .i64 q1) := blk_cell hy 0
        have z1 : w3.cell? ⟨wr.heap.size, 1, none⟩ = some (.int .i64 q2) := blk_cell hy 1
        have z2 : w3.cell? ⟨wr.heap.size, 2, none⟩ = some (.int .i64 q3) := blk_cell hy 2
        have HZ := Lib.hid HB5.out.size
        clear hb3 hy KL y0 y1 y2
        go_wp2_with ((at_builtin; refine wpList_append_own _ rfl _ _ 22 rfl w1.heap.size 27 i0 (.agg #[.int .i64 0, .int .i64 0, .int .i64 0, .int .i64 0]) 4 32 Try.underlying22 hi' hz0 hz1 hz2 rfl (by decide) _ _ _ rfl (World.ownsRow.alloc HO5.out _) ⟨w3.heap.size, 0, none⟩ 1 1 [.int .i64 2, .int .i64 q1, .int .i64 q2, .int .i64 q3] rfl rfl ?c1 ?c2 ?c3 ?c4 ?c5 ?_))
        case c1 =>
          intro j u hj
          match j, hj with
          | 0, hj => cases hj; exact cell_new _ _ _ 0
          | 1, hj => cases hj; exact cell_new _ _ _ 1
          | 2, hj => cases hj; exact cell_new _ _ _ 2
          | 3, hj => cases hj; exact cell_new _ _ _ 3
          | j + 4, hj => cases hj
        case c2 => simp [Value.oneCell']
        case c3 => have := HLN.out; unfold maxLen; omega
        case c4 => have := HLN.out; omega
        case c5 => have := HZ.out; simp; omega
        intro v' w4 hown1 hgrow _
        have HO6 := Lib.hid (OwnQ.snoc (q := (2, q1, q2, q3)) hown1)
        have HB6 := Lib.hid (Below.grown ((HB5.out.alloc HB5.out.size (.cells #[.int .i64 2, .int .i64 q1, .int .i64 q2, .int .i64 q3] 27))) hgrow (by have := HZ.out; simp; omega) (ownq_block HO5.out))
        clear hown1 hgrow z0 z1 z2
        go_wp2
        go_roundw
        case rel => exact ⟨k + 1, by omega, by go_num, by rw [HST.out, HI.out]; exact HO6.out, HB6.out⟩
        case measure => simp [intOf]; omega
    · obtain rfl : k = ps.length := by omega
      rw [List.take_length] at HO
      obtain ⟨B', d', rfl, hat, hcc⟩ := HO.out.at
      have HAT := Lib.hid hat
      have HLL := Lib.hid (show (ps.map itemOf).length = ps.length from List.length_map ..)
      have HBF := Lib.hid (HB.out.trans (HB3.out.mono HB.out.size))
      clear hat hcc hown hb2 hlt
      go_wp2
      go_ret
      exact ⟨B', d', by rw [← HLL.out]; rfl, HAT.out, HBF.out⟩
end Go.Proofs.Ytbfndcogieiejaa
