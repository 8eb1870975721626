/- wide.Either (layer 4). -/
import Derived.Test.YtjpdfbljhbgbcaaDoorWdC
namespace Go.Proofs.YtjpdfbljhbgbcaaDoor
open Go.RowKit
set_option linter.unusedVariables false

theorem or_nat (a b : Nat) (ha : a < 18446744073709551616) (hb : b < 18446744073709551616) : bits BinOp.or IntKind.u64 ((a : Nat) : Int) ((b : Nat) : Int) = ((a ||| b : Nat) : Int) := u64_or_nat a b ha hb
theorem orP_step (Ps : List (Nat → Bool)) (k : Nat) (h : k < Ps.length) (j : Nat) : bits BinOp.or IntKind.u64 ((wv (orP (Ps.take k)) j : Nat) : Int) ((wv (Ps[k]?.getD fun _ => false) j : Nat) : Int) = ((wv (orP (Ps.take (k + 1))) j : Nat) : Int) := by
  rw [or_nat _ _ (wv_lt _ _) (wv_lt _ _), wv_or, take_stepP Ps k h]
  congr 1
  exact wv_congr fun i _ => by unfold orP; rw [List.any_append]; simp
theorem sets_one (w : World) (Q : Nat → Bool) (t : TypeId) : Sets (w.alloc (.cells (c7 (wv Q)) t)) (some ⟨w.heap.size, 0, none⟩) [Q] := fun k hk => by
  obtain rfl : k = 0 := by simp at hk; omega
  refine ⟨w.heap.size, 0, rfl, by simp, fun j hj => ?_⟩
  rw [blk_cell (blk_new w _), show 0 + 0 * 7 + j = j by omega, c7_get _ j hj]
  rfl
theorem sets_two (w : World) (Q R : Nat → Bool) (t : TypeId) (cs : Array Value) (hcs : cs = c7 (wv Q) ++ c7 (wv R)) : Sets (w.alloc (.cells cs t)) (some ⟨w.heap.size, 0, none⟩) [Q, R] := fun k hk => by
  subst hcs
  simp at hk
  refine ⟨w.heap.size, 0, rfl, by simp, fun j hj => ?_⟩
  rw [blk_cell (blk_new w _)]
  by_cases h : k = 0
  · subst h
    rw [show 0 + 0 * 7 + j = j by omega, Array.getElem?_append_left (by rw [c7_size]; exact hj), c7_get _ j hj]
    rfl
  · obtain rfl : k = 1 := by omega
    rw [show 0 + 1 * 7 + j = 7 + j by omega, Array.getElem?_append_right (by rw [c7_size]; omega), c7_size, show 7 + j - 7 = j by omega, c7_get _ j hj]
    rfl
/-- Both of one set, as the program calls it -/
theorem both_one (Q : Nat → Bool) (w : World) : Calls Tryd.prog 22 #[.slice (some ⟨w.heap.size, 0, none⟩) 1 1] (w.alloc (.cells (c7 (wv Q)) 34)) fun e w' => e = .returned (S7 (clip Q)) ∧ Below w.heap.size w w' := by
  refine (both_any (some ⟨w.heap.size, 0, none⟩) 1 [Q] _ (by simp) (sets_one w Q _)).mono ?_
  rintro e w' ⟨rfl, hb⟩
  refine ⟨by rw [S7_congr fun i _ => show andP [Q] i = clip Q i by simp [andP, clip, fullW, Bool.and_comm]], ((Below.refl _ _).alloc (Nat.le_refl _) _).trans (hb.mono (by simp))⟩
theorem sets_at {w : World} {g : Nat} {Q : Nat → Bool} (h : Sev w g (wv Q)) : Sets w (some ⟨g, 0, none⟩) [Q] := fun k hk => by
  obtain rfl : k = 0 := by simp at hk; omega
  refine ⟨g, 0, rfl, h.lt, fun j hj => ?_⟩
  rw [show 0 + 0 * 7 + j = j by omega]
  exact h.cell j hj
theorem both_at (Q : Nat → Bool) (w : World) (g : Nat) (h : Sev w g (wv Q)) : Calls Tryd.prog 22 #[.slice (some ⟨g, 0, none⟩) 1 1] w fun e w' => e = .returned (S7 (clip Q)) ∧ Below w.heap.size w w' := by
  refine (both_any (some ⟨g, 0, none⟩) 1 [Q] _ (by simp) (sets_at h)).mono ?_
  rintro e w' ⟨rfl, hb⟩
  exact ⟨by rw [S7_congr fun i _ => show andP [Q] i = clip Q i by simp [andP, clip, fullW, Bool.and_comm]], hb⟩
/-- what is in one of the sets, of numbers that count -/
def eitherP (Ps : List (Nat → Bool)) : Nat → Bool := clip (orP Ps)
set_option maxHeartbeats 3200000 in
set_option maxRecDepth 20000 in
theorem either_any (A : Option Addr) (c : Nat) (Ps : List (Nat → Bool)) (w : World) (hl : Ps.length ≤ 1000000) (hc : Sets w A Ps) :
    Calls Tryd.prog 23 #[.slice A Ps.length c] w fun e w' => e = .returned (S7 (eitherP Ps)) ∧ Below w.heap.size w w' := by
  have HC := Lib.hid hc
  have KB := fun W => both_one (orP Ps) W
  unfold S7 c7 at KB
  have HR1 := Lib.hid ((Sev.new w (fun _ => 0)).alloc (.cells (c7 fun _ => 0) 34))
  have HS1 := Lib.hid (show Sev ((w.alloc (.cells (c7 fun _ => 0) 34)).alloc (.cells (c7 fun _ => 0) 34)) (w.heap.size + 1) (fun _ => 0) by
    have q := Sev.new (w.alloc (.cells (c7 fun _ => 0) 34)) (fun _ => 0)
    rwa [World.size_alloc] at q)
  have HB1 := Lib.hid (show Below w.heap.size w ((w.alloc (.cells (c7 fun _ => 0) 34)).alloc (.cells (c7 fun _ => 0) 34)) from ((Below.refl _ _).alloc (Nat.le_refl _) _).alloc (by simp) _)
  have HL1 := Lib.hid (show w.heap.size < w.heap.size + 1 by omega)
  have HKB := Lib.hid KB
  clear hc KB
  go_enter Tryd.func23, Tryd.ntmps23
  go_wp2
  generalize hg : w.heap.size + 1 = g at HS1 HL1
  go_loopw [9] (fun i wr => ∃ k : Nat, k ≤ Ps.length ∧ i = .int .i64 k ∧ Sev wr g (wv (orP (Ps.take k))) ∧ Sev wr w.heap.size (fun _ => 0) ∧ Below w.heap.size w wr) (fun i _ => Ps.length - (intOf i).toNat)
  case atStart => exact ⟨0, by omega, rfl, HS1.out.congr fun j _ => zero_wv _ (fun i => by simp [orP]) j, HR1.out, HB1.out⟩
  case round =>
    obtain ⟨k, hk, rfl, hs, hr, hb⟩ := hrel
    have HS := Lib.hid hs
    have HR := Lib.hid hr
    have HB := Lib.hid hb
    by_cases hlt : k < Ps.length
    · obtain ⟨b, off, rfl, hbl, hcell⟩ := (Sets.below HC.out HB.out) k hlt
      have d3 := dec_t hlt
      have HP := Lib.hid (fun j => orP_step Ps k hlt j)
      clear hs hr hb
      generalize hf : wv (Ps[k]?.getD fun _ => false) = f at hcell HP
      clear hf
      obtain ⟨x0, x1, x2, x3, x4, x5, x6⟩ := sets_cells hcell
      have HS2 := Lib.hid ((HS.out.alloc (.cells (c7 f) 34)).congr fun j _ => (show wv (orP (Ps.take k)) j = upd (wv (orP (Ps.take k))) (wv (orP (Ps.take (k + 1)))) 0 j by unfold upd; rw [if_neg (by omega)]))
      have HR2 := Lib.hid (HR.out.alloc (.cells (c7 f) 34))
      have HF2 := Lib.hid (Sev.new wr f)
      have HB2 := Lib.hid (HB.out.alloc HB.out.size (.cells (c7 f) 34))
      have l1 := HS.out.lt
      have l2 := HR.out.lt
      generalize hh : wr.heap.size = h at HF2 l1 l2
      clear hcell hbl
      go_wp2
      go_loopw [13] (fun i wx => ∃ j : Nat, j ≤ 7 ∧ i = .int .i64 j ∧ Sev wx g (upd (wv (orP (Ps.take k))) (wv (orP (Ps.take (k + 1)))) j) ∧ Sev wx w.heap.size (fun _ => 0) ∧ Sev wx h f ∧ Below w.heap.size w wx) (fun i _ => 7 - (intOf i).toNat)
      case atStart => exact ⟨0, by omega, rfl, HS2.out, HR2.out, HF2.out, HB2.out⟩
      case round =>
        obtain ⟨j, hj, rfl, hs, hr, hf, hb⟩ := hrel
        have HS3 := Lib.hid hs
        have HR3 := Lib.hid hr
        have HF3 := Lib.hid hf
        have HB3 := Lib.hid hb
        have l0 := HL1.out
        by_cases hjl : j < 7
        · have ck := hs.cell j hjl
          rw [show upd (wv (orP (Ps.take k))) (wv (orP (Ps.take (k + 1)))) j j = wv (orP (Ps.take k)) j by unfold upd; rw [if_neg (by omega)]] at ck
          have fk := hs.free j
          have ch := hf.cell j hjl
          have hv := HP.out j
          have d4 : decide ((j : Int) < 7) = true := decide_eq_true (by omega)
          clear hs hr hb hf x0 x1 x2 x3 x4 x5 x6
          go_wp2
          go_region
          go_wp2
          go_roundw
          case rel => exact ⟨j + 1, by omega, by go_num, (HS3.out.put (g := upd (wv (orP (Ps.take k))) (wv (orP (Ps.take (k + 1)))) (j + 1)) j _ hjl (by unfold upd; rw [if_pos (by omega)]) (fun i _ hne => by unfold upd; split <;> split <;> first | rfl | omega)).drew, (HR3.out.other _ _ _ (by omega)).drew, (HF3.out.other _ _ _ (by omega)).drew, (HB3.out.setCell (by show w.heap.size ≤ g; omega) _).drew⟩
          case measure => simp [intOf]; omega
        · obtain rfl : j = 7 := by omega
          clear hs hr hb hf x0 x1 x2 x3 x4 x5 x6
          go_wp2
          go_roundw
          case rel => exact ⟨k + 1, by omega, by go_num, HS3.out.congr (fun i hi => by unfold upd; rw [if_pos hi]), HR3.out, HB3.out⟩
          case measure => simp [intOf]; omega
    · obtain rfl : k = Ps.length := by omega
      rw [List.take_length] at HS hs
      obtain ⟨x0, x1, x2, x3, x4, x5, x6⟩ := HS.out.cells
      have l0 := HL1.out
      clear hs hr hb
      go_wp2_with fail
      refine (HKB.out _).mono ?_
      rintro e w2 ⟨rfl, hb2⟩
      have HR4 := Lib.hid (HR.out.below hb2)
      have HB4 := Lib.hid (HB.out.trans (hb2.mono HB.out.size))
      clear hb2 x0 x1 x2 x3 x4 x5 x6
      obtain ⟨y0, y1, y2, y3, y4, y5, y6⟩ := HR4.out.cells
      obtain ⟨z0, z1, z2, z3, z4, z5, z6⟩ := HR4.out.frees
      go_wp2
      obtain ⟨q1, q2⟩ := HR4.out.put7 (wv (eitherP Ps))
      refine bodyPost_ret (results7 rfl rfl q1) rfl ⟨rfl, Below.but HB4.out q2 (fun i hi hx => by omega)⟩
end Go.Proofs.YtjpdfbljhbgbcaaDoor
