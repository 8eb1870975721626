/- Contracts of Check and Great over all fields, of package cron and of the document (layers 24, 28). -/
import Derived.Test.YtahlegempjlbbaaDoorCrB
namespace Go.Proofs.YtahlegempjlbbaaDoor
open Go.RowKit
set_option linter.unusedVariables false

/-- the first fault of fields: where, and which; behind the last one there is none -/
def chkGo (E : Nat → Int) : Nat → Nat → Int × Int
  | f, 0 => ((f : Int), 0)
  | f, m + 1 => if E f = 0 then chkGo E (f + 1) m else ((f : Int), E f)
theorem chkGo_ok (E : Nat → Int) (f m : Nat) (h : E f = 0) : chkGo E f (m + 1) = chkGo E (f + 1) m := by
  conv => lhs; unfold chkGo
  rw [if_pos h]
theorem chkGo_no (E : Nat → Int) (f m : Nat) (h : E f ≠ 0) : chkGo E f (m + 1) = ((f : Int), E f) := by
  conv => lhs; unfold chkGo
  rw [if_neg h]
set_option maxHeartbeats 1600000 in
set_option maxRecDepth 20000 in
theorem checkCr_all (A : Nat → Option Addr) (c : Nat → Nat) (L : Nat → List Q4) (w : World) (hL : Lists 5 w A c L) (hl : ∀ f, f < 5 → (L f).length ≤ 1000000) (hT : TabCr w) :
    Calls Tryd.prog 11 #[vCr A c L] w fun e w' => e = .returned (.tuple #[.int .i64 (chkGo (fun f => chkCr f (L f)) 0 5).1, .int .i64 (chkGo (fun f => chkCr f (L f)) 0 5).2]) ∧ Below w.heap.size w w' := by
  have HL := Lib.hid hL
  have HT := Lib.hid hT
  have HLen := Lib.hid hl
  clear hL hT hl
  have KF := Lib.hid (fun f hf W hW hlf => fieldCr_any f hf A c L W hW hlf)
  have KC := Lib.hid (fun f hf A' c' W hlf hq hT' => checkCr_any f hf A' c' (L f) W hlf hq hT')
  obtain ⟨E, hE⟩ : ∃ E : Nat → Int, ∀ f, chkCr f (L f) = E f := ⟨fun f => chkCr f (L f), fun _ => rfl⟩
  have HEE := Lib.hid hE
  have HEQ := Lib.hid (show (fun f => chkCr f (L f)) = E from funext hE)
  rw [HEQ.out]
  clear hE
  have HG0 := Lib.hid (blk_new w (.cells #[.slice (A 0) (L 0).length (c 0), .slice (A 1) (L 1).length (c 1), .slice (A 2) (L 2).length (c 2), .slice (A 3) (L 3).length (c 3), .slice (A 4) (L 4).length (c 4)] 24))
  have HB0 := Lib.hid (show Below w.heap.size w (w.alloc (.cells #[.slice (A 0) (L 0).length (c 0), .slice (A 1) (L 1).length (c 1), .slice (A 2) (L 2).length (c 2), .slice (A 3) (L 3).length (c 3), .slice (A 4) (L 4).length (c 4)] 24)) from (Below.refl _ _).alloc (Nat.le_refl _) _)
  unfold vCr
  go_enter Tryd.func11, Tryd.ntmps11
  go_wp2
  go_loopw [6] (fun i wr => ∃ k : Nat, k ≤ 5 ∧ i = .int .i64 k ∧ chkGo E k (5 - k) = chkGo E 0 5 ∧ wr.heap[w.heap.size]? = some (.cells #[.slice (A 0) (L 0).length (c 0), .slice (A 1) (L 1).length (c 1), .slice (A 2) (L 2).length (c 2), .slice (A 3) (L 3).length (c 3), .slice (A 4) (L 4).length (c 4)] 24 (0, 0)) ∧ Below w.heap.size w wr) (fun i _ => 5 - (intOf i).toNat)
  case atStart => exact ⟨0, Nat.zero_le _, rfl, rfl, HG0.out, HB0.out⟩
  case round =>
    obtain ⟨k, hk, rfl, hgo, hg, hb⟩ := hrel
    have HGO := Lib.hid hgo
    have HG := Lib.hid hg
    have HB := Lib.hid hb
    by_cases hlt : k < 5
    · have K1 := KF.out k hlt wr (HL.out.below hb) (HLen.out k hlt)
      have hgl := lt_of_block hg
      have x0 : wr.cell? ⟨w.heap.size, 0, none⟩ = some (.slice (A 0) (L 0).length (c 0)) := blk_cell hg 0
      have x1 : wr.cell? ⟨w.heap.size, 1, none⟩ = some (.slice (A 1) (L 1).length (c 1)) := blk_cell hg 1
      have x2 : wr.cell? ⟨w.heap.size, 2, none⟩ = some (.slice (A 2) (L 2).length (c 2)) := blk_cell hg 2
      have x3 : wr.cell? ⟨w.heap.size, 3, none⟩ = some (.slice (A 3) (L 3).length (c 3)) := blk_cell hg 3
      have x4 : wr.cell? ⟨w.heap.size, 4, none⟩ = some (.slice (A 4) (L 4).length (c 4)) := blk_cell hg 4
      have HOK := Lib.hid (fun h => chkGo_ok E k (5 - (k + 1)) h)
      have HNO := Lib.hid (fun h => chkGo_no E k (5 - (k + 1)) h)
      rw [show 5 - (k + 1) + 1 = 5 - k by omega] at HOK HNO
      clear hgo hg hb
      unfold vCr at K1
      have dk : decide ((k : Int) < 5) = true := dec_t (by omega)
      go_wp2_with fail
      refine K1.mono ?_
      rintro e w1 ⟨A1, c1, rfl, hat, hb1, _, _⟩
      have HB1 := Lib.hid (HB.out.trans (hb1.mono HB.out.size))
      have hg1 := (hb1.block _ hgl).trans HG.out
      have K2 := KC.out k hlt A1 c1 w1 (HLen.out k hlt) hat (HT.out.below HB1.out)
      rw [HEE.out] at K2
      have hgl1 := lt_of_block hg1
      have HG1 := Lib.hid hg1
      clear K1 hat hb1 hg1
      go_wp2_with fail
      refine K2.mono ?_
      rintro e w2 ⟨rfl, hb2⟩
      have HB2 := Lib.hid (HB1.out.trans (hb2.mono HB1.out.size))
      have HG2 := Lib.hid ((hb2.block _ hgl1).trans HG1.out)
      clear K2 hb2
      by_cases he : E k = 0
      · have HN := Lib.hid (HOK.out he)
        have d0 : (E k == 0) = true := by rw [beq_iff_eq]; exact he
        have d1 : (E k != 0) = false := by rw [bne_eq_false_iff_eq]; exact he
        generalize E k = ek at d0 d1 ⊢
        clear he dk
        go_wp2
        go_roundw
        case rel => exact ⟨k + 1, by omega, by go_num, by rw [← HN.out]; exact HGO.out, HG2.out, HB2.out⟩
        case measure => simp [intOf]; omega
      · have HX := Lib.hid (HGO.out.symm.trans (HNO.out he))
        have d0 : (E k == 0) = false := by rw [beq_eq_false_iff_ne]; exact he
        have d1 : (E k != 0) = true := by rw [bne_iff_ne]; exact he
        clear he dk
        go_wp2
        go_ret2
        exact ⟨by rw [HX.out]; rfl, HB2.out⟩
    · obtain rfl : k = 5 := by omega
      have HX := Lib.hid (show chkGo E 0 5 = (5, 0) from HGO.out.symm)
      clear hgo hg hb hlt
      go_wp2
      go_ret2
      exact ⟨by rw [HX.out]; rfl, HB.out⟩
set_option maxHeartbeats 1600000 in
set_option maxRecDepth 20000 in
theorem greatCr_no (A : Nat → Option Addr) (c : Nat → Nat) (L : Nat → List Q4) (w : World) (h : ∀ f, f < 5 → (L f).length ≤ 200) :
    Calls Tryd.prog 4 #[vCr A c L] w fun e w' => e = .returned (.bool false) ∧ Below w.heap.size w w' := by
  have KF := Lib.hid (fun f hf W => rfieldCr_any f hf A c L W)
  have HG0 := Lib.hid (blk_new w (.cells #[.slice (A 0) (L 0).length (c 0), .slice (A 1) (L 1).length (c 1), .slice (A 2) (L 2).length (c 2), .slice (A 3) (L 3).length (c 3), .slice (A 4) (L 4).length (c 4)] 24))
  have HB0 := Lib.hid (show Below w.heap.size w (w.alloc (.cells #[.slice (A 0) (L 0).length (c 0), .slice (A 1) (L 1).length (c 1), .slice (A 2) (L 2).length (c 2), .slice (A 3) (L 3).length (c 3), .slice (A 4) (L 4).length (c 4)] 24)) from (Below.refl _ _).alloc (Nat.le_refl _) _)
  have HH := Lib.hid h
  clear h
  unfold vCr
  go_enter Tryd.func4, Tryd.ntmps4
  go_wp2
  go_loopw [3] (fun i wr => ∃ k : Nat, k ≤ 5 ∧ i = .int .i64 k ∧ wr.heap[w.heap.size]? = some (.cells #[.slice (A 0) (L 0).length (c 0), .slice (A 1) (L 1).length (c 1), .slice (A 2) (L 2).length (c 2), .slice (A 3) (L 3).length (c 3), .slice (A 4) (L 4).length (c 4)] 24 (0, 0)) ∧ Below w.heap.size w wr) (fun i _ => 5 - (intOf i).toNat)
  case atStart => exact ⟨0, Nat.zero_le _, rfl, HG0.out, HB0.out⟩
  case round =>
    obtain ⟨k, hk, rfl, hg, hb⟩ := hrel
    have HG := Lib.hid hg
    have HB := Lib.hid hb
    by_cases hlt : k < 5
    · have K1 := KF.out k hlt wr
      have hgl := lt_of_block hg
      have x0 : wr.cell? ⟨w.heap.size, 0, none⟩ = some (.slice (A 0) (L 0).length (c 0)) := blk_cell hg 0
      have x1 : wr.cell? ⟨w.heap.size, 1, none⟩ = some (.slice (A 1) (L 1).length (c 1)) := blk_cell hg 1
      have x2 : wr.cell? ⟨w.heap.size, 2, none⟩ = some (.slice (A 2) (L 2).length (c 2)) := blk_cell hg 2
      have x3 : wr.cell? ⟨w.heap.size, 3, none⟩ = some (.slice (A 3) (L 3).length (c 3)) := blk_cell hg 3
      have x4 : wr.cell? ⟨w.heap.size, 4, none⟩ = some (.slice (A 4) (L 4).length (c 4)) := blk_cell hg 4
      clear hg hb
      unfold vCr at K1
      have dk : decide ((k : Int) < 5) = true := dec_t (by omega)
      go_wp2_with fail
      refine K1.mono ?_
      rintro e w1 ⟨rfl, hb1⟩
      have HB1 := Lib.hid (HB.out.trans (hb1.mono HB.out.size))
      have HG1 := Lib.hid ((hb1.block _ hgl).trans HG.out)
      clear K1 hb1

      have hle := HH.out k hlt
      have d1 : decide (200 < ((L k).length : Int)) = false := dec_n (by omega)
      have d2 : decide (200 < (L k).length) = false := dec_n (by omega)
      clear hle dk
      go_wp2
      go_roundw
      case rel => exact ⟨k + 1, by omega, by go_num, HG1.out, HB1.out⟩
      case measure => simp [intOf]; omega
    · obtain rfl : k = 5 := by omega
      go_wp2
      go_ret
      exact ⟨rfl, HB.out⟩
set_option maxHeartbeats 1600000 in
set_option maxRecDepth 20000 in
theorem greatCr_yes (A : Nat → Option Addr) (c : Nat → Nat) (L : Nat → List Q4) (w : World) (f0 : Nat) (hf0 : f0 < 5) (h : 200 < (L f0).length) :
    Calls Tryd.prog 4 #[vCr A c L] w fun e w' => e = .returned (.bool true) ∧ Below w.heap.size w w' := by
  have KF := Lib.hid (fun f hf W => rfieldCr_any f hf A c L W)
  have HG0 := Lib.hid (blk_new w (.cells #[.slice (A 0) (L 0).length (c 0), .slice (A 1) (L 1).length (c 1), .slice (A 2) (L 2).length (c 2), .slice (A 3) (L 3).length (c 3), .slice (A 4) (L 4).length (c 4)] 24))
  have HB0 := Lib.hid (show Below w.heap.size w (w.alloc (.cells #[.slice (A 0) (L 0).length (c 0), .slice (A 1) (L 1).length (c 1), .slice (A 2) (L 2).length (c 2), .slice (A 3) (L 3).length (c 3), .slice (A 4) (L 4).length (c 4)] 24)) from (Below.refl _ _).alloc (Nat.le_refl _) _)
  have HH := Lib.hid h
  clear h
  unfold vCr
  go_enter Tryd.func4, Tryd.ntmps4
  go_wp2
  go_loopw [3] (fun i wr => ∃ k : Nat, k ≤ 5 ∧ k ≤ f0 ∧ i = .int .i64 k ∧ wr.heap[w.heap.size]? = some (.cells #[.slice (A 0) (L 0).length (c 0), .slice (A 1) (L 1).length (c 1), .slice (A 2) (L 2).length (c 2), .slice (A 3) (L 3).length (c 3), .slice (A 4) (L 4).length (c 4)] 24 (0, 0)) ∧ Below w.heap.size w wr) (fun i _ => 5 - (intOf i).toNat)
  case atStart => exact ⟨0, Nat.zero_le _, Nat.zero_le _, rfl, HG0.out, HB0.out⟩
  case round =>
    obtain ⟨k, hk, hkf, rfl, hg, hb⟩ := hrel
    have HG := Lib.hid hg
    have HB := Lib.hid hb
    by_cases hlt : k < 5
    · have K1 := KF.out k hlt wr
      have hgl := lt_of_block hg
      have x0 : wr.cell? ⟨w.heap.size, 0, none⟩ = some (.slice (A 0) (L 0).length (c 0)) := blk_cell hg 0
      have x1 : wr.cell? ⟨w.heap.size, 1, none⟩ = some (.slice (A 1) (L 1).length (c 1)) := blk_cell hg 1
      have x2 : wr.cell? ⟨w.heap.size, 2, none⟩ = some (.slice (A 2) (L 2).length (c 2)) := blk_cell hg 2
      have x3 : wr.cell? ⟨w.heap.size, 3, none⟩ = some (.slice (A 3) (L 3).length (c 3)) := blk_cell hg 3
      have x4 : wr.cell? ⟨w.heap.size, 4, none⟩ = some (.slice (A 4) (L 4).length (c 4)) := blk_cell hg 4
      clear hg hb
      unfold vCr at K1
      have dk : decide ((k : Int) < 5) = true := dec_t (by omega)
      go_wp2_with fail
      refine K1.mono ?_
      rintro e w1 ⟨rfl, hb1⟩
      have HB1 := Lib.hid (HB.out.trans (hb1.mono HB.out.size))
      have HG1 := Lib.hid ((hb1.block _ hgl).trans HG.out)
      clear K1 hb1

      by_cases hgt : 200 < (L k).length
      · have d1 : decide (200 < ((L k).length : Int)) = true := dec_t (by omega)
        have d2 : decide (200 < (L k).length) = true := dec_t (by omega)
        clear hgt dk
        go_wp2
        go_ret
        exact ⟨rfl, HB1.out⟩
      · have d1 : decide (200 < ((L k).length : Int)) = false := dec_n (by omega)
        have d2 : decide (200 < (L k).length) = false := dec_n (by omega)
        have hkk : k + 1 ≤ f0 := by
          rcases Nat.lt_or_ge k f0 with h | h
          · omega
          · obtain rfl : k = f0 := by omega
            exact absurd HH.out hgt
        clear hgt dk
        go_wp2
        go_roundw
        case rel => exact ⟨k + 1, by omega, hkk, by go_num, HG1.out, HB1.out⟩
        case measure => simp [intOf]; omega
    · exfalso; omega
end Go.Proofs.YtahlegempjlbbaaDoor
