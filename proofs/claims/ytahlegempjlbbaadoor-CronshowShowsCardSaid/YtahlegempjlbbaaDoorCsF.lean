/- The text of a line: cronshow.Show and the document's own (layer 26). -/
import Derived.Test.YtahlegempjlbbaaDoorCsW
import Derived.Test.YtahlegempjlbbaaDoorCrE
namespace Go.Proofs.YtahlegempjlbbaaDoor
open Go.RowKit
set_option linter.unusedVariables false

set_option maxHeartbeats 3200000 in
set_option maxRecDepth 20000 in
theorem cshow_no (A : Nat → Option Addr) (c : Nat → Nat) (L : Nat → List Q4) (w : World) (hL : Lists 5 w A c L) (hl : ∀ f, f < 5 → (L f).length ≤ 1000) (hT : TabCr w) (hr : (chkGo (fun f => chkCr f (L f)) 0 5).2 ≠ 0) :
    Calls Tryd.prog 6 #[vCr A c L] w fun e w' => e = .returned (.tuple #[.string ⟨#[]⟩, .int .i64 (chkGo (fun f => chkCr f (L f)) 0 5).2]) ∧ Below w.heap.size w w' := by
  have HG0 := Lib.hid (blk_new w (.cells #[.slice (A 0) (L 0).length (c 0), .slice (A 1) (L 1).length (c 1), .slice (A 2) (L 2).length (c 2), .slice (A 3) (L 3).length (c 3), .slice (A 4) (L 4).length (c 4)] 24))
  have HB0 := Lib.hid (show Below w.heap.size w (w.alloc (.cells #[.slice (A 0) (L 0).length (c 0), .slice (A 1) (L 1).length (c 1), .slice (A 2) (L 2).length (c 2), .slice (A 3) (L 3).length (c 3), .slice (A 4) (L 4).length (c 4)] 24)) from (Below.refl _ _).alloc (Nat.le_refl _) _)
  have K2 := checkCr_all A c L (w.alloc (.cells #[.slice (A 0) (L 0).length (c 0), .slice (A 1) (L 1).length (c 1), .slice (A 2) (L 2).length (c 2), .slice (A 3) (L 3).length (c 3), .slice (A 4) (L 4).length (c 4)] 24)) (hL.below HB0.out) (fun f hf => by have := hl f hf; omega) (hT.below HB0.out)
  generalize (chkGo (fun f => chkCr f (L f)) 0 5).1 = r1 at K2
  generalize (chkGo (fun f => chkCr f (L f)) 0 5).2 = r2 at K2 hr ⊢
  have e1 : (r2 != 0) = true := by simp [hr]
  have e2 : (r2 == 0) = false := by rw [beq_eq_false_iff_ne]; exact hr
  have x0 : (w.alloc (.cells #[.slice (A 0) (L 0).length (c 0), .slice (A 1) (L 1).length (c 1), .slice (A 2) (L 2).length (c 2), .slice (A 3) (L 3).length (c 3), .slice (A 4) (L 4).length (c 4)] 24)).cell? ⟨w.heap.size, 0, none⟩ = some (.slice (A 0) (L 0).length (c 0)) := blk_cell HG0.out 0
  have x1 : (w.alloc (.cells #[.slice (A 0) (L 0).length (c 0), .slice (A 1) (L 1).length (c 1), .slice (A 2) (L 2).length (c 2), .slice (A 3) (L 3).length (c 3), .slice (A 4) (L 4).length (c 4)] 24)).cell? ⟨w.heap.size, 1, none⟩ = some (.slice (A 1) (L 1).length (c 1)) := blk_cell HG0.out 1
  have x2 : (w.alloc (.cells #[.slice (A 0) (L 0).length (c 0), .slice (A 1) (L 1).length (c 1), .slice (A 2) (L 2).length (c 2), .slice (A 3) (L 3).length (c 3), .slice (A 4) (L 4).length (c 4)] 24)).cell? ⟨w.heap.size, 2, none⟩ = some (.slice (A 2) (L 2).length (c 2)) := blk_cell HG0.out 2
  have x3 : (w.alloc (.cells #[.slice (A 0) (L 0).length (c 0), .slice (A 1) (L 1).length (c 1), .slice (A 2) (L 2).length (c 2), .slice (A 3) (L 3).length (c 3), .slice (A 4) (L 4).length (c 4)] 24)).cell? ⟨w.heap.size, 3, none⟩ = some (.slice (A 3) (L 3).length (c 3)) := blk_cell HG0.out 3
  have x4 : (w.alloc (.cells #[.slice (A 0) (L 0).length (c 0), .slice (A 1) (L 1).length (c 1), .slice (A 2) (L 2).length (c 2), .slice (A 3) (L 3).length (c 3), .slice (A 4) (L 4).length (c 4)] 24)).cell? ⟨w.heap.size, 4, none⟩ = some (.slice (A 4) (L 4).length (c 4)) := blk_cell HG0.out 4
  unfold vCr at K2 ⊢
  clear hL hl hT hr
  go_enter Tryd.func6, Tryd.ntmps6
  go_wp2_with fail
  refine K2.mono ?_
  rintro e w1 ⟨rfl, hb1⟩
  have HB1 := Lib.hid (HB0.out.trans (hb1.mono HB0.out.size))
  clear hb1 K2
  go_wp2
  go_ret2
  exact ⟨rfl, HB1.out⟩
set_option maxHeartbeats 3200000 in
set_option maxRecDepth 20000 in
theorem cshow_ok (A : Nat → Option Addr) (c : Nat → Nat) (L : Nat → List Q4) (w : World) (hL : Lists 5 w A c L) (hl : ∀ f, f < 5 → (L f).length ≤ 1000) (hin : ∀ f, f < 5 → ∀ k, k < (L f).length → Q4In (nthQ (L f) k)) (hT : TabCr w) (hP : TabP w) (hr : (chkGo (fun f => chkCr f (L f)) 0 5).2 = 0) :
    Calls Tryd.prog 6 #[vCr A c L] w fun e w' => e = .returned (.tuple #[.string (joinW (shTs L 5)), .int .i64 0]) ∧ Below w.heap.size w w' := by
  have HG0 := Lib.hid (blk_new w (.cells #[.slice (A 0) (L 0).length (c 0), .slice (A 1) (L 1).length (c 1), .slice (A 2) (L 2).length (c 2), .slice (A 3) (L 3).length (c 3), .slice (A 4) (L 4).length (c 4)] 24))
  have HB0 := Lib.hid (show Below w.heap.size w (w.alloc (.cells #[.slice (A 0) (L 0).length (c 0), .slice (A 1) (L 1).length (c 1), .slice (A 2) (L 2).length (c 2), .slice (A 3) (L 3).length (c 3), .slice (A 4) (L 4).length (c 4)] 24)) from (Below.refl _ _).alloc (Nat.le_refl _) _)
  have K2 := checkCr_all A c L (w.alloc (.cells #[.slice (A 0) (L 0).length (c 0), .slice (A 1) (L 1).length (c 1), .slice (A 2) (L 2).length (c 2), .slice (A 3) (L 3).length (c 3), .slice (A 4) (L 4).length (c 4)] 24)) (hL.below HB0.out) (fun f hf => by have := hl f hf; omega) (hT.below HB0.out)
  rw [hr] at K2
  generalize (chkGo (fun f => chkCr f (L f)) 0 5).1 = r1 at K2
  have KF := Lib.hid (fun k hk W h => fieldCr_any k hk A c L W h (by have := hl k hk; omega))
  have KT := Lib.hid (fun k hk P p W h h2 => cfield_any P p (L k) W (hl k hk) h (hin k hk) h2)
  have KJ := Lib.hid (fun g W (h : W.heap[g]? = some (.cells (shC (shT L) 5) 39 (0, 0))) => joinedW_any L g W h (shTs_size L hl hin 5 (Nat.le_refl _)))
  have HL := Lib.hid hL
  have HP := Lib.hid hP
  have HPUT := Lib.hid (fun k h => shC_put (shT L) k h)
  have HGET := Lib.hid (fun k h => shC_get (shT L) k h)
  generalize joinW (shTs L 5) = r at KJ ⊢
  have x0 : (w.alloc (.cells #[.slice (A 0) (L 0).length (c 0), .slice (A 1) (L 1).length (c 1), .slice (A 2) (L 2).length (c 2), .slice (A 3) (L 3).length (c 3), .slice (A 4) (L 4).length (c 4)] 24)).cell? ⟨w.heap.size, 0, none⟩ = some (.slice (A 0) (L 0).length (c 0)) := blk_cell HG0.out 0
  have x1 : (w.alloc (.cells #[.slice (A 0) (L 0).length (c 0), .slice (A 1) (L 1).length (c 1), .slice (A 2) (L 2).length (c 2), .slice (A 3) (L 3).length (c 3), .slice (A 4) (L 4).length (c 4)] 24)).cell? ⟨w.heap.size, 1, none⟩ = some (.slice (A 1) (L 1).length (c 1)) := blk_cell HG0.out 1
  have x2 : (w.alloc (.cells #[.slice (A 0) (L 0).length (c 0), .slice (A 1) (L 1).length (c 1), .slice (A 2) (L 2).length (c 2), .slice (A 3) (L 3).length (c 3), .slice (A 4) (L 4).length (c 4)] 24)).cell? ⟨w.heap.size, 2, none⟩ = some (.slice (A 2) (L 2).length (c 2)) := blk_cell HG0.out 2
  have x3 : (w.alloc (.cells #[.slice (A 0) (L 0).length (c 0), .slice (A 1) (L 1).length (c 1), .slice (A 2) (L 2).length (c 2), .slice (A 3) (L 3).length (c 3), .slice (A 4) (L 4).length (c 4)] 24)).cell? ⟨w.heap.size, 3, none⟩ = some (.slice (A 3) (L 3).length (c 3)) := blk_cell HG0.out 3
  have x4 : (w.alloc (.cells #[.slice (A 0) (L 0).length (c 0), .slice (A 1) (L 1).length (c 1), .slice (A 2) (L 2).length (c 2), .slice (A 3) (L 3).length (c 3), .slice (A 4) (L 4).length (c 4)] 24)).cell? ⟨w.heap.size, 4, none⟩ = some (.slice (A 4) (L 4).length (c 4)) := blk_cell HG0.out 4
  unfold vCr at K2 KF ⊢
  clear hL hl hT hr hin hP
  go_enter Tryd.func6, Tryd.ntmps6
  go_wp2_with fail
  refine K2.mono ?_
  rintro e w1 ⟨rfl, hb1⟩
  have HB1 := Lib.hid ((HB0.out.trans (hb1.mono HB0.out.size)).alloc (HB0.out.trans (hb1.mono HB0.out.size)).size (.cells (shC (shT L) 0) 39))
  have HG1 := Lib.hid (blk_more ((hb1.block _ (lt_of_block HG0.out)).trans HG0.out) (.cells (shC (shT L) 0) 39))
  have HA1 := Lib.hid (blk_new w1 (.cells (shC (shT L) 0) 39))
  have HWG := Lib.hid (show w.heap.size < w1.heap.size from Nat.lt_of_lt_of_le (lt_of_block HG0.out) hb1.size)
  have hs : shC (shT L) 0 = #[.string ⟨#[]⟩, .string ⟨#[]⟩, .string ⟨#[]⟩, .string ⟨#[]⟩, .string ⟨#[]⟩] := rfl
  obtain ⟨W1, hW1⟩ : ∃ W1, w1.alloc (.cells (shC (shT L) 0) 39) = W1 := ⟨_, rfl⟩
  rw [hW1] at HB1 HG1 HA1
  rw [hs] at hW1
  clear hb1 K2 HB0 HG0 x0 x1 x2 x3 x4
  go_wp2
  try rw [hW1]
  clear hW1 hs
  generalize w1.heap.size = g at *
  go_loopw [16] (fun i wr => ∃ k : Nat, k ≤ 5 ∧ i = .int .i64 k ∧ wr.heap[g]? = some (.cells (shC (shT L) k) 39 (0, 0)) ∧ wr.heap[w.heap.size]? = some (.cells #[.slice (A 0) (L 0).length (c 0), .slice (A 1) (L 1).length (c 1), .slice (A 2) (L 2).length (c 2), .slice (A 3) (L 3).length (c 3), .slice (A 4) (L 4).length (c 4)] 24 (0, 0)) ∧ Below w.heap.size w wr) (fun i _ => 5 - (intOf i).toNat)
  case atStart => exact ⟨0, by omega, rfl, HA1.out, HG1.out, HB1.out⟩
  case round =>
    obtain ⟨k, hk, rfl, ha, hg, hb⟩ := hrel
    have HB := Lib.hid hb
    have HG := Lib.hid hg
    have HA := Lib.hid ha
    by_cases hlt : k < 5
    · have d0 : decide (k < 5) = true := dec_t hlt
      have d1 : decide ((k : Int) < 5) = true := dec_t (by omega)
      have ik0 : (0 : Int) ≤ (k : Int) := by omega
      have ik1 : (k : Int) < 5 := by omega
      have hw1 : IntKind.i64.wrap ((k : Int) + 1) = (k : Int) + 1 := IntWalk.i64_in _ ⟨by omega, by omega⟩
      have K := KF.out k hlt wr (HL.out.below HB.out)
      have KT1 := Lib.hid (KT.out k hlt)
      have HK := Lib.hid hlt
      obtain ⟨v, hv⟩ := HGET.out k hlt
      have HV := Lib.hid hv
      have y0 : wr.cell? ⟨w.heap.size, 0, none⟩ = some (.slice (A 0) (L 0).length (c 0)) := blk_cell HG.out 0
      have y1 : wr.cell? ⟨w.heap.size, 1, none⟩ = some (.slice (A 1) (L 1).length (c 1)) := blk_cell HG.out 1
      have y2 : wr.cell? ⟨w.heap.size, 2, none⟩ = some (.slice (A 2) (L 2).length (c 2)) := blk_cell HG.out 2
      have y3 : wr.cell? ⟨w.heap.size, 3, none⟩ = some (.slice (A 3) (L 3).length (c 3)) := blk_cell HG.out 3
      have y4 : wr.cell? ⟨w.heap.size, 4, none⟩ = some (.slice (A 4) (L 4).length (c 4)) := blk_cell HG.out 4
      clear ha hg hb hk hlt hv
      go_wp2_with fail
      refine K.mono ?_
      rintro e w2 ⟨P, p, rfl, hit, hb2, _, _⟩
      have HB2 := Lib.hid (HB.out.trans (hb2.mono HB.out.size))
      have HG2 := Lib.hid ((hb2.block _ (lt_of_block HG.out)).trans HG.out)
      have HA2 := Lib.hid ((hb2.block _ (lt_of_block HA.out)).trans HA.out)
      have K3 := KT1.out P p w2 hit (HP.out.bel HB2.out)
      clear hb2 K y0 y1 y2 y3 y4 hit
      go_wp2_with fail
      refine K3.mono ?_
      rintro e w3 ⟨rfl, hb3⟩
      have HB3 := Lib.hid (HB2.out.trans (hb3.mono HB2.out.size))
      have HG3 := Lib.hid ((hb3.block _ (lt_of_block HG2.out)).trans HG2.out)
      have HA3 := Lib.hid ((hb3.block _ (lt_of_block HA2.out)).trans HA2.out)
      have ck : w3.cell? ⟨g, k, none⟩ = some v := (blk_cell HA3.out k).trans HV.out
      have fk := blk_free HA3.out k
      have HA4 := Lib.hid (show (w3.setCell ⟨g, k, none⟩ (.string (shT L k))).heap[g]? = some (.cells (shC (shT L) (k + 1)) 39 (0, 0)) from by rw [← HPUT.out k HK.out]; exact blk_put HA3.out k _)
      have HG4 := Lib.hid (show (w3.setCell ⟨g, k, none⟩ (.string (shT L k))).heap[w.heap.size]? = some (.cells #[.slice (A 0) (L 0).length (c 0), .slice (A 1) (L 1).length (c 1), .slice (A 2) (L 2).length (c 2), .slice (A 3) (L 3).length (c 3), .slice (A 4) (L 4).length (c 4)] 24 (0, 0)) from blk_else HG3.out ⟨g, k, none⟩ (by show w.heap.size ≠ g; have := HWG.out; omega) _)
      have HB4 := Lib.hid (HB3.out.setCell (p := ⟨g, k, none⟩) (show w.heap.size ≤ g by have := HWG.out; omega) (.string (shT L k)))
      have hs2 : joinB (itTs (L k) (L k).length) = shT L k := rfl
      rw [hs2]
      clear hb3 K3
      go_wp2
      go_roundw
      case rel => exact ⟨k + 1, by have := HK.out; omega, by go_num, HA4.out, HG4.out, HB4.out⟩
      case measure =>
        have := HK.out
        simp [intOf]; omega
    · obtain rfl : k = 5 := by omega
      have K := KJ.out g wr HA.out
      clear ha hg hb hk hlt
      go_wp2_with fail
      refine K.mono ?_
      rintro e w2 ⟨rfl, hb2⟩
      have HB2 := Lib.hid (HB.out.trans (hb2.mono HB.out.size))
      clear hb2 K
      go_wp2
      go_ret2
      exact ⟨rfl, HB2.out⟩
theorem show_first (L : Nat → List Q4) (k : Nat) (h0 : k = 0) : joinW (shTs L (k + 1)) = joinW (shTs L k) ++ shT L k := by
  subst h0
  exact (joinW_one _).trans (ByteArray.ext (by simp [joinW, shTs, Lib.join_nil]))
theorem show_next (L : Nat → List Q4) (k : Nat) (h0 : 0 < k) : joinW (shTs L (k + 1)) = joinW (shTs L k) ++ chr 32 ++ shT L k := by
  rw [shTs_step]
  refine joinW_snoc _ _ fun he => ?_
  have := shTs_len L k
  rw [he] at this
  simp at this
  omega
set_option maxHeartbeats 3200000 in
set_option maxRecDepth 20000 in
theorem rshow_any (A : Nat → Option Addr) (c : Nat → Nat) (L : Nat → List Q4) (w : World) (hL : Lists 5 w A c L) (hl : ∀ f, f < 5 → (L f).length ≤ 1000) (hin : ∀ f, f < 5 → ∀ k, k < (L f).length → Q4In (nthQ (L f) k)) :
    Calls Tryd.prog 8 #[vCr A c L] w fun e w' => e = .returned (.string (joinW (shTs L 5))) ∧ Below w.heap.size w w' := by
  have HG0 := Lib.hid (blk_new w (.cells #[.slice (A 0) (L 0).length (c 0), .slice (A 1) (L 1).length (c 1), .slice (A 2) (L 2).length (c 2), .slice (A 3) (L 3).length (c 3), .slice (A 4) (L 4).length (c 4)] 24))
  have HB0 := Lib.hid (show Below w.heap.size w (w.alloc (.cells #[.slice (A 0) (L 0).length (c 0), .slice (A 1) (L 1).length (c 1), .slice (A 2) (L 2).length (c 2), .slice (A 3) (L 3).length (c 3), .slice (A 4) (L 4).length (c 4)] 24)) from (Below.refl _ _).alloc (Nat.le_refl _) _)
  have KF := Lib.hid (fun k hk W => rfieldCr_any k hk A c L W)
  have KT := Lib.hid (fun k hk W h => rfield_any (A k) (c k) (L k) W (hl k hk) h (hin k hk))
  have HL := Lib.hid hL
  have HF := Lib.hid (fun k h => show_first L k h)
  have HX := Lib.hid (fun k h => show_next L k h)
  have HZ := Lib.hid (fun k (hk : k ≤ 5) => (by have := joinW_size (shTs L k) (shTs_size L hl hin k hk); rwa [shTs_len] at this : (joinW (shTs L k)).size ≤ 80001 * k))
  have HTZ := Lib.hid (fun k hk => shT_size L k (hl k hk) (hin k hk))
  unfold vCr at KF ⊢
  clear hL hl hin
  obtain ⟨W0, hW0⟩ : ∃ W0, w.alloc (.cells #[.slice (A 0) (L 0).length (c 0), .slice (A 1) (L 1).length (c 1), .slice (A 2) (L 2).length (c 2), .slice (A 3) (L 3).length (c 3), .slice (A 4) (L 4).length (c 4)] 24) = W0 := ⟨_, rfl⟩
  rw [hW0] at HG0 HB0
  go_enter Tryd.func8, Tryd.ntmps8
  go_wp2
  try rw [hW0]
  clear hW0
  go_loopw [3, 4] (fun v i wr => ∃ k : Nat, k ≤ 5 ∧ i = .int .i64 k ∧ v = .string (joinW (shTs L k)) ∧ wr.heap[w.heap.size]? = some (.cells #[.slice (A 0) (L 0).length (c 0), .slice (A 1) (L 1).length (c 1), .slice (A 2) (L 2).length (c 2), .slice (A 3) (L 3).length (c 3), .slice (A 4) (L 4).length (c 4)] 24 (0, 0)) ∧ Below w.heap.size w wr) (fun _ i _ => 5 - (intOf i).toNat)
  case atStart => exact ⟨0, by omega, rfl, rfl, HG0.out, HB0.out⟩
  case round =>
    obtain ⟨k, hk, rfl, rfl, hg, hb⟩ := hrel
    have HB := Lib.hid hb
    have HG := Lib.hid hg
    by_cases hlt : k < 5
    · have d0 : decide (k < 5) = true := dec_t hlt
      have d1 : decide ((k : Int) < 5) = true := dec_t (by omega)
      have hw1 : IntKind.i64.wrap ((k : Int) + 1) = (k : Int) + 1 := IntWalk.i64_in _ ⟨by omega, by omega⟩
      have K := KF.out k hlt wr
      have KT1 := Lib.hid (KT.out k hlt)
      have HLK := Lib.hid ((HL.out.below HB.out) k hlt).1
      have HK := Lib.hid hlt
      obtain ⟨J, hJ, hJ2⟩ : ∃ J, J ≤ 80001 * k ∧ (joinW (shTs L k)).size = J := ⟨_, HZ.out k hk, rfl⟩
      obtain ⟨I, hI, hI2⟩ : ∃ I, I ≤ 80000 ∧ (shT L k).size = I := ⟨_, HTZ.out k hlt, rfl⟩
      have c32 : (ByteArray.mk #[32]).size = 1 := rfl
      have zaa : ¬ (9223372036854775807 : Int) < (J : Int) + 1 := by omega
      have zab : (J : Int) + 1 ≤ 9223372036854775807 := by omega
      have zac : ¬ 9223372036854775807 < J + 1 := by omega
      have zad : J + 1 ≤ 9223372036854775807 := by omega
      have zba : ¬ (9223372036854775807 : Int) < (J : Int) + 1 + (I : Int) := by omega
      have zbb : (J : Int) + 1 + (I : Int) ≤ 9223372036854775807 := by omega
      have zbc : ¬ 9223372036854775807 < J + 1 + I := by omega
      have zbd : J + 1 + I ≤ 9223372036854775807 := by omega
      have zca : ¬ (9223372036854775807 : Int) < (J : Int) + (I : Int) := by omega
      have zcb : (J : Int) + (I : Int) ≤ 9223372036854775807 := by omega
      have zcc : ¬ 9223372036854775807 < J + I := by omega
      have zcd : J + I ≤ 9223372036854775807 := by omega
      have y0 : wr.cell? ⟨w.heap.size, 0, none⟩ = some (.slice (A 0) (L 0).length (c 0)) := blk_cell HG.out 0
      have y1 : wr.cell? ⟨w.heap.size, 1, none⟩ = some (.slice (A 1) (L 1).length (c 1)) := blk_cell HG.out 1
      have y2 : wr.cell? ⟨w.heap.size, 2, none⟩ = some (.slice (A 2) (L 2).length (c 2)) := blk_cell HG.out 2
      have y3 : wr.cell? ⟨w.heap.size, 3, none⟩ = some (.slice (A 3) (L 3).length (c 3)) := blk_cell HG.out 3
      have y4 : wr.cell? ⟨w.heap.size, 4, none⟩ = some (.slice (A 4) (L 4).length (c 4)) := blk_cell HG.out 4
      by_cases h0 : 0 < k
      · have e0 : decide (0 < k) = true := dec_t h0
        have e1 : decide ((0 : Int) < (k : Int)) = true := dec_t (by omega)
        have HS := Lib.hid (HX.out k h0)
        generalize joinW (shTs L k) = s at *
        clear hg hb hk hlt hJ hI h0
        go_wp2_with fail
        refine K.mono ?_
        rintro e w2 ⟨rfl, hb2⟩
        have HB2 := Lib.hid (HB.out.trans (hb2.mono HB.out.size))
        have HG2 := Lib.hid ((hb2.block _ (lt_of_block HG.out)).trans HG.out)
        have K3 := KT1.out w2 (HLK.out.below hb2)
        have hs2 : joinB (itTs (L k) (L k).length) = shT L k := rfl
        rw [hs2] at K3
        generalize shT L k = tk at K3 HS hI2
        clear hb2 K y0 y1 y2 y3 y4 hs2
        go_wp2_with fail
        refine K3.mono ?_
        rintro e w3 ⟨rfl, hb3⟩
        have HB3 := Lib.hid (HB2.out.trans (hb3.mono HB2.out.size))
        have HG3 := Lib.hid ((hb3.block _ (lt_of_block HG2.out)).trans HG2.out)
        clear hb3 K3
        go_wp2
        go_roundw
        case rel => exact ⟨k + 1, by have := HK.out; omega, by go_num, by rw [HS.out] <;> rfl, HG3.out, HB3.out⟩
        case measure =>
          have := HK.out
          simp [intOf]; omega
      · have e0 : decide (0 < k) = false := dec_n h0
        have e1 : decide ((0 : Int) < (k : Int)) = false := dec_n (by omega)
        have HS := Lib.hid (HF.out k (by omega))
        generalize joinW (shTs L k) = s at *
        clear hg hb hk hlt hJ hI h0
        go_wp2_with fail
        refine K.mono ?_
        rintro e w2 ⟨rfl, hb2⟩
        have HB2 := Lib.hid (HB.out.trans (hb2.mono HB.out.size))
        have HG2 := Lib.hid ((hb2.block _ (lt_of_block HG.out)).trans HG.out)
        have K3 := KT1.out w2 (HLK.out.below hb2)
        have hs2 : joinB (itTs (L k) (L k).length) = shT L k := rfl
        rw [hs2] at K3
        generalize shT L k = tk at K3 HS hI2
        clear hb2 K y0 y1 y2 y3 y4 hs2
        go_wp2_with fail
        refine K3.mono ?_
        rintro e w3 ⟨rfl, hb3⟩
        have HB3 := Lib.hid (HB2.out.trans (hb3.mono HB2.out.size))
        have HG3 := Lib.hid ((hb3.block _ (lt_of_block HG2.out)).trans HG2.out)
        clear hb3 K3
        go_wp2
        go_roundw
        case rel => exact ⟨k + 1, by have := HK.out; omega, by go_num, by rw [HS.out] <;> rfl, HG3.out, HB3.out⟩
        case measure =>
          have := HK.out
          simp [intOf]; omega
    · obtain rfl : k = 5 := by omega
      clear hg hb hk hlt
      go_wp2
      go_ret
      exact ⟨rfl, HB.out⟩
end Go.Proofs.YtahlegempjlbbaaDoor
