/- Contracts of cron.Starred and cron.Either, and the law's own example (layer 24). -/
import Derived.Test.YtjdoknbmnokkdaaDoorCrD
namespace Go.Proofs.YtjdoknbmnokkdaaDoor
open Go.RowKit
set_option linter.unusedVariables false

def starQ (qs : List Q4) : Bool := decide (0 < qs.length) && ((nthQ qs 0).1 == 0)
set_option maxHeartbeats 1600000 in
theorem starred_any (f : Nat) (hf : f < 5) (A : Nat → Option Addr) (c : Nat → Nat) (L : Nat → List Q4) (w : World) (hL : Lists 5 w A c L) (hl : (L f).length ≤ 1000000) :
    Calls Tryd.prog 41 #[vCr A c L, .int .i64 (f : Int)] w fun e w' => e = .returned (.bool (starQ (L f))) ∧ Below w.heap.size w w' := by
  have HB0 := Lib.hid (show Below w.heap.size w (w.alloc (.cells #[.slice (A 0) (L 0).length (c 0), .slice (A 1) (L 1).length (c 1), .slice (A 2) (L 2).length (c 2), .slice (A 3) (L 3).length (c 3), .slice (A 4) (L 4).length (c 4)] 75)) from (Below.refl _ _).alloc (Nat.le_refl _) _)
  have K1 := fieldCr_any f hf A c L _ (hL.below HB0.out) hl
  clear hL
  unfold vCr at K1 ⊢
  go_enter Tryd.func41, Tryd.ntmps41
  go_wp2_with fail
  refine K1.mono ?_
  rintro e w1 ⟨A1, c1, rfl, hat, hb1, _, _⟩
  have HB1 := Lib.hid (HB0.out.trans (hb1.mono HB0.out.size))
  clear K1 hb1
  generalize hqs : L f = qs at hat hl ⊢
  have HQ := Lib.hid hqs
  clear hqs
  by_cases h0 : 0 < qs.length
  · obtain ⟨b, off, rfl, _, x0, _⟩ := hat 0 h0
    have x0' : w1.cell? ⟨b, off, none⟩ = some (.int .i64 (nthQ qs 0).1) := by simpa using x0
    have d1 : decide ((0 : Int) < ((qs.length : Nat) : Int)) = true := dec_t (by omega)
    have d2 : decide (0 < qs.length) = true := dec_t h0
    have i1 : (0 : Int) < ((qs.length : Nat) : Int) := by omega
    have HX := Lib.hid (show starQ (L f) = ((nthQ qs 0).1 == 0) by rw [HQ.out]; unfold starQ; rw [dec_t h0]; rfl)
    generalize (nthQ qs 0).1 = z at x0' HX
    clear hat x0
    go_wp2
    go_ret
    exact ⟨ret_bool HX.out.symm, HB1.out⟩
  · have d1 : decide ((0 : Int) < ((qs.length : Nat) : Int)) = false := dec_n (by omega)
    have d2 : decide (0 < qs.length) = false := dec_n h0
    have HX := Lib.hid (show starQ (L f) = false by rw [HQ.out]; unfold starQ; rw [dec_n h0]; rfl)
    clear hat
    go_wp2
    go_ret
    exact ⟨ret_bool HX.out.symm, HB1.out⟩
set_option maxHeartbeats 1600000 in
theorem either_any (A : Nat → Option Addr) (c : Nat → Nat) (L : Nat → List Q4) (w : World) (hL : Lists 5 w A c L) (hl : ∀ f, f < 5 → (L f).length ≤ 1000000) :
    Calls Tryd.prog 40 #[vCr A c L] w fun e w' => e = .returned (.bool (!starQ (L 2) && !starQ (L 4))) ∧ Below w.heap.size w w' := by
  have hg0 := blk_new w (.cells #[.slice (A 0) (L 0).length (c 0), .slice (A 1) (L 1).length (c 1), .slice (A 2) (L 2).length (c 2), .slice (A 3) (L 3).length (c 3), .slice (A 4) (L 4).length (c 4)] 75)
  have HB0 := Lib.hid (show Below w.heap.size w (w.alloc (.cells #[.slice (A 0) (L 0).length (c 0), .slice (A 1) (L 1).length (c 1), .slice (A 2) (L 2).length (c 2), .slice (A 3) (L 3).length (c 3), .slice (A 4) (L 4).length (c 4)] 75)) from (Below.refl _ _).alloc (Nat.le_refl _) _)
  have K1 := starred_any 2 (by omega) A c L _ (hL.below HB0.out) (hl 2 (by omega))
  have HL := Lib.hid hL
  have HLL := Lib.hid (hl 4 (by omega))
  have HG0 := Lib.hid hg0
  clear hL hl hg0
  obtain ⟨s2, hs2⟩ : ∃ s, starQ (L 2) = s := ⟨_, rfl⟩
  obtain ⟨s4, hs4⟩ : ∃ s, starQ (L 4) = s := ⟨_, rfl⟩
  rw [hs2] at K1
  rw [hs2, hs4]
  have HS4 := Lib.hid hs4
  clear hs2 hs4
  unfold vCr at K1 ⊢
  go_enter Tryd.func40, Tryd.ntmps40
  go_wp2_with fail
  refine K1.mono ?_
  rintro e w1 ⟨rfl, hb1⟩
  have HB1 := Lib.hid (HB0.out.trans (hb1.mono HB0.out.size))
  have hg := (hb1.block _ (lt_of_block HG0.out)).trans HG0.out
  have x0 : w1.cell? ⟨w.heap.size, 0, none⟩ = some (.slice (A 0) (L 0).length (c 0)) := blk_cell hg 0
  have x1 : w1.cell? ⟨w.heap.size, 1, none⟩ = some (.slice (A 1) (L 1).length (c 1)) := blk_cell hg 1
  have x2 : w1.cell? ⟨w.heap.size, 2, none⟩ = some (.slice (A 2) (L 2).length (c 2)) := blk_cell hg 2
  have x3 : w1.cell? ⟨w.heap.size, 3, none⟩ = some (.slice (A 3) (L 3).length (c 3)) := blk_cell hg 3
  have x4 : w1.cell? ⟨w.heap.size, 4, none⟩ = some (.slice (A 4) (L 4).length (c 4)) := blk_cell hg 4
  have K2 := starred_any 4 (by omega) A c L w1 (HL.out.below HB1.out) HLL.out
  unfold vCr at K2
  rw [HS4.out] at K2
  clear K1 hb1 hg
  cases s2
  · go_wp2_with fail
    refine K2.mono ?_
    rintro e w2 ⟨rfl, hb2⟩
    go_wp2
    go_ret
    exact ⟨rfl, HB1.out.trans (hb2.mono HB1.out.size)⟩
  · clear K2
    go_wp2
    go_ret
    exact ⟨rfl, HB1.out⟩
theorem items_one {w : World} {g : Nat} {a b c d : Int} {t : TypeId} {z : Nat × Nat} (h : w.heap[g]? = some (.cells #[.int .i64 a, .int .i64 b, .int .i64 c, .int .i64 d] t z)) : ItemsAt w (some ⟨g, 0, none⟩) [(a, b, c, d)] := by
  intro k hk
  obtain rfl : k = 0 := by simpa using hk
  exact ⟨g, 0, rfl, lt_of_block h, blk_cell h 0, blk_cell h 1, blk_cell h 2, blk_cell h 3⟩
end Go.Proofs.YtjdoknbmnokkdaaDoor
