/- The law's own example, and the walk of CronChecks (layer 24). -/
import Derived.Test.YtjdoknbmnokkdaaDoorCrE
import Derived.Test.YtjdoknbmnokkdaaDoorCrO
namespace Go.Proofs.YtjdoknbmnokkdaaDoor
open Go.RowKit
set_option linter.unusedVariables false

def exA (n : Nat) : Nat → Option Addr | 3 => some ⟨n, 0, none⟩ | _ => some ⟨n + 1, 0, none⟩
def exL : Nat → List Q4 | 3 => [(0, 0, 0, 1)] | _ => [(1, 5, 0, 0)]
theorem ex_val (n : Nat) : vCr (exA n) (fun _ => 1) exL = .agg #[.slice (some ⟨n + 1, 0, none⟩) 1 1, .slice (some ⟨n + 1, 0, none⟩) 1 1, .slice (some ⟨n + 1, 0, none⟩) 1 1, .slice (some ⟨n, 0, none⟩) 1 1, .slice (some ⟨n + 1, 0, none⟩) 1 1] := rfl
theorem ex_chk : chkGo (fun f => chkCr f (exL f)) 0 5 = (5, 0) := by decide
theorem ex_lists {w : World} {n : Nat} {z z' : TypeId} (h0 : w.heap[n]? = some (.cells #[.int .i64 0, .int .i64 0, .int .i64 0, .int .i64 1] z (0, 0))) (h1 : w.heap[n + 1]? = some (.cells #[.int .i64 1, .int .i64 5, .int .i64 0, .int .i64 0] z' (0, 0))) :
    Lists 5 w (exA n) (fun _ => 1) exL := by
  intro i hi
  match i, hi with
  | 0, _ => exact ⟨items_one h1, fun h => by cases h⟩
  | 1, _ => exact ⟨items_one h1, fun h => by cases h⟩
  | 2, _ => exact ⟨items_one h1, fun h => by cases h⟩
  | 3, _ => exact ⟨items_one h0, fun h => by cases h⟩
  | 4, _ => exact ⟨items_one h1, fun h => by cases h⟩
theorem ex_len : ∀ f, f < 5 → (exL f).length ≤ 1000000
  | 0, _ => by decide
  | 1, _ => by decide
  | 2, _ => by decide
  | 3, _ => by decide
  | 4, _ => by decide
  | f + 5, h => absurd h (by omega)
set_option maxHeartbeats 3200000 in
set_option maxRecDepth 20000 in
theorem lives24_any (w : World) (hT : TabCr w) : Calls Tryd.prog 9 #[] w fun e w' => e = .returned (.bool true) ∧ Below w.heap.size w w' := by
  obtain ⟨W1, hW1⟩ : ∃ W1, ((w.alloc (.cells #[.int .i64 0, .int .i64 0, .int .i64 0, .int .i64 1] 32)).alloc (.cells #[.int .i64 1, .int .i64 5, .int .i64 0, .int .i64 0] 32)).alloc (.cells #[.slice (some ⟨w.heap.size + 1, 0, none⟩) 1 1, .slice (some ⟨w.heap.size + 1, 0, none⟩) 1 1, .slice (some ⟨w.heap.size + 1, 0, none⟩) 1 1, .slice (some ⟨w.heap.size, 0, none⟩) 1 1, .slice (some ⟨w.heap.size + 1, 0, none⟩) 1 1] 75) = W1 := ⟨_, rfl⟩
  have HB1 := Lib.hid (show Below w.heap.size w W1 by rw [← hW1]; exact (((Below.refl _ _).alloc (Nat.le_refl _) _).alloc (by simp) _).alloc (by simp; omega) _)
  have h0 : W1.heap[w.heap.size]? = some (.cells #[.int .i64 0, .int .i64 0, .int .i64 0, .int .i64 1] 32 (0, 0)) := by rw [← hW1]; exact blk_more (blk_more (blk_new w _) _) _
  have h1 : W1.heap[w.heap.size + 1]? = some (.cells #[.int .i64 1, .int .i64 5, .int .i64 0, .int .i64 0] 32 (0, 0)) := by
    rw [← hW1]
    have := blk_new (w.alloc (.cells #[.int .i64 0, .int .i64 0, .int .i64 0, .int .i64 1] 32)) (.cells #[.int .i64 1, .int .i64 5, .int .i64 0, .int .i64 0] 32)
    rw [World.size_alloc] at this
    exact blk_more this _
  have h2 : W1.heap[w.heap.size + 1 + 1]? = some (.cells #[.slice (some ⟨w.heap.size + 1, 0, none⟩) 1 1, .slice (some ⟨w.heap.size + 1, 0, none⟩) 1 1, .slice (some ⟨w.heap.size + 1, 0, none⟩) 1 1, .slice (some ⟨w.heap.size, 0, none⟩) 1 1, .slice (some ⟨w.heap.size + 1, 0, none⟩) 1 1] 75 (0, 0)) := by
    rw [← hW1]
    have := blk_new ((w.alloc (.cells #[.int .i64 0, .int .i64 0, .int .i64 0, .int .i64 1] 32)).alloc (.cells #[.int .i64 1, .int .i64 5, .int .i64 0, .int .i64 0] 32)) (.cells #[.slice (some ⟨w.heap.size + 1, 0, none⟩) 1 1, .slice (some ⟨w.heap.size + 1, 0, none⟩) 1 1, .slice (some ⟨w.heap.size + 1, 0, none⟩) 1 1, .slice (some ⟨w.heap.size, 0, none⟩) 1 1, .slice (some ⟨w.heap.size + 1, 0, none⟩) 1 1] 75)
    rw [World.size_alloc, World.size_alloc] at this
    exact this
  have HL1 := Lib.hid (ex_lists h0 h1)
  have HT1 := Lib.hid (hT.below HB1.out)
  have HG1 := Lib.hid h2
  have hgl := lt_of_block h2
  have K1 := checkCr_all (exA w.heap.size) (fun _ => 1) exL W1 HL1.out ex_len HT1.out
  rw [ex_chk, ex_val] at K1
  have KE := Lib.hid (fun W hW => either_any (exA w.heap.size) (fun _ => 1) exL W hW ex_len)
  rw [ex_val] at KE
  have KS3 := Lib.hid (fun W hW => starred_any 3 (by omega) (exA w.heap.size) (fun _ => 1) exL W hW (ex_len 3 (by omega)))
  rw [ex_val] at KS3
  have KS4 := Lib.hid (fun W hW => starred_any 4 (by omega) (exA w.heap.size) (fun _ => 1) exL W hW (ex_len 4 (by omega)))
  rw [ex_val] at KS4
  simp only [] at K1
  have x0 : W1.cell? ⟨w.heap.size + 1 + 1, 0, none⟩ = some (.slice (some ⟨w.heap.size + 1, 0, none⟩) 1 1) := blk_cell h2 0
  have x1 : W1.cell? ⟨w.heap.size + 1 + 1, 1, none⟩ = some (.slice (some ⟨w.heap.size + 1, 0, none⟩) 1 1) := blk_cell h2 1
  have x2 : W1.cell? ⟨w.heap.size + 1 + 1, 2, none⟩ = some (.slice (some ⟨w.heap.size + 1, 0, none⟩) 1 1) := blk_cell h2 2
  have x3 : W1.cell? ⟨w.heap.size + 1 + 1, 3, none⟩ = some (.slice (some ⟨w.heap.size, 0, none⟩) 1 1) := blk_cell h2 3
  have x4 : W1.cell? ⟨w.heap.size + 1 + 1, 4, none⟩ = some (.slice (some ⟨w.heap.size + 1, 0, none⟩) 1 1) := blk_cell h2 4
  clear h0 h1 h2 hT
  go_enter Tryd.func9, Tryd.ntmps9
  go_wp2_with fail
  try rw [hW1]
  clear hW1
  refine K1.mono ?_
  rintro e w2 ⟨rfl, hb2⟩
  have HB2 := Lib.hid (HB1.out.trans (hb2.mono HB1.out.size))
  have hg2 := (hb2.block _ hgl).trans HG1.out
  have HL2 := Lib.hid (HL1.out.below hb2)
  have HG2 := Lib.hid hg2
  have hgl2 := lt_of_block hg2
  have y0 : w2.cell? ⟨w.heap.size + 1 + 1, 0, none⟩ = some (.slice (some ⟨w.heap.size + 1, 0, none⟩) 1 1) := blk_cell hg2 0
  have y1 : w2.cell? ⟨w.heap.size + 1 + 1, 1, none⟩ = some (.slice (some ⟨w.heap.size + 1, 0, none⟩) 1 1) := blk_cell hg2 1
  have y2 : w2.cell? ⟨w.heap.size + 1 + 1, 2, none⟩ = some (.slice (some ⟨w.heap.size + 1, 0, none⟩) 1 1) := blk_cell hg2 2
  have y3 : w2.cell? ⟨w.heap.size + 1 + 1, 3, none⟩ = some (.slice (some ⟨w.heap.size, 0, none⟩) 1 1) := blk_cell hg2 3
  have y4 : w2.cell? ⟨w.heap.size + 1 + 1, 4, none⟩ = some (.slice (some ⟨w.heap.size + 1, 0, none⟩) 1 1) := blk_cell hg2 4
  clear K1 x0 x1 x2 x3 x4 hb2 hg2
  have K2 := KE.out w2 HL2.out
  rw [show (!starQ (exL 2) && !starQ (exL 4)) = true by decide] at K2
  go_wp2_with fail
  refine K2.mono ?_
  rintro e w3 ⟨rfl, hb3⟩
  have HB3 := Lib.hid (HB2.out.trans (hb3.mono HB2.out.size))
  have hg3 := (hb3.block _ hgl2).trans HG2.out
  have HL3 := Lib.hid (HL2.out.below hb3)
  have HG3 := Lib.hid hg3
  have hgl3 := lt_of_block hg3
  have z0 : w3.cell? ⟨w.heap.size + 1 + 1, 0, none⟩ = some (.slice (some ⟨w.heap.size + 1, 0, none⟩) 1 1) := blk_cell hg3 0
  have z1 : w3.cell? ⟨w.heap.size + 1 + 1, 1, none⟩ = some (.slice (some ⟨w.heap.size + 1, 0, none⟩) 1 1) := blk_cell hg3 1
  have z2 : w3.cell? ⟨w.heap.size + 1 + 1, 2, none⟩ = some (.slice (some ⟨w.heap.size + 1, 0, none⟩) 1 1) := blk_cell hg3 2
  have z3 : w3.cell? ⟨w.heap.size + 1 + 1, 3, none⟩ = some (.slice (some ⟨w.heap.size, 0, none⟩) 1 1) := blk_cell hg3 3
  have z4 : w3.cell? ⟨w.heap.size + 1 + 1, 4, none⟩ = some (.slice (some ⟨w.heap.size + 1, 0, none⟩) 1 1) := blk_cell hg3 4
  clear K2 y0 y1 y2 y3 y4 hb3 hg3
  have K3 := KS3.out w3 HL3.out
  rw [show starQ (exL 3) = true by decide, show ((3 : Nat) : Int) = 3 from rfl] at K3
  go_wp2_with fail
  refine K3.mono ?_
  rintro e w4 ⟨rfl, hb4⟩
  have HB4 := Lib.hid (HB3.out.trans (hb4.mono HB3.out.size))
  have hg4 := (hb4.block _ hgl3).trans HG3.out
  have HL4 := Lib.hid (HL3.out.below hb4)
  have u0 : w4.cell? ⟨w.heap.size + 1 + 1, 0, none⟩ = some (.slice (some ⟨w.heap.size + 1, 0, none⟩) 1 1) := blk_cell hg4 0
  have u1 : w4.cell? ⟨w.heap.size + 1 + 1, 1, none⟩ = some (.slice (some ⟨w.heap.size + 1, 0, none⟩) 1 1) := blk_cell hg4 1
  have u2 : w4.cell? ⟨w.heap.size + 1 + 1, 2, none⟩ = some (.slice (some ⟨w.heap.size + 1, 0, none⟩) 1 1) := blk_cell hg4 2
  have u3 : w4.cell? ⟨w.heap.size + 1 + 1, 3, none⟩ = some (.slice (some ⟨w.heap.size, 0, none⟩) 1 1) := blk_cell hg4 3
  have u4 : w4.cell? ⟨w.heap.size + 1 + 1, 4, none⟩ = some (.slice (some ⟨w.heap.size + 1, 0, none⟩) 1 1) := blk_cell hg4 4
  clear K3 z0 z1 z2 z3 z4 hb4 hg4
  have K4 := KS4.out w4 HL4.out
  rw [show starQ (exL 4) = false by decide, show ((4 : Nat) : Int) = 4 from rfl] at K4
  go_wp2_with fail
  refine K4.mono ?_
  rintro e w5 ⟨rfl, hb5⟩
  go_wp2
  go_ret
  exact ⟨rfl, HB4.out.trans (hb5.mono HB4.out.size)⟩
end Go.Proofs.YtjdoknbmnokkdaaDoor
