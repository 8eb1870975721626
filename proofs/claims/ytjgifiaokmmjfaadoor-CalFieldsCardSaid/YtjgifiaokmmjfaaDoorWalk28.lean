/- The law's own example (layer 28). -/
import Derived.Test.YtjgifiaokmmjfaaDoorClD
import Derived.Test.YtjgifiaokmmjfaaDoorClO
import Derived.Test.YtjgifiaokmmjfaaDoorCrE
namespace Go.Proofs.YtjgifiaokmmjfaaDoor
open Go.RowKit
set_option linter.unusedVariables false

def exkA (n : Nat) : Nat → Option Addr | 0 => none | _ => some ⟨n, 0, none⟩
def exkC : Nat → Nat | 0 => 0 | _ => 1
def exkL : Nat → List Q4 | 0 => [] | _ => [(0, 0, 0, 1)]
theorem exk_val (n : Nat) : vCl false (exkA n) exkC exkL = .agg #[.slice none 0 0, .slice (some ⟨n, 0, none⟩) 1 1, .slice (some ⟨n, 0, none⟩) 1 1, .slice (some ⟨n, 0, none⟩) 1 1, .bool false, .slice (some ⟨n, 0, none⟩) 1 1, .slice (some ⟨n, 0, none⟩) 1 1, .slice (some ⟨n, 0, none⟩) 1 1] := rfl
theorem exk_chk : chkGo (fun f => chkCl f (exkL f)) 0 7 = (7, 0) := by decide
theorem exk_lists {w : World} {n : Nat} {z : TypeId} (h0 : w.heap[n]? = some (.cells #[.int .i64 0, .int .i64 0, .int .i64 0, .int .i64 1] z (0, 0))) : Lists 7 w (exkA n) exkC exkL := by
  intro i hi
  match i, hi with
  | 0, _ => exact ⟨ItemsAt.nil _ _, fun _ => rfl⟩
  | 1, _ => exact ⟨items_one h0, fun h => by cases h⟩
  | 2, _ => exact ⟨items_one h0, fun h => by cases h⟩
  | 3, _ => exact ⟨items_one h0, fun h => by cases h⟩
  | 4, _ => exact ⟨items_one h0, fun h => by cases h⟩
  | 5, _ => exact ⟨items_one h0, fun h => by cases h⟩
  | 6, _ => exact ⟨items_one h0, fun h => by cases h⟩
theorem exk_len : ∀ f, f < 7 → (exkL f).length ≤ 1000000
  | 0, _ => by decide
  | 1, _ => by decide
  | 2, _ => by decide
  | 3, _ => by decide
  | 4, _ => by decide
  | 5, _ => by decide
  | 6, _ => by decide
  | f + 7, h => absurd h (by omega)
set_option maxHeartbeats 3200000 in
set_option maxRecDepth 20000 in
theorem lives28_any (w : World) (hT : TabCl w) : Calls Tryd.prog 23 #[] w fun e w' => e = .returned (.bool true) ∧ Below w.heap.size w w' := by
  obtain ⟨W1, hW1⟩ : ∃ W1, w.alloc (.cells #[.int .i64 0, .int .i64 0, .int .i64 0, .int .i64 1] 49) = W1 := ⟨_, rfl⟩
  have HB1 := Lib.hid (show Below w.heap.size w W1 by rw [← hW1]; exact (Below.refl _ _).alloc (Nat.le_refl _) _)
  have h0 : W1.heap[w.heap.size]? = some (.cells #[.int .i64 0, .int .i64 0, .int .i64 0, .int .i64 1] 49 (0, 0)) := by rw [← hW1]; exact blk_new w _
  have HT1 := Lib.hid (hT.below HB1.out)
  have K1 := checkCl_all false (exkA w.heap.size) exkC exkL W1 (exk_lists h0) exk_len HT1.out
  rw [exk_chk, exk_val] at K1
  simp only [] at K1
  clear h0 hT
  go_enter Tryd.func23, Tryd.ntmps23
  go_wp2_with fail
  try rw [hW1]
  clear hW1
  refine K1.mono ?_
  rintro e w2 ⟨rfl, hb2⟩
  have HB2 := Lib.hid (HB1.out.trans (hb2.mono HB1.out.size))
  have K2 := boundsCl_any 1 (by omega) w2 (HT1.out.below hb2)
  rw [show ((1 : Nat) : Int) = 1 from rfl, show bdCl 1 = (1970, 2369) from rfl] at K2
  simp only [] at K2
  clear K1 hb2
  go_wp2_with fail
  refine K2.mono ?_
  rintro e w3 ⟨rfl, hq3⟩
  go_wp2
  go_ret
  exact ⟨rfl, HB2.out.trans (by obtain ⟨n, rfl⟩ := hq3; exact below_draws _ w2 n)⟩
end Go.Proofs.YtjgifiaokmmjfaaDoor
