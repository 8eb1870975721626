/- wide.May and wide.Has (layer 4). -/
import Derived.Test.YtjdoknbmnokkdaaDoorWdD
import Derived.Deep.RegionHeld3
import Derived.Deep.RegionWith
namespace Go.Proofs.YtjdoknbmnokkdaaDoor
open Go.RowKit
set_option linter.unusedVariables false

attribute [local go_sem] eq7
theorem sev_mk {g : Nat} {f : Nat → Nat} {W0 X : World} (HG : Sev W0 g f) (hb : Below W0.heap.size W0 X) : Below W0.heap.size W0 X ∧ X.cell? ⟨g, 0, none⟩ = some (.int .u64 (f 0 : Nat)) ∧ X.cell? ⟨g, 1, none⟩ = some (.int .u64 (f 1 : Nat)) ∧ X.cell? ⟨g, 2, none⟩ = some (.int .u64 (f 2 : Nat)) ∧ X.cell? ⟨g, 3, none⟩ = some (.int .u64 (f 3 : Nat)) ∧ X.cell? ⟨g, 4, none⟩ = some (.int .u64 (f 4 : Nat)) ∧ X.cell? ⟨g, 5, none⟩ = some (.int .u64 (f 5 : Nat)) ∧ X.cell? ⟨g, 6, none⟩ = some (.int .u64 (f 6 : Nat)) := ⟨hb, (HG.below hb).cells⟩
theorem sev_al {B : Nat} {W0 X : World} {P : Prop} {o : Obj} (H : Below W0.heap.size W0 X ∧ P) : Below W0.heap.size W0 (X.alloc o) := H.1.alloc H.1.size o
theorem sev_tr {B : Nat} {W0 X Y : World} {P : Prop} (H : Below W0.heap.size W0 X ∧ P) (hb : Below X.heap.size X Y) : Below W0.heap.size W0 Y := H.1.trans (hb.mono H.1.size)
theorem sev_tr2 {B : Nat} {W0 X Y : World} {P : Prop} {o : Obj} (H : Below W0.heap.size W0 X ∧ P) (hb : Below (X.alloc o).heap.size (X.alloc o) Y) : Below W0.heap.size W0 Y := (H.1.alloc H.1.size o).trans (hb.mono (Nat.le_trans H.1.size (by simp)))
theorem sev_new1 {w : World} {P : Nat → Bool} : Sev (w.alloc (.cells #[.int .u64 (wv P 0 : Nat), .int .u64 (wv P 1 : Nat), .int .u64 (wv P 2 : Nat), .int .u64 (wv P 3 : Nat), .int .u64 (wv P 4 : Nat), .int .u64 (wv P 5 : Nat), .int .u64 (wv P 6 : Nat)] 68)) w.heap.size (wv P) := Sev.new w (wv P)
theorem same7_and (P Q : Nat → Bool) : same7 P Q = (decide (wv P 0 = wv Q 0) && (decide (wv P 1 = wv Q 1) && (decide (wv P 2 = wv Q 2) && (decide (wv P 3 = wv Q 3) && (decide (wv P 4 = wv Q 4) && (decide (wv P 5 = wv Q 5) && decide (wv P 6 = wv Q 6))))))) := by simp only [same7, Bool.decide_and]
set_option maxHeartbeats 1600000 in
set_option maxRecDepth 20000 in
theorem wmay_any (P : Nat → Bool) (w : World) : Calls Tryd.prog 141 #[S7 P] w fun e w' => e = .returned (.bool (same7 P (clip P))) ∧ Below w.heap.size w w' := by
  have hgd := guard7
  have HR0 := Lib.hid (Sev.new w (wv P))
  obtain ⟨x0, x1, x2, x3, x4, x5, x6⟩ := HR0.out.cells
  have HB0 := Lib.hid (show Below w.heap.size w (w.alloc (.cells (c7 (wv P)) 68)) from (Below.refl _ _).alloc (Nat.le_refl _) _)
  have KB := fun W g (h : Sev W g (wv P)) => both_at P W g h
  unfold S7 c7 at KB
  unfold S7
  obtain ⟨W0, hW0⟩ : ∃ W0, w.alloc (.cells (c7 (wv P)) 68) = W0 := ⟨_, rfl⟩
  rw [hW0] at HR0 HB0 x0 x1 x2 x3 x4 x5 x6
  have HKB := Lib.hid KB
  clear KB
  go_enter Tryd.func141, Tryd.ntmps141
  go_wp2_with fail
  try rw [hW0]
  clear hW0
  have HMK := Lib.hid (fun (Y : World) (hb : Below W0.heap.size W0 Y) => sev_mk HR0.out hb)
  have HS := HMK.out W0.drew (Below.refl _ _).drew
  clear x0 x1 x2 x3 x4 x5 x6
  go_region_held3 (fun w' => Below W0.heap.size W0 w' ∧ w'.cell? ⟨w.heap.size, 0, none⟩ = some (.int .u64 (wv P 0 : Nat)) ∧ w'.cell? ⟨w.heap.size, 1, none⟩ = some (.int .u64 (wv P 1 : Nat)) ∧ w'.cell? ⟨w.heap.size, 2, none⟩ = some (.int .u64 (wv P 2 : Nat)) ∧ w'.cell? ⟨w.heap.size, 3, none⟩ = some (.int .u64 (wv P 3 : Nat)) ∧ w'.cell? ⟨w.heap.size, 4, none⟩ = some (.int .u64 (wv P 4 : Nat)) ∧ w'.cell? ⟨w.heap.size, 5, none⟩ = some (.int .u64 (wv P 5 : Nat)) ∧ w'.cell? ⟨w.heap.size, 6, none⟩ = some (.int .u64 (wv P 6 : Nat))) (first | exact HS | exact hSw | exact HMK.out _ ((Below.refl _ W0).alloc (Nat.le_refl _) _).drew | exact HMK.out _ ((Below.refl _ W0).alloc (Nat.le_refl _) _)) ((go_at_call 167; with_reducible refine (HKB.out _ _ (by first | exact sev_new1.drew | exact sev_new1)).mono ?_; rintro e w3 ⟨rfl, hb⟩; have hSw := HMK.out w3 (((Below.refl _ W0).alloc (Nat.le_refl _) _).drew.trans (hb.mono (by simp))); have hS2 := hSw; obtain ⟨hbS, y0, y1, y2, y3, y4, y5, y6⟩ := hS2))
  rw [← same7_and]
  have HB3 := Lib.hid (HB0.out.trans (hbS.mono HB0.out.size))
  clear hbS y0 y1 y2 y3 y4 y5 y6 hSw HS HMK
  generalize hsb : same7 P (clip P) = sb
  go_wp2
  go_ret
  exact ⟨by rw [hsb]; rfl, HB3.out⟩
/-- is a number in a set? -/
def hasW (P : Nat → Bool) (n : Int) : Bool := decide (0 ≤ n ∧ n < 400) && P n.toNat
theorem hasW_lo (P : Nat → Bool) (n : Int) (h : n < 0 ∨ 400 ≤ n) : hasW P n = false := by unfold hasW; rw [dec_n (by omega)]; rfl
theorem hasW_in (P : Nat → Bool) (n : Nat) (h : n < 400) : hasW P n = P n := by unfold hasW; rw [dec_t (by omega)]; simp
theorem wv_bit (P : Nat → Bool) (n : Nat) : (wv P (n / 64)).testBit (n % 64) = P n := by
  rw [wv_test, dec_t (Nat.mod_lt _ (by omega)), show 64 * (n / 64) + n % 64 = n by omega]
  simp
end Go.Proofs.YtjdoknbmnokkdaaDoor
