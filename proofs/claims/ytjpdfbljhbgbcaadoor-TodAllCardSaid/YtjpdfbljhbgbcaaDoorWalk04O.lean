/- The walk of WideOf (layer 4). -/
import Derived.Test.YtjpdfbljhbgbcaaDoorWdJ
namespace Go.Proofs.YtjpdfbljhbgbcaaDoor
open Go.RowKit
set_option linter.unusedVariables false

attribute [local go_sem] eq7
theorem nums_set (P : Nat → Bool) (i : Nat) : inW (numsP (clip P) 400) i = clip P i := by
  unfold inW inL
  by_cases h : clip P i = true
  · have hi : i < 400 := by
      unfold clip at h
      rw [Bool.and_eq_true, decide_eq_true_eq] at h
      exact h.2
    rw [dec_t (mem_numsP.2 ⟨i, hi, h, rfl⟩), dec_t hi, h]
    rfl
  · rw [Bool.eq_false_iff.2 h]
    have : ¬ ((i : Int) ∈ numsP (clip P) 400 ∧ i < 400) := by
      rintro ⟨hm, hl⟩
      obtain ⟨k, hk, hp, he⟩ := mem_numsP.1 hm
      have : i = k := by omega
      subst this
      exact h hp
    rw [Bool.and_eq_false_iff]
    by_cases hm : (i : Int) ∈ numsP (clip P) 400
    · exact .inr (dec_n fun hl => this ⟨hm, hl⟩)
    · exact .inl (dec_n hm)
theorem sev_in {g : Nat} {f : Nat → Nat} {W0 X Y : World} {P : Prop} (HG : Sev W0 g f) (H : Below W0.heap.size W0 X ∧ P) (hb : Below X.heap.size X Y) : Below W0.heap.size W0 Y := H.1.trans (hb.mono H.1.size)
theorem sev_left {W0 X : World} {P : Prop} (H : Below W0.heap.size W0 X ∧ P) : Below W0.heap.size W0 X := H.1
attribute [local irreducible] numsP Bnd
set_option maxHeartbeats 6400000 in
set_option maxRecDepth 20000 in
theorem wideOf_in (A : Option Addr) (c : Nat) (zs : List Int) (P : Nat → Bool) (n : Int) (w : World) (hl : zs.length ≤ 500) (hc : Ints .i64 w A zs) (hT : Tab w) :
    Calls Tryd.prog 4 #[.slice A zs.length c, S7 P, .int .i64 n] w fun e w' => e = .returned (.bool true) ∧ Below w.heap.size w w' := by
  have hgd := guard7
  have d0 : decide ((500 : Int) < (zs.length : Int)) = false := dec_n (by omega)
  have d0' : decide (500 < zs.length) = false := dec_n (by omega)
  have HR0 := Lib.hid (Sev.new w (wv P))
  have HB0 := Lib.hid (show Below w.heap.size w (w.alloc (.cells (c7 (wv P)) 34)) from (Below.refl _ _).alloc (Nat.le_refl _) _)
  have HC0 := Lib.hid (Ints.below hc HB0.out)
  have HT0 := Lib.hid (hT.below HB0.out)
  obtain ⟨W0, hW0⟩ : ∃ W0, w.alloc (.cells (c7 (wv P)) 34) = W0 := ⟨_, rfl⟩
  rw [hW0] at HR0 HB0 HC0 HT0
  obtain ⟨x0, x1, x2, x3, x4, x5, x6⟩ := HR0.out.cells
  have KX := wrlist_any P W0
  have hx := nums_set P
  have hle := numsP_le (clip P) 400
  obtain ⟨b, hb⟩ : ∃ b, b = same7 P (clip P) := ⟨_, rfl⟩
  have hb1 : (decide (wv (clip P) 0 = wv P 0) && (decide (wv (clip P) 1 = wv P 1) && (decide (wv (clip P) 2 = wv P 2) && (decide (wv (clip P) 3 = wv P 3) && (decide (wv (clip P) 4 = wv P 4) && (decide (wv (clip P) 5 = wv P 5) && decide (wv (clip P) 6 = wv P 6))))))) = b := by
    rw [hb, ← same7_and, Bool.eq_iff_iff, same7_iff, same7_iff]
    exact ⟨fun q i hi => (q i hi).symm, fun q i hi => (q i hi).symm⟩
  have KM := Lib.hid (fun W => wmay_any P W)
  rw [← hb] at KM
  have KO := Lib.hid (fun W h => wof_any A c zs W (by omega) h)
  have KR := Lib.hid (fun W h => wrof_any A c zs W (by omega) h)
  have KRX := Lib.hid (fun A' c' W h => wrof_any A' c' (numsP (clip P) 400) W (by omega) h)
  rw [S7_congr fun i _ => hx i] at KRX
  have KH := Lib.hid (fun W => whas_any P n W)
  have KRH := Lib.hid (fun W => wrhas_any P n W)
  have KL := Lib.hid (fun W => wlen_any P W)
  have KF := Lib.hid (fun W => wfull_any W)
  have KFL := Lib.hid (fun W => wlen_any fullW W)
  rw [len_full] at KFL
  have KV := Lib.hid (fun W h => lives04_any W h)
  generalize hasW P n = hv at KH KRH
  generalize numsP (clip P) 400 = xs at KX KRX KL hle
  generalize inW zs = Z at KO KR
  unfold S7 c7 at KX KO KR KRX KM KH KRH KL KF KFL ⊢
  generalize fullW = FW at KF KFL
  generalize clip P = Q at KRX hb1
  clear hx hc hT hb
  change w.alloc (.cells #[.int .u64 (wv P 0 : Nat), .int .u64 (wv P 1 : Nat), .int .u64 (wv P 2 : Nat), .int .u64 (wv P 3 : Nat), .int .u64 (wv P 4 : Nat), .int .u64 (wv P 5 : Nat), .int .u64 (wv P 6 : Nat)] 34) = W0 at hW0
  go_enter Tryd.func4, Tryd.ntmps4
  go_wp2_with fail
  try rw [hW0]
  clear hW0
  refine KX.mono ?_
  rintro e w1 ⟨A', c', rfl, hix, hb1'⟩
  have HX := Lib.hid hix
  have HS1 := Lib.hid (HR0.out.below hb1')
  have HB1 := Lib.hid (HB0.out.trans (hb1'.mono HB0.out.size))
  have HC1 := Lib.hid (Ints.below HC0.out hb1')
  have HT1 := Lib.hid (HT0.out.below hb1')
  clear hix hb1' KX x0 x1 x2 x3 x4 x5 x6 HR0 HB0 HC0 HT0
  go_wp2_with fail
  have HMK := Lib.hid (fun (Y : World) (hb : Below w1.heap.size w1 Y) => sev_mk HS1.out hb)
  have HS := HMK.out w1.drew (Below.refl _ _).drew
  go_region_held3 (fun w' => Below w1.heap.size w1 w' ∧ w'.cell? ⟨w.heap.size, 0, none⟩ = some (.int .u64 (wv P 0 : Nat)) ∧ w'.cell? ⟨w.heap.size, 1, none⟩ = some (.int .u64 (wv P 1 : Nat)) ∧ w'.cell? ⟨w.heap.size, 2, none⟩ = some (.int .u64 (wv P 2 : Nat)) ∧ w'.cell? ⟨w.heap.size, 3, none⟩ = some (.int .u64 (wv P 3 : Nat)) ∧ w'.cell? ⟨w.heap.size, 4, none⟩ = some (.int .u64 (wv P 4 : Nat)) ∧ w'.cell? ⟨w.heap.size, 5, none⟩ = some (.int .u64 (wv P 5 : Nat)) ∧ w'.cell? ⟨w.heap.size, 6, none⟩ = some (.int .u64 (wv P 6 : Nat))) (first | exact HS | exact hSw) (first | (go_at_call 15; with_reducible refine (KO.out _ (Ints.below HC1.out (sev_left (by assumption)))).mono ?_; rintro e w3 ⟨rfl, hb⟩; have hSw := HMK.out w3 (sev_tr (B := 0) (by assumption) hb); have hS2 := hSw; obtain ⟨hbS, y0, y1, y2, y3, y4, y5, y6⟩ := hS2) | (go_at_call 16; with_reducible refine (KR.out _ (Ints.below HC1.out (sev_left (by assumption)))).mono ?_; rintro e w3 ⟨rfl, hb⟩; have hSw := HMK.out w3 (sev_tr (B := 0) (by assumption) hb); have hS2 := hSw; obtain ⟨hbS, y0, y1, y2, y3, y4, y5, y6⟩ := hS2) | (go_at_call 16; with_reducible refine (KRX.out _ _ _ (Ints.below HX.out (sev_left (by assumption)))).mono ?_; rintro e w3 ⟨rfl, hb⟩; have hSw := HMK.out w3 (sev_tr (B := 0) (by assumption) hb); have hS2 := hSw; obtain ⟨hbS, y0, y1, y2, y3, y4, y5, y6⟩ := hS2) | (go_at_call 17; with_reducible refine (KM.out _).mono ?_; rintro e w3 ⟨rfl, hb⟩; have hSw := HMK.out w3 (sev_tr (B := 0) (by assumption) hb); have hS2 := hSw; obtain ⟨hbS, y0, y1, y2, y3, y4, y5, y6⟩ := hS2) | (go_at_call 18; with_reducible refine (KH.out _).mono ?_; rintro e w3 ⟨rfl, hb⟩; have hSw := HMK.out w3 (sev_tr (B := 0) (by assumption) hb); have hS2 := hSw; obtain ⟨hbS, y0, y1, y2, y3, y4, y5, y6⟩ := hS2) | (go_at_call 19; with_reducible refine (KRH.out _).mono ?_; rintro e w3 ⟨rfl, hb⟩; have hSw := HMK.out w3 (sev_tr (B := 0) (by assumption) hb); have hS2 := hSw; obtain ⟨hbS, y0, y1, y2, y3, y4, y5, y6⟩ := hS2) | (go_at_call 20; with_reducible refine (KL.out _).mono ?_; rintro e w3 ⟨rfl, hb⟩; have hSw := HMK.out w3 (sev_tr (B := 0) (by assumption) hb); have hS2 := hSw; obtain ⟨hbS, y0, y1, y2, y3, y4, y5, y6⟩ := hS2) | (go_at_call 21; with_reducible refine (KF.out _).mono ?_; rintro e w3 ⟨rfl, hb⟩; have hSw := HMK.out w3 (sev_tr (B := 0) (by assumption) hb); have hS2 := hSw; obtain ⟨hbS, y0, y1, y2, y3, y4, y5, y6⟩ := hS2) | (go_at_call 20; with_reducible refine (KFL.out _).mono ?_; rintro e w3 ⟨rfl, hb⟩; have hSw := HMK.out w3 (sev_tr (B := 0) (by assumption) hb); have hS2 := hSw; obtain ⟨hbS, y0, y1, y2, y3, y4, y5, y6⟩ := hS2) | (go_at_call 13; with_reducible refine (KV.out _ (HT1.out.below (sev_left (by assumption)))).mono ?_; rintro e w3 ⟨rfl, hb⟩; have hSw := HMK.out w3 (sev_tr (B := 0) (by assumption) hb); have hS2 := hSw; obtain ⟨hbS, y0, y1, y2, y3, y4, y5, y6⟩ := hS2))
  have HBZ := Lib.hid (HB1.out.trans (hbS.mono HB1.out.size))
  clear hbS hSw HS HMK y0 y1 y2 y3 y4 y5 y6
  go_wp2
  go_ret
  exact ⟨rfl, HBZ.out⟩
theorem wideOf_long (A : Option Addr) (n c : Nat) (P : Nat → Bool) (x : Int) (w : World) (hl : 500 < n) (hT : Tab w) :
    Calls Tryd.prog 4 #[.slice A n c, S7 P, .int .i64 x] w fun e w' => e = .returned (.bool true) ∧ Below w.heap.size w w' := by
  have d0 : decide ((500 : Int) < (n : Int)) = true := dec_t (by omega)
  have d0' : decide (500 < n) = true := dec_t (by omega)
  have HB0 := Lib.hid (show Below w.heap.size w (w.alloc (.cells (c7 (wv P)) 34)) from (Below.refl _ _).alloc (Nat.le_refl _) _)
  have HT0 := Lib.hid (hT.below HB0.out)
  unfold S7
  generalize c7 (wv P) = L at HB0 HT0
  clear hT
  obtain ⟨W0, hW0⟩ : ∃ W0, w.alloc (.cells L 34) = W0 := ⟨_, rfl⟩
  rw [hW0] at HB0 HT0
  go_enter Tryd.func4, Tryd.ntmps4
  go_wp2_with fail
  try rw [hW0]
  clear hW0
  refine (lives04_any _ HT0.out).mono ?_
  rintro e w2 ⟨rfl, hb2⟩
  go_wp2
  go_ret
  exact ⟨rfl, HB0.out.trans (hb2.mono HB0.out.size)⟩
theorem wideOf_walk (A : Option Addr) (n c : Nat) (zs : List Int) (ms : List Int) (x : Int) (w : World) (hn : n = zs.length) (_hl : zs.length ≤ 9223372036854775807) (_hz : ∀ z ∈ zs, (Lit.int .i64 z).wf = true) (hi : Ints .i64 w A zs) (hm : ms.length = 7) (hw : ∀ z ∈ ms, (Lit.int .u64 z).wf = true) (_wx : (Lit.int .i64 x).wf = true) (hT : Tab w) :
    Calls Tryd.prog 4 #[.slice A n c, .agg (ms.map (Value.int .u64)).toArray, .int .i64 x] w fun e w' => e = .returned (.bool true) ∧ Below w.heap.size w w' := by
  subst hn
  rw [seven ms hm hw]
  by_cases h : 500 < zs.length
  · exact wideOf_long A _ c _ x w h hT
  · exact wideOf_in A c zs _ x w (by omega) hi hT
end Go.Proofs.YtjpdfbljhbgbcaaDoor
