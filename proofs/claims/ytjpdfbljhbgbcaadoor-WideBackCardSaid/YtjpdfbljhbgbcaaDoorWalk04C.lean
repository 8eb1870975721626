/- The walk of WideBack (layer 4). -/
import Derived.Test.YtjpdfbljhbgbcaaDoorWalk04A
import Derived.Test.YtjpdfbljhbgbcaaDoorWdO
namespace Go.Proofs.YtjpdfbljhbgbcaaDoor
open Go.RowKit
set_option linter.unusedVariables false

attribute [local go_sem] eq7
theorem both_two (Q : Nat → Bool) (w : World) : Calls Tryd.prog 22 #[.slice (some ⟨w.heap.size, 0, none⟩) 2 2] (w.alloc (.cells #[.int .u64 (wv Q 0 : Nat), .int .u64 (wv Q 1 : Nat), .int .u64 (wv Q 2 : Nat), .int .u64 (wv Q 3 : Nat), .int .u64 (wv Q 4 : Nat), .int .u64 (wv Q 5 : Nat), .int .u64 (wv Q 6 : Nat), .int .u64 (wv Q 0 : Nat), .int .u64 (wv Q 1 : Nat), .int .u64 (wv Q 2 : Nat), .int .u64 (wv Q 3 : Nat), .int .u64 (wv Q 4 : Nat), .int .u64 (wv Q 5 : Nat), .int .u64 (wv Q 6 : Nat)] 34)) fun e w' => e = .returned (S7 (clip Q)) ∧ Below w.heap.size w w' := by
  refine (both_any (some ⟨w.heap.size, 0, none⟩) 2 [Q, Q] _ (by simp) (sets_two w Q Q _ _ rfl)).mono ?_
  rintro e w' ⟨rfl, hb⟩
  refine ⟨by rw [S7_congr fun i _ => show andP [Q, Q] i = clip Q i by simp [andP, clip, fullW, Bool.and_comm]], ((Below.refl _ _).alloc (Nat.le_refl _) _).trans (hb.mono (by simp))⟩
theorem either_one (Q : Nat → Bool) (w : World) : Calls Tryd.prog 23 #[.slice (some ⟨w.heap.size, 0, none⟩) 1 1] (w.alloc (.cells #[.int .u64 (wv Q 0 : Nat), .int .u64 (wv Q 1 : Nat), .int .u64 (wv Q 2 : Nat), .int .u64 (wv Q 3 : Nat), .int .u64 (wv Q 4 : Nat), .int .u64 (wv Q 5 : Nat), .int .u64 (wv Q 6 : Nat)] 34)) fun e w' => e = .returned (S7 (clip Q)) ∧ Below w.heap.size w w' := by
  refine (either_any (some ⟨w.heap.size, 0, none⟩) 1 [Q] _ (by simp) (sets_one w Q _)).mono ?_
  rintro e w' ⟨rfl, hb⟩
  refine ⟨by rw [S7_congr fun i _ => show eitherP [Q] i = clip Q i by simp [eitherP, orP, clip]], ((Below.refl _ _).alloc (Nat.le_refl _) _).trans (hb.mono (by simp))⟩
theorem clip_in (zs : List Int) (i : Nat) : clip (inW zs) i = inW zs i := by
  unfold clip inW
  rw [Bool.and_assoc, Bool.and_self]
theorem nums_of (zs : List Int) (i : Nat) : inW (numsP (inW zs) 400) i = inW zs i := by
  rw [nums_in]
  unfold inW
  rw [Bool.and_comm, Bool.and_assoc, Bool.and_self]
theorem nums_clip_in (zs : List Int) : numsP (clip (inW zs)) 400 = numsP (inW zs) 400 := numsP_congr 400 fun i _ => clip_in zs i
theorem wv_clip_in (zs : List Int) (j : Nat) : wv (clip (inW zs)) j = wv (inW zs) j := wv_congr fun i _ => clip_in zs _
theorem sevg_mk {s g : Nat} {f : Nat → Nat} {v : Value} {W0 X : World} (HG : Sev W0 s f) (hg : W0.heap[g]? = some (.cells #[v] 26 (0, 0))) (hb : Below W0.heap.size W0 X) : Below W0.heap.size W0 X ∧ X.cell? ⟨s, 0, none⟩ = some (.int .u64 (f 0 : Nat)) ∧ X.cell? ⟨s, 1, none⟩ = some (.int .u64 (f 1 : Nat)) ∧ X.cell? ⟨s, 2, none⟩ = some (.int .u64 (f 2 : Nat)) ∧ X.cell? ⟨s, 3, none⟩ = some (.int .u64 (f 3 : Nat)) ∧ X.cell? ⟨s, 4, none⟩ = some (.int .u64 (f 4 : Nat)) ∧ X.cell? ⟨s, 5, none⟩ = some (.int .u64 (f 5 : Nat)) ∧ X.cell? ⟨s, 6, none⟩ = some (.int .u64 (f 6 : Nat)) ∧ X.cell? ⟨g, 0, none⟩ = some v := by
  obtain ⟨a0, a1, a2, a3, a4, a5, a6⟩ := (HG.below hb).cells
  exact ⟨hb, a0, a1, a2, a3, a4, a5, a6, blk_cell ((hb.block _ (lt_of_block hg)).trans hg) 0⟩
theorem sev_tr2' {B : Nat} {W0 X Y : World} {P : Prop} (H : Below W0.heap.size W0 X ∧ P) (hb : Below X.heap.size X Y) : Below W0.heap.size W0 Y := H.1.trans (hb.mono H.1.size)
attribute [local irreducible] numsP Bnd Fin
set_option maxHeartbeats 1600000 in
set_option maxRecDepth 20000 in
theorem wideBack_in (A : Option Addr) (c : Nat) (zs : List Int) (w : World) (hl : zs.length ≤ 500) (hc : Ints .i64 w A zs) (hT : Tab w) :
    Calls Tryd.prog 7 #[.slice A zs.length c] w fun e w' => e = .returned (.bool true) ∧ Below w.heap.size w w' := by
  have hgd := guard7
  have d0 : decide ((500 : Int) < (zs.length : Int)) = false := dec_n (by omega)
  have d0' : decide (500 < zs.length) = false := dec_n (by omega)
  have hTl := hT.lt
  have HT0 := Lib.hid hT
  have K1 := wof_any A c zs w (by omega) hc
  have HWC := Lib.hid (fun j => wv_clip_in zs j)
  have HKA := Lib.hid (fun W => wall_any (inW zs) W)
  have HKM0 := fun W => wmay_any (inW zs) W
  rw [(same7_iff (inW zs) (clip (inW zs))).2 (fun i _ => (clip_in zs i).symm)] at HKM0
  have HKM := Lib.hid HKM0
  have hS7 : S7 (clip (inW zs)) = S7 (inW zs) := S7_congr fun i _ => clip_in zs i
  have KL := Lib.hid (fun W => wlen_any (inW zs) W)
  rw [nums_clip_in] at KL
  have KV := Lib.hid (fun W h => lives04_any W h)
  have KB2 := Lib.hid (fun W => both_two (inW zs) W)
  have KE1 := Lib.hid (fun W => either_one (inW zs) W)
  have hle := numsP_le (inW zs) 400
  have HKO := Lib.hid (fun A' c' W h => wof_any A' c' (numsP (inW zs) 400) W (by omega) h)
  have hS8 : S7 (inW (numsP (inW zs) 400)) = S7 (inW zs) := S7_congr fun i _ => nums_of zs i
  rw [hS8] at HKO
  rw [hS7] at KB2 KE1
  have HNA := Lib.hid ((numsP_congr 448 fun i _ => (clip_in zs i).symm).trans ((nums_all (inW zs)).trans (nums_clip_in zs)))
  clear hS7 hS8 HKM0
  generalize inW zs = Q at K1 HWC HKA HKM KL KB2 KE1 HKO HNA hle
  unfold S7 c7 at K1 HKA HKM KL KB2 KE1 HKO
  clear hc hT
  go_enter Tryd.func7, Tryd.ntmps7
  go_wp2_with fail
  refine K1.mono ?_
  rintro e w1 ⟨rfl, hb1⟩
  have HS1 := Lib.hid (Sev.new w1 (wv Q))
  have s1 := hb1.size
  have HB1 := Lib.hid (hb1.alloc s1 (.cells (c7 (wv Q)) 34))
  have HT1 := Lib.hid (HT0.out.below HB1.out)
  have hs1 : (w1.alloc (.cells (c7 (wv Q)) 34)).heap.size = w1.heap.size + 1 := by simp
  obtain ⟨W1, hW1⟩ : ∃ W1, w1.alloc (.cells (c7 (wv Q)) 34) = W1 := ⟨_, rfl⟩
  rw [hW1] at HS1 HB1 HT1 hs1
  unfold c7 at hW1
  generalize hss : w1.heap.size = s at HS1 s1 hs1
  obtain ⟨x0, x1, x2, x3, x4, x5, x6⟩ := HS1.out.cells
  have HSZ := Lib.hid hs1
  clear hb1 K1 hs1
  go_wp2_with fail
  try rw [hW1]
  clear hW1 hss
  refine (HKA.out _).mono ?_
  rintro e w2 ⟨rfl, hs2, hb2⟩
  have hn2 := nil_func (.func 44) #[] #[.pointer (some ⟨W1.heap.size, 0, none⟩)] w2
  have l2 := Sev.lt hs2
  have HS2 := Lib.hid (HS1.out.below hb2)
  have HV2 := Lib.hid (hs2.congr fun j _ => HWC.out j)
  have HB2 := Lib.hid (HB1.out.trans (hb2.mono HB1.out.size))
  have HT2 := Lib.hid (HT1.out.below hb2)
  clear hb2 hs2 x0 x1 x2 x3 x4 x5 x6
  obtain ⟨x0, x1, x2, x3, x4, x5, x6⟩ := HS2.out.cells
  go_wp2_with fail
  refine (HKM.out _).mono ?_
  rintro e w3 ⟨rfl, hb3⟩
  have s3 := hb3.size
  have HS3 := Lib.hid (HS2.out.below hb3)
  have HV3 := Lib.hid (HV2.out.below hb3)
  have HB3 := Lib.hid (HB2.out.trans (hb3.mono HB2.out.size))
  have HT3 := Lib.hid (HT2.out.below hb3)
  clear hb3 x0 x1 x2 x3 x4 x5 x6 hn2
  have HS4 := Lib.hid (HS3.out.alloc (.cells #[.slice none 0 0] 26))
  have HV4 := Lib.hid (HV3.out.alloc (.cells #[.slice none 0 0] 26))
  have HG4 := Lib.hid (blk_new w3 (.cells #[.slice none 0 0] 26))
  have HB4 := Lib.hid (HB3.out.alloc HB3.out.size (.cells #[.slice none 0 0] 26))
  have HT4 := Lib.hid (HT3.out.below ((Below.refl _ _).alloc (Nat.le_refl _) (.cells #[.slice none 0 0] 26)))
  have lS3 := HS3.out.lt
  have lw3 := HB3.out.size
  have hs4 : (w3.alloc (.cells #[.slice none 0 0] 26)).heap.size = w3.heap.size + 1 := by simp
  obtain ⟨W4, hW4⟩ : ∃ W4, w3.alloc (.cells #[.slice none 0 0] 26) = W4 := ⟨_, rfl⟩
  rw [hW4] at HS4 HV4 HG4 HB4 HT4 hs4
  generalize hgg : w3.heap.size = g at HG4 hs4 lS3 lw3 s3
  have HKI := Lib.hid (callsIn_wide.1 (witerb_in 5 (by omega) Q W1.heap.size g 0 rfl W4 HV4.out HG4.out HT4.out (by omega)))
  have HS4Z := Lib.hid hs4
  clear hs4
  go_wp2_with fail
  try rw [hW4]
  clear hW4 hgg
  have hs4 := HS4Z.out
  refine HKI.out.mono ?_
  rintro e w5 ⟨⟨u, rfl⟩, v, ys, hg5, ho5, hbut, hfin⟩
  have hy : ys = numsP Q 400 := by
    rcases fin_cases hfin _ rfl with ⟨_, h⟩ | ⟨h, _⟩ | ⟨h, _⟩
    · rw [h, HNA.out]
    · omega
    · omega
  subst hy
  obtain ⟨A3, c3, rfl, hi3, _⟩ := ho5.ints2
  have HS5 := Lib.hid (Sev.but HS4.out hbut (by omega))
  have HBX := Lib.hid (show Below w.heap.size W4 w5 from ⟨hbut.os, hbut.tape, hbut.output, hbut.size, fun k hk => hbut.block k (by omega) (by omega)⟩)
  have HB5 := Lib.hid (HB4.out.trans HBX.out)
  have HT5 := Lib.hid (HT0.out.below HB5.out)
  have HG5 := Lib.hid hg5
  have HI5 := Lib.hid hi3
  have KO := Lib.hid (fun W h => HKO.out A3 c3 W h)
  clear hfin hg5 ho5 hbut hi3 HKI HG4 HS4 HV4 hs4
  generalize numsP Q 400 = ys at KL HI5 KO hle HKO HG5
  clear HKO
  have HMK := Lib.hid (fun (Y : World) (hb : Below w5.heap.size w5 Y) => sevg_mk HS5.out HG5.out hb)
  have HS := HMK.out w5.drew (Below.refl _ _).drew
  go_wp2_with fail
  go_region_held3 (fun w' => Below w5.heap.size w5 w' ∧ w'.cell? ⟨s, 0, none⟩ = some (.int .u64 (wv Q 0 : Nat)) ∧ w'.cell? ⟨s, 1, none⟩ = some (.int .u64 (wv Q 1 : Nat)) ∧ w'.cell? ⟨s, 2, none⟩ = some (.int .u64 (wv Q 2 : Nat)) ∧ w'.cell? ⟨s, 3, none⟩ = some (.int .u64 (wv Q 3 : Nat)) ∧ w'.cell? ⟨s, 4, none⟩ = some (.int .u64 (wv Q 4 : Nat)) ∧ w'.cell? ⟨s, 5, none⟩ = some (.int .u64 (wv Q 5 : Nat)) ∧ w'.cell? ⟨s, 6, none⟩ = some (.int .u64 (wv Q 6 : Nat)) ∧ w'.cell? ⟨g, 0, none⟩ = some (.slice A3 ys.length c3)) (first | exact HS | exact hSw | exact HMK.out _ (sev_al (B := 0) (by assumption))) (first | (go_at_call 15; with_reducible refine (KO.out _ (Ints.below HI5.out (sev_left (by assumption)))).mono ?_; rintro e w7 ⟨rfl, hb⟩; have hSw := HMK.out w7 (sev_tr (B := 0) (by assumption) hb); have hS2 := hSw; obtain ⟨hbS, y0, y1, y2, y3, y4, y5, y6, yg⟩ := hS2) | (go_at_call 20; with_reducible refine (KL.out _).mono ?_; rintro e w7 ⟨rfl, hb⟩; have hSw := HMK.out w7 (sev_tr (B := 0) (by assumption) hb); have hS2 := hSw; obtain ⟨hbS, y0, y1, y2, y3, y4, y5, y6, yg⟩ := hS2) | (go_at_call 13; with_reducible refine (KV.out _ (HT5.out.below (sev_left (by assumption)))).mono ?_; rintro e w7 ⟨rfl, hb⟩; have hSw := HMK.out w7 (sev_tr (B := 0) (by assumption) hb); have hS2 := hSw; obtain ⟨hbS, y0, y1, y2, y3, y4, y5, y6, yg⟩ := hS2) | (go_at_call 22; with_reducible refine (KB2.out _).mono ?_; rintro e w7 ⟨rfl, hb⟩; have hSw := HMK.out w7 (sev_tr2' (B := 0) (by assumption) hb); have hS2 := hSw; obtain ⟨hbS, y0, y1, y2, y3, y4, y5, y6, yg⟩ := hS2) | (go_at_call 23; with_reducible refine (KE1.out _).mono ?_; rintro e w7 ⟨rfl, hb⟩; have hSw := HMK.out w7 (sev_tr2' (B := 0) (by assumption) hb); have hS2 := hSw; obtain ⟨hbS, y0, y1, y2, y3, y4, y5, y6, yg⟩ := hS2))
  have HBZ := Lib.hid (HB5.out.trans (hbS.mono HB5.out.size))
  clear hbS hSw HS HMK y0 y1 y2 y3 y4 y5 y6 yg
  go_wp2
  go_ret
  exact ⟨rfl, HBZ.out⟩
theorem wideBack_long (A : Option Addr) (n c : Nat) (w : World) (hl : 500 < n) (hT : Tab w) :
    Calls Tryd.prog 7 #[.slice A n c] w fun e w' => e = .returned (.bool true) ∧ Below w.heap.size w w' := by
  have d0 : decide ((500 : Int) < (n : Int)) = true := dec_t (by omega)
  have d0' : decide (500 < n) = true := dec_t (by omega)
  have HT0 := Lib.hid hT
  clear hT
  go_enter Tryd.func7, Tryd.ntmps7
  go_wp2_with fail
  refine (lives04_any _ HT0.out).mono ?_
  rintro e w2 ⟨rfl, hb2⟩
  go_wp2
  go_ret
  exact ⟨rfl, hb2⟩
theorem wideBack_walk (A : Option Addr) (n c : Nat) (zs : List Int) (w : World) (hn : n = zs.length) (_hl : zs.length ≤ 9223372036854775807) (_hz : ∀ z ∈ zs, (Lit.int .i64 z).wf = true) (hi : Ints .i64 w A zs) (hT : Tab w) :
    Calls Tryd.prog 7 #[.slice A n c] w fun e w' => e = .returned (.bool true) ∧ Below w.heap.size w w' := by
  subst hn
  by_cases h : 500 < zs.length
  · exact wideBack_long A _ c w h hT
  · exact wideBack_in A c zs w (by omega) hi hT
end Go.Proofs.YtjpdfbljhbgbcaaDoor
