/- What holds ahead of the statements of layer 4: lives. -/
import Derived.Test.YtjpdfbljhbgbcaaDoorWdI
import Derived.Test.YtjpdfbljhbgbcaaDoorOpen
namespace Go.Proofs.YtjpdfbljhbgbcaaDoor
open Go.RowKit
set_option linter.unusedVariables false

theorem seven (ms : List Int) (hm : ms.length = 7) (hw : ∀ z ∈ ms, (Lit.int .u64 z).wf = true) : Value.agg (ms.map (Value.int .u64)).toArray = S7 (ofZ ms) := by
  have h : ∀ j, j < 7 → ms[j]?.getD 0 = ((wv (ofZ ms) j : Nat) : Int) := fun j hj => by
    obtain ⟨n, hn, hl⟩ := wf_u64 (getD_mem hw (show j < ms.length by omega))
    rw [ofZ_wv ms j n hn (by omega), hn]
  match ms, hm, h with
  | [a0, a1, a2, a3, a4, a5, a6], _, h =>
    have e0 := h 0 (by omega)
    have e1 := h 1 (by omega)
    have e2 := h 2 (by omega)
    have e3 := h 3 (by omega)
    have e4 := h 4 (by omega)
    have e5 := h 5 (by omega)
    have e6 := h 6 (by omega)
    simp only [List.getElem?_cons_zero, List.getElem?_cons_succ, Option.getD_some] at e0 e1 e2 e3 e4 e5 e6
    unfold S7 c7
    rw [← e0, ← e1, ← e2, ← e3, ← e4, ← e5, ← e6]
    rfl
theorem bnd_lives {a b : Int} {ok : Bool} (h : Bnd (clip (inW [0, 64, 399])) 448 a b ok) : a = 0 ∧ b = 399 ∧ ok = true := by
  have q0 : clip (inW [0, 64, 399]) 0 = true := by decide
  have q1 : clip (inW [0, 64, 399]) 399 = true := by decide
  rcases h with ⟨_, _, _, h4⟩ | ⟨h1, x, y, h2, h3, h4, h5, h6, h7, h8, h9⟩
  · rw [h4 0 (by omega)] at q0; cases q0
  · have hx : x = 0 := by
      by_cases e : 0 < x
      · rw [h8 0 e] at q0; cases q0
      · omega
    have hy : y = 399 := by
      by_cases e : y < 399
      · rw [h9 399 e (by omega)] at q1; cases q1
      · have : y < 400 := by
          unfold clip at h7
          rw [Bool.and_eq_true, decide_eq_true_eq] at h7
          exact h7.2
        omega
    exact ⟨by omega, by omega, h1⟩
theorem len_lives : (numsP (clip (inW [0, 64, 399])) 400).length = 3 := by decide +kernel
theorem len_full : (numsP (clip fullW) 400).length = 400 := by decide +kernel
attribute [local irreducible] numsP Bnd
set_option maxHeartbeats 1600000 in
set_option maxRecDepth 20000 in
theorem lives04_any (w : World) (hT : Tab w) : Calls Tryd.prog 13 #[] w fun e w' => e = .returned (.bool true) ∧ Below w.heap.size w w' := by
  have HI := Lib.hid (ints_new .i64 w [0, 64, 399] _ 3 rfl)
  have HB0 := Lib.hid (show Below w.heap.size w (w.alloc (.cells (([0, 64, 399] : List Int).map (Value.int .i64)).toArray 3)) from (Below.refl _ _).alloc (Nat.le_refl _) _)
  have HT0 := Lib.hid (hT.below HB0.out)
  obtain ⟨W0, hW0⟩ : ∃ W0, w.alloc (.cells (([0, 64, 399] : List Int).map (Value.int .i64)).toArray 3) = W0 := ⟨_, rfl⟩
  rw [hW0] at HI HB0 HT0
  have KO := wof_any (some ⟨w.heap.size, 0, none⟩) 3 [0, 64, 399] W0 (by decide) HI.out
  have HKB := Lib.hid (fun W hT => wbounds_any (inW [0, 64, 399]) W hT)
  have HKL := Lib.hid (fun W => wlen_any (inW [0, 64, 399]) W)
  rw [len_lives] at HKL
  have HBD := Lib.hid (fun a b ok h => bnd_lives (a := a) (b := b) (ok := ok) h)
  generalize inW [0, 64, 399] = Q at KO HKB HKL HBD
  unfold S7 c7 at KO HKB HKL
  change w.alloc (.cells #[.int .i64 0, .int .i64 64, .int .i64 399] 3) = W0 at hW0
  go_enter Tryd.func13, Tryd.ntmps13
  go_wp2_with fail
  try rw [hW0]
  clear hW0
  refine KO.mono ?_
  rintro e w1 ⟨rfl, hb1⟩
  have HT1 := Lib.hid ((HT0.out.below hb1).below ((Below.refl _ _).alloc (Nat.le_refl _) (.cells (c7 (wv Q)) 34)))
  have HS1 := Lib.hid (Sev.new w1 (wv Q))
  have HB1 := Lib.hid ((HB0.out.trans (hb1.mono HB0.out.size)).alloc (Nat.le_trans HB0.out.size hb1.size) (.cells (c7 (wv Q)) 34))
  obtain ⟨W1, hW1⟩ : ∃ W1, w1.alloc (.cells (c7 (wv Q)) 34) = W1 := ⟨_, rfl⟩
  rw [hW1] at HT1 HS1 HB1
  unfold c7 at hW1
  clear hb1 KO HT0 HB0 HI
  obtain ⟨x0, x1, x2, x3, x4, x5, x6⟩ := HS1.out.cells
  go_wp2_with fail
  try rw [hW1]
  clear hW1
  refine (HKB.out _ HT1.out).mono ?_
  rintro e w2 ⟨⟨a, b, ok, rfl, hbd⟩, hb2⟩
  obtain ⟨rfl, rfl, rfl⟩ := HBD.out a b ok hbd
  have HS2 := Lib.hid (HS1.out.below hb2)
  have HB2 := Lib.hid (HB1.out.trans (hb2.mono HB1.out.size))
  clear hb2 hbd x0 x1 x2 x3 x4 x5 x6
  obtain ⟨x0, x1, x2, x3, x4, x5, x6⟩ := HS2.out.cells
  go_wp2_with fail
  refine (HKL.out _).mono ?_
  rintro e w3 ⟨rfl, hb3⟩
  have HB3 := Lib.hid (HB2.out.trans (hb3.mono HB2.out.size))
  clear hb3 x0 x1 x2 x3 x4 x5 x6
  go_wp2
  go_ret
  exact ⟨rfl, HB3.out⟩
end Go.Proofs.YtjpdfbljhbgbcaaDoor
