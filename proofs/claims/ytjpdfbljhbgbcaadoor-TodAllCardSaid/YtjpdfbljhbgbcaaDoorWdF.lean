/- wide.Len; the document's Has, List and Of (layer 4). -/
import Derived.Test.YtjpdfbljhbgbcaaDoorWdE
import Derived.Test.YtjpdfbljhbgbcaaDoorMaskQ
namespace Go.Proofs.YtjpdfbljhbgbcaaDoor
open Go.RowKit
set_option linter.unusedVariables false

/-- how many numbers of a set lie in its first words -/
theorem len_step (P : Nat → Bool) (j : Nat) : (numsP P (64 * (j + 1))).length = (numsP P (64 * j)).length + (numsP (wv P j).testBit 64).length := by
  rw [show 64 * (j + 1) = 64 * j + 64 by omega, numsP_add]
  congr 2
  exact numsP_congr 64 fun i hi => by rw [wv_test, dec_t hi]; simp
theorem nums_clip (P : Nat → Bool) : ∀ n, numsP (clip P) (400 + n) = numsP (clip P) 400
  | 0 => rfl
  | n + 1 => by
    rw [show 400 + (n + 1) = (400 + n) + 1 by omega, numsP_no _ _ (by unfold clip; rw [dec_n (by omega)]; simp), nums_clip P n]
theorem by_words (P : Nat → Bool) : numsP (clip P) (64 * 7) = numsP (clip P) 400 := by
  rw [show 64 * 7 = 400 + 48 by decide]
  exact nums_clip P 48
theorem no_words (P : Nat → Bool) : (numsP P (64 * 0)).length = 0 := rfl
attribute [local irreducible] numsP
set_option maxHeartbeats 1600000 in
set_option maxRecDepth 20000 in
theorem wlen_any (P : Nat → Bool) (w : World) : Calls Tryd.prog 20 #[S7 P] w fun e w' => e = .returned (.int .i64 (numsP (clip P) 400).length) ∧ Below w.heap.size w w' := by
  have HR0 := Lib.hid (Sev.new w (wv P))
  obtain ⟨x0, x1, x2, x3, x4, x5, x6⟩ := HR0.out.cells
  have HB0 := Lib.hid (show Below w.heap.size w (w.alloc (.cells (c7 (wv P)) 34)) from (Below.refl _ _).alloc (Nat.le_refl _) _)
  have KB := fun W => both_one P W
  unfold c7 at KB
  unfold S7
  obtain ⟨W0, hW0⟩ : ∃ W0, w.alloc (.cells (c7 (wv P)) 34) = W0 := ⟨_, rfl⟩
  rw [hW0] at HR0 HB0 x0 x1 x2 x3 x4 x5 x6
  have hB0 := HB0.out.size
  have HKB := Lib.hid KB
  clear KB
  go_enter Tryd.func20, Tryd.ntmps20
  go_wp2_with fail
  try rw [hW0]
  clear hW0
  refine (HKB.out _).mono ?_
  rintro e w1 ⟨rfl, hb1⟩
  unfold S7
  have HB1 := Lib.hid (HB0.out.trans (hb1.mono hB0))
  have HN0 := Lib.hid (no_words (clip P))
  have HS := Lib.hid (fun j => len_step (clip P) j)
  have HG := Lib.hid (fun j (h : j < 7) W => idx7 (wv (clip P)) j h W)
  have HLT := Lib.hid (fun j => wv_lt (clip P) j)
  have HLE := Lib.hid (fun j => numsP_le (clip P) (64 * j))
  have HLM := Lib.hid (fun j => numsP_le (wv (clip P) j).testBit 64)
  have HEND := Lib.hid (by_words P)
  generalize hL : c7 (wv (clip P)) = L at HG
  have hsz : L.size = 7 := by rw [← hL]; rfl
  generalize hQ : clip P = Q at HN0 HS HG HLT HLE HLM HEND
  have HQ := Lib.hid hQ
  clear hQ
  clear hb1 hL x0 x1 x2 x3 x4 x5 x6 HR0 HB0 HKB
  go_wp2
  go_loopw [3, 9] (fun n i wr => ∃ j : Nat, j ≤ 7 ∧ i = .int .i64 j ∧ n = .int .i64 (numsP Q (64 * j)).length ∧ Below w.heap.size w wr) (fun _ i _ => 7 - (intOf i).toNat)
  case atStart => exact ⟨0, by omega, rfl, by rw [HN0.out]; rfl, HB1.out⟩
  case round =>
    obtain ⟨j, hj, rfl, rfl, hb⟩ := hrel
    have HB := Lib.hid hb
    by_cases hjl : j < 7
    · have hg := HG.out j hjl
      have K := fun W => mlen_any (wv Q j) W (HLT.out j)
      have h1 := HS.out j
      have h2 := HLE.out j
      have h3 := HLM.out j
      have d4 : decide ((j : Int) < 7) = true := decide_eq_true (by omega)
      clear hb
      generalize hA : (numsP Q (64 * j)).length = a at h1 h2
      generalize hM : (numsP (wv Q j).testBit 64).length = m at h1 h3 K
      have HH1 := Lib.hid h1
      clear hA hM h1
      go_wp2_with fail
      refine (K _).mono ?_
      rintro e w2 ⟨rfl, rfl⟩
      go_wp2
      go_roundw
      case rel => exact ⟨j + 1, by omega, by go_num, by rw [HH1.out]; go_num, HB.out⟩
      case measure => simp [intOf]; omega
    · obtain rfl : j = 7 := by omega
      rw [HEND.out]
      clear hb
      go_wp2
      go_ret
      exact ⟨by rw [HQ.out]; rfl, HB.out⟩
end Go.Proofs.YtjpdfbljhbgbcaaDoor
