/- The library's OnesCount64 and mask.Len (layer 2). -/
import Derived.Test.YtbfndcogieiejaaDoorMaskP
import Derived.Laws.Bits128
import Derived.Test.YtbfndcogieiejaaDoorMaskC
namespace Go.Proofs.YtbfndcogieiejaaDoor
open Go.RowKit
set_option linter.unusedVariables false

theorem bnd5 (A V w : Nat) (h1 : A ≤ 600000000) (h2 : V ≤ 140000000) (h3 : w ≤ 2064) : A + 4294967296 * (V + w) + (V + w) < 9223372036854775808 := by omega
theorem bndA (c0 c1 c2 c3 c4 c5 c6 : Nat) (h0 : c0 ≤ 8) (h1 : c1 ≤ 8) (h2 : c2 ≤ 8) (h3 : c3 ≤ 8) (h4 : c4 ≤ 8) (h5 : c5 ≤ 8) (h6 : c6 ≤ 8) :
    ((c0 + c1) + 256 * (c1 + c2)) + ((c2 + c3) + 256 * (c3 + c4)) + 65536 * (((c2 + c3) + 256 * (c3 + c4)) + ((c4 + c5) + 256 * (c5 + c6))) ≤ 600000000 := by omega
theorem bnd2 (c0 c1 c2 : Nat) (h0 : c0 ≤ 8) (h1 : c1 ≤ 8) (h2 : c2 ≤ 8) : (c0 + c1) + 256 * (c1 + c2) < 65536 := by omega
theorem hwL (c6 c7 r6 : Nat) (h6 : c6 ≤ 8) (h7 : c7 ≤ 8) (q6 : r6 = c6 + 256 * c7) : r6 + c7 = c6 + c7 + 256 * c7 ∧ r6 + c7 ≤ 2064 := by omega
theorem hvL (c4 c5 c6 v w : Nat) (h4 : c4 ≤ 8) (h5 : c5 ≤ 8) (h6 : c6 ≤ 8) (hw : w ≤ 2064) (e : v = ((c4 + c5) + 256 * (c5 + c6)) + 65536 * w) : v ≤ 140000000 := by omega
theorem hsL (c0 c1 c2 c3 c4 c5 c6 c7 : Nat) (h0 : c0 ≤ 8) (h1 : c1 ≤ 8) (h2 : c2 ≤ 8) (h3 : c3 ≤ 8) (h4 : c4 ≤ 8) (h5 : c5 ≤ 8) (h6 : c6 ≤ 8) (h7 : c7 ≤ 8) : c0 + (c1 + (c2 + (c3 + (c4 + (c5 + (c6 + c7)))))) < 128 := by omega
theorem fold_all (c0 c1 c2 c3 c4 c5 c6 c7 r1 r2 r3 r4 r5 r6 x4 x5 x6 : Nat) (h0 : c0 ≤ 8) (h1 : c1 ≤ 8) (h2 : c2 ≤ 8) (h3 : c3 ≤ 8) (h4 : c4 ≤ 8) (h5 : c5 ≤ 8) (h6 : c6 ≤ 8) (h7 : c7 ≤ 8)
    (q6 : r6 = c6 + 256 * c7) (q5 : r5 = c5 + 256 * r6) (q4 : r4 = c4 + 256 * r5) (q3 : r3 = c3 + 256 * r4) (q2 : r2 = c2 + 256 * r3) (q1 : r1 = c1 + 256 * r2)
    (e4 : x4 = (c0 + 256 * r1) + (c0 + 256 * r1) / 256) (e5 : x5 = x4 + x4 / 65536) (e6 : x6 = x5 + x5 / 4294967296) :
    x4 < 9223372036854775808 ∧ x5 < 9223372036854775808 ∧ x6 < 9223372036854775808 ∧ x6 % 128 = c0 + (c1 + (c2 + (c3 + (c4 + (c5 + (c6 + c7)))))) := by
  rw [div1 c0 r1 _ (Nat.lt_of_le_of_lt h0 (by decide)) rfl, fold1 c0 c1 c2 r1 r2 r3 q1 q2] at e4
  rw [div2 _ (r2 + r3) x4 (bnd2 c0 c1 c2 h0 h1 h2) e4] at e5
  have g2 := fold2 c2 c3 c4 r2 r3 r4 r5 q2 q3 q4
  have g4 := fold2 c4 c5 c6 r4 r5 r6 c7 q4 q5 q6
  rw [e4, fold3 _ _ _ _ _ _ 0 g2 g4] at e5
  obtain ⟨hw, hw2⟩ := hwL c6 c7 r6 h6 h7 q6
  have hv2 : r4 + r5 ≤ 140000000 := hvL c4 c5 c6 _ _ h4 h5 h6 hw2 g4
  have hA := bndA c0 c1 c2 c3 c4 c5 c6 h0 h1 h2 h3 h4 h5 h6
  rw [div3 _ (r4 + r5 + (r6 + c7)) x5 (Nat.lt_of_le_of_lt hA (by decide)) e5] at e6
  have hs : c0 + (c1 + (c2 + (c3 + (c4 + (c5 + (c6 + c7)))))) < 128 := hsL _ _ _ _ _ _ _ _ h0 h1 h2 h3 h4 h5 h6 h7
  have hA4 := fold4 c0 c1 c2 c3 c4 c5 c6 c7 _ (((c2 + c3) + 256 * (c3 + c4)) + ((c4 + c5) + 256 * (c5 + c6))) hs rfl
  have h5' := fold5 c0 c1 c2 c3 c4 c5 c6 c7 (r6 + c7) hw hs _ (r4 + r5) hA4 g4
  have hb := bnd5 _ _ _ hA hv2 hw2
  rw [← e5, ← e6] at hb
  rw [← e5, ← e6] at h5'
  have l1 : x5 ≤ x6 := by rw [e6]; exact Nat.le_add_right _ _
  have l2 : x4 ≤ x5 := by
    rw [e5, ← fold3 _ _ _ _ _ _ 0 g2 g4, ← e4]; exact Nat.le_add_right _ _
  exact ⟨Nat.lt_of_le_of_lt (Nat.le_trans l2 l1) hb, Nat.lt_of_le_of_lt l1 hb, hb, h5'⟩
theorem pc_le (x : Nat) : pc (x % 256) ≤ 8 := (key4 (x % 256) (Nat.mod_lt _ (by decide))).2.2.2.1
theorem last_sum (m x4 x5 x6 : Nat) (e4 : x4 = comb pc 8 m + comb pc 8 m / 256) (e5 : x5 = x4 + x4 / 65536) (e6 : x6 = x5 + x5 / 4294967296) :
    x4 < 9223372036854775808 ∧ x5 < 9223372036854775808 ∧ x6 < 9223372036854775808 ∧ x6 % 128 = sumB 8 m := by
  have hs : sumB 8 m = pc (m % 256) + (pc (m / 256 % 256) + (pc (m / 256 / 256 % 256) + (pc (m / 256 / 256 / 256 % 256) + (pc (m / 256 / 256 / 256 / 256 % 256) + (pc (m / 256 / 256 / 256 / 256 / 256 % 256) + (pc (m / 256 / 256 / 256 / 256 / 256 / 256 % 256) + pc (m / 256 / 256 / 256 / 256 / 256 / 256 / 256 % 256))))))) := rfl
  rw [hs]
  rw [comb_succ pc 7] at e4
  exact fold_all _ _ _ _ _ _ _ _ (comb pc 7 (m / 256)) (comb pc 6 (m / 256 / 256)) (comb pc 5 (m / 256 / 256 / 256)) (comb pc 4 (m / 256 / 256 / 256 / 256)) (comb pc 3 (m / 256 / 256 / 256 / 256 / 256)) (comb pc 2 (m / 256 / 256 / 256 / 256 / 256 / 256)) x4 x5 x6
    (pc_le _) (pc_le _) (pc_le _) (pc_le _) (pc_le _) (pc_le _) (pc_le _) (pc_le _) rfl rfl rfl rfl rfl rfl e4 e5 e6
theorem wrapN (x : Nat) (h : x < 18446744073709551616) : IntKind.u64.wrap ((x : Nat) : Int) = (x : Int) := by rw [IntKind.wrap_u64]; omega
theorem wrapA (x y : Nat) (h : x + y < 18446744073709551616) : IntKind.u64.wrap ((x : Int) + (y : Int)) = ((x + y : Nat) : Int) := by rw [IntKind.wrap_u64]; omega
theorem divN (x d : Nat) : (x : Int) / (d : Int) = ((x / d : Nat) : Int) := (Int.natCast_ediv x d).symm
theorem rep1_8 : rep 1 8 = 72340172838076673 := by decide
end Go.Proofs.YtbfndcogieiejaaDoor
