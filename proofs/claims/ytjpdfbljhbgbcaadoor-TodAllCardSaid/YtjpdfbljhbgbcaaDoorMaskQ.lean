/- The library's OnesCount64 and mask.Len (layer 2). -/
import Derived.Test.YtjpdfbljhbgbcaaDoorMaskP
import Derived.Laws.Bits128
import Derived.Test.YtjpdfbljhbgbcaaDoorMaskC
namespace Go.Proofs.YtjpdfbljhbgbcaaDoor
open Go.RowKit
set_option linter.unusedVariables false

theorem bnd5 (A V w : Nat) (h1 : A ≤ 600000000) (h2 : V ≤ 140000000) (h3 : w ≤ 2064) : A + 4294967296 * (V + w) + (V + w) < 9223372036854775808 := by omega
theorem bndA (c0 c1 c2 c3 c4 c5 c6 : Nat) (h0 : c0 ≤ 8) (h1 : c1 ≤ 8) (h2 : c2 ≤ 8) (h3 : c3 ≤ 8) (h4 : c4 ≤ 8) (h5 : c5 ≤ 8) (h6 : c6 ≤ 8) :
    ((c0 + c1) + 256 * (c1 + c2)) + ((c2 + c3) + 256 * (c3 + c4)) + 65536 * (((c2 + c3) + 256 * (c3 + c4)) + ((c4 + c5) + 256 * (c5 + c6))) ≤ 600000000 := by omega
theorem bnd2 (c0 c1 c2 : Nat) (h0 : c0 ≤ 8) (h1 : c1 ≤ 8) (h2 : c2 ≤ 8) : (c0 + c1) + 256 * (c1 + c2) < 65536 := by omega
theorem hwL (c6 c7 r6 : Nat) (h6 : c6 ≤ 8) (h7 : c7 ≤ 8) (q6 : r6 = c6 + 256 * c7) : r6 + c7 = c6 + c7 + 256 * c7 ∧ r6 + c7 ≤ 2064 := by omega
theorem hvL (c4 c5 c6 v w : Nat) (h4 : c4 ≤ 8) (h5 : c5 ≤ 8) (h6 : c6 ≤ 8) (hw : w ≤ 2064) (e : v = ((c4 + c5) + 256 * (c5 + c6)) + 65536 * w) : v ≤ 140000000 := by omega
theorem hsL (c0 c1 c2 c3 c4 c5 c6 c7 : Nat) (h0 : c0 ≤ 8) (h1 : c1 ≤ 8) (h2 : c2 ≤ 8) (h3 : c3 ≤ 8) (h4 : c4 ≤ 8) (h5 : c5 ≤ 8) (h6 : c6 ≤ 8) (h7 : c7 ≤ 8) : c0 + (c1 + (c2 + (c3 + (c4 + (c5 + (c6 + c7)))))) < 128 := by omega
theorem fold_all (c0 c1 c2 c3 c4 c5 c6 c7 r1 r2 r3 r4 r5 r6 x4 x5 x6 : Nat) (h0 : c0 ≤ 8) (h1 : c1 ≤ 8) (h2 : c2 ≤ 8) (h3 : c3 ≤ 8) (h4 : c4 ≤ 8) (h5 : c5 ≤ 8) (h6 : c6 ≤ 8) (h7 : c7 ≤ 8)
    (q6 : r6 = c6 + 256 * c7) (q5 : r5 = c5 + 256 * r6) (q4 : r4 = c4 + 256 * r5) (q3 : r3 = c3 + 256 * r4) (q2 : r2 = c2 + 256 * r3) (q1 : r1 = c1 + 256 * r2)
    (e4 : x4 = (c0 + 256 * r1) + (c0 + 256 * r1) / 256) (e5 : x5 = x4 + x4 / 65536) (e6 : x6 = x5 + x5 / 4294967296) :
    x4 < 9223372036854775808 ∧ x5 < 9223372036854775808 ∧ x6 < 9223372036854775808 ∧ x6 % 128 = c0 + (c1 + (c2 + (c3 + (c4 + (c5 + (c6 + c7)))))) := by
  rw [div1 c0 r1 _ (Nat.lt_of_le_of_lt h0 (by decide)) rfl, fold1 c0 c1 c2 r1 r2 r3 q1 q2] at e4
  rw [div2 _ (r2 + r3) x4 (bnd2 c0 c1 c2 h0 h1 h2) e4] at e5
  have g2 := fold2 c2 c3 c4 r2 r3 r4 r5 q2 q3 q4
  have g4 := fold2 c4 c5 c6 r4 r5 r6 c7 q4 q5 q6
  rw [e4, fold3 _ _ _ _ _ _ 0 g2 g4] at e5
  obtain ⟨hw, hw2⟩ := hwL c6 c7 r6 h6 h7 q6
  have hv2 : r4 + r5 ≤ 140000000 := hvL c4 c5 c6 _ _ h4 h5 h6 hw2 g4
  have hA := bndA c0 c1 c2 c3 c4 c5 c6 h0 h1 h2 h3 h4 h5 h6
  rw [div3 _ (r4 + r5 + (r6 + c7)) x5 (Nat.lt_of_le_of_lt hA (by decide)) e5] at e6
  have hs : c0 + (c1 + (c2 + (c3 + (c4 + (c5 + (c6 + c7)))))) < 128 := hsL _ _ _ _ _ _ _ _ h0 h1 h2 h3 h4 h5 h6 h7
  have hA4 := fold4 c0 c1 c2 c3 c4 c5 c6 c7 _ (((c2 + c3) + 256 * (c3 + c4)) + ((c4 + c5) + 256 * (c5 + c6))) hs rfl
  have h5' := fold5 c0 c1 c2 c3 c4 c5 c6 c7 (r6 + c7) hw hs _ (r4 + r5) hA4 g4
  have hb := bnd5 _ _ _ hA hv2 hw2
  rw [← e5, ← e6] at hb
  rw [← e5, ← e6] at h5'
  have l1 : x5 ≤ x6 := by rw [e6]; exact Nat.le_add_right _ _
  have l2 : x4 ≤ x5 := by
    rw [e5, ← fold3 _ _ _ _ _ _ 0 g2 g4, ← e4]; exact Nat.le_add_right _ _
  exact ⟨Nat.lt_of_le_of_lt (Nat.le_trans l2 l1) hb, Nat.lt_of_le_of_lt l1 hb, hb, h5'⟩
theorem pc_le (x : Nat) : pc (x % 256) ≤ 8 := (key4 (x % 256) (Nat.mod_lt _ (by decide))).2.2.2.1
theorem last_sum (m x4 x5 x6 : Nat) (e4 : x4 = comb pc 8 m + comb pc 8 m / 256) (e5 : x5 = x4 + x4 / 65536) (e6 : x6 = x5 + x5 / 4294967296) :
    x4 < 9223372036854775808 ∧ x5 < 9223372036854775808 ∧ x6 < 9223372036854775808 ∧ x6 % 128 = sumB 8 m := by
  have hs : sumB 8 m = pc (m % 256) + (pc (m / 256 % 256) + (pc (m / 256 / 256 % 256) + (pc (m / 256 / 256 / 256 % 256) + (pc (m / 256 / 256 / 256 / 256 % 256) + (pc (m / 256 / 256 / 256 / 256 / 256 % 256) + (pc (m / 256 / 256 / 256 / 256 / 256 / 256 % 256) + pc (m / 256 / 256 / 256 / 256 / 256 / 256 / 256 % 256))))))) := rfl
  rw [hs]
  rw [comb_succ pc 7] at e4
  exact fold_all _ _ _ _ _ _ _ _ (comb pc 7 (m / 256)) (comb pc 6 (m / 256 / 256)) (comb pc 5 (m / 256 / 256 / 256)) (comb pc 4 (m / 256 / 256 / 256 / 256)) (comb pc 3 (m / 256 / 256 / 256 / 256 / 256)) (comb pc 2 (m / 256 / 256 / 256 / 256 / 256 / 256)) x4 x5 x6
    (pc_le _) (pc_le _) (pc_le _) (pc_le _) (pc_le _) (pc_le _) (pc_le _) (pc_le _) rfl rfl rfl rfl rfl rfl e4 e5 e6
theorem wrapN (x : Nat) (h : x < 18446744073709551616) : IntKind.u64.wrap ((x : Nat) : Int) = (x : Int) := by rw [IntKind.wrap_u64]; omega
theorem wrapA (x y : Nat) (h : x + y < 18446744073709551616) : IntKind.u64.wrap ((x : Int) + (y : Int)) = ((x + y : Nat) : Int) := by rw [IntKind.wrap_u64]; omega
theorem divN (x d : Nat) : (x : Int) / (d : Int) = ((x / d : Nat) : Int) := (Int.natCast_ediv x d).symm
theorem rep1_8 : rep 1 8 = 72340172838076673 := by decide
set_option maxHeartbeats 800000 in
theorem ones_any (m : Nat) (w : World) (hm : m < 18446744073709551616) : Calls Tryd.prog 64 #[.int .u64 m] w fun e w' => e = .returned (.int .i64 (numsP m.testBit 64).length) ∧ w = w' := by
  have b1 : comb s1 8 m ≤ 12297829382473034410 := by
    have := comb_le s1 170 (fun a h => (key4 a h).1) 8 m
    rw [rep1_8] at this
    exact this
  have b2 : comb s12 8 m ≤ 4919131752989213764 := by
    have := comb_le s12 68 (fun a h => (key4 a h).2.1) 8 m
    rw [rep1_8] at this
    exact this
  have e1 := step1 8 m
  have e2 : (comb s1 8 m / 4 &&& rep 51 8) + (comb s1 8 m &&& rep 51 8) = comb s12 8 m := by
    rw [step2 8, comb_comb s1 s2 (fun a h => by have := (key4 a h).1; omega)]
    rfl
  have e3 := step3 8 m
  obtain ⟨l4, l5, l6, hmod⟩ := last_sum m _ _ _ rfl rfl rfl
  have hc : (numsP m.testBit 64).length = sumB 8 m := count_bytes 8 m
  rw [← hc] at hmod
  generalize comb pc 8 m = x3 at e3 l4 l5 l6 hmod
  have k1 : IntKind.u64.wrap (bits BinOp.and IntKind.u64 ((m : Int) / 2) 6148914691236517205 + bits BinOp.and IntKind.u64 (m : Int) 6148914691236517205) = ((comb s1 8 m : Nat) : Int) := by
    rw [show (6148914691236517205 : Int) = ((rep 85 8 : Nat) : Int) from by decide, show (m : Int) / 2 = ((m / 2 : Nat) : Int) from divN m 2, u64_and_nat _ _ (by omega) (by decide), u64_and_nat _ _ hm (by decide), wrapA _ _ (by rw [e1]; omega), e1]
  generalize comb s1 8 m = x1 at e2 b1 k1
  have k2 : IntKind.u64.wrap (bits BinOp.and IntKind.u64 ((x1 : Int) / 4) 3689348814741910323 + bits BinOp.and IntKind.u64 (x1 : Int) 3689348814741910323) = ((comb s12 8 m : Nat) : Int) := by
    rw [show (3689348814741910323 : Int) = ((rep 51 8 : Nat) : Int) from by decide, show (x1 : Int) / 4 = ((x1 / 4 : Nat) : Int) from divN x1 4, u64_and_nat _ _ (by omega) (by decide), u64_and_nat _ _ (by omega) (by decide), wrapA _ _ (by rw [e2]; omega), e2]
  generalize comb s12 8 m = x2 at e3 b2 k2
  have k3 : bits BinOp.and IntKind.u64 (IntKind.u64.wrap ((x2 : Int) / 16 + (x2 : Int))) 1085102592571150095 = (x3 : Int) := by
    rw [show (1085102592571150095 : Int) = ((rep 15 8 : Nat) : Int) from by decide, show (x2 : Int) / 16 = ((x2 / 16 : Nat) : Int) from divN x2 16, wrapA _ _ (by omega), u64_and_nat _ _ (by omega) (by decide), e3]
  obtain ⟨x4, hx4⟩ : ∃ x4, x4 = x3 + x3 / 256 := ⟨_, rfl⟩
  rw [← hx4] at l4 l5 l6 hmod
  obtain ⟨x5, hx5⟩ : ∃ x5, x5 = x4 + x4 / 65536 := ⟨_, rfl⟩
  rw [← hx5] at l5 l6 hmod
  obtain ⟨x6, hx6⟩ : ∃ x6, x6 = x5 + x5 / 4294967296 := ⟨_, rfl⟩
  rw [← hx6] at l6 hmod
  have k4 : IntKind.u64.wrap ((x3 : Int) + (x3 : Int) / 256) = (x4 : Int) := by
    rw [show (x3 : Int) / 256 = ((x3 / 256 : Nat) : Int) from divN x3 256, wrapA _ _ (by rw [← hx4]; exact Nat.lt_trans l4 (by decide)), ← hx4]
  have k5 : IntKind.u64.wrap ((x4 : Int) + (x4 : Int) / 65536) = (x5 : Int) := by
    rw [show (x4 : Int) / 65536 = ((x4 / 65536 : Nat) : Int) from divN x4 65536, wrapA _ _ (by rw [← hx5]; exact Nat.lt_trans l5 (by decide)), ← hx5]
  have k6 : IntKind.u64.wrap ((x5 : Int) + (x5 : Int) / 4294967296) = (x6 : Int) := by
    rw [show (x5 : Int) / 4294967296 = ((x5 / 4294967296 : Nat) : Int) from divN x5 4294967296, wrapA _ _ (by rw [← hx6]; exact Nat.lt_trans l6 (by decide)), ← hx6]
  clear hx4 hx5 hx6 l4 l5
  have k7 : IntKind.i64.wrap (x6 : Int) = (x6 : Int) := IntWalk.i64_in _ ⟨by omega, by omega⟩
  have k8 : bits BinOp.and IntKind.i64 (x6 : Int) 127 = ((numsP m.testBit 64).length : Int) := by rw [i64_and127, ← hmod]; rfl
  clear e1 e2 e3 b1 b2 hmod hc l6
  go_enter Tryd.func64, Tryd.ntmps64
  go_wp2
  go_ret
  exact ⟨rfl, rfl⟩
theorem mlen_any (m : Nat) (w : World) (hm : m < 18446744073709551616) : Calls Tryd.prog 41 #[.int .u64 m] w fun e w' => e = .returned (.int .i64 (numsP m.testBit 64).length) ∧ w = w' := by
  have k := ones_any m w hm
  go_enter Tryd.func41, Tryd.ntmps41
  go_wp2_with fail
  refine k.mono ?_
  rintro e w' ⟨rfl, rfl⟩
  go_wp2
  go_ret
  exact ⟨rfl, rfl⟩
end Go.Proofs.YtjpdfbljhbgbcaaDoor
