/- The contract of the document's Small (layer 6). -/
import Derived.Test.YtediadckcpedkaaDoorWnB
namespace Go.Proofs.YtediadckcpedkaaDoor
open Go.RowKit
set_option linter.unusedVariables false

def BytesAt (s : ByteArray) (w : World) (v i : Value) (w' : World) : Prop := ∃ k : Nat, k ≤ s.size ∧ i = .int .i64 k ∧ OwnB w' w.heap.size v (lowL s k) ∧ Below w.heap.size w w'
set_option maxHeartbeats 1600000 in
set_option maxRecDepth 20000 in
theorem rsmall_any (s : ByteArray) (w : World) (hz : s.size ≤ 140737488351232) : Calls Tryd.prog 9 #[.string s] w fun e w' => e = .returned (.string (low s)) ∧ Below w.heap.size w w' := by
  obtain ⟨i0, hi, e⟩ := Option.map_eq_some_iff.1 info_b
  simp only [Prod.mk.injEq] at e
  obtain ⟨hz0, hz1, hz2⟩ := e
  have HZ := Lib.hid hz
  have HL := Lib.hid (low_str s)
  go_enter Tryd.func9, Tryd.ntmps9
  go_wp2
  go_loopw [3, 4] (fun v i wr => BytesAt s w v i wr) (fun _ i _ => s.size - (intOf i).toNat)
  case atStart => exact ⟨0, Nat.zero_le _, rfl, World.ownsRow_nil w _ 5 1, Below.refl _ _⟩
  case round =>
    obtain ⟨k, hk, rfl, hown, hb⟩ := hrel
    have HO := Lib.hid hown
    have HB := Lib.hid hb
    clear hown hb
    by_cases hlt : k < s.size
    · have dk : decide ((k : Int) < (s.size : Int)) = true := dec_t (by omega)
      have ik0 : (0 : Int) ≤ (k : Int) := by omega
      have ik1 : (k : Int) < (s.size : Int) := by omega
      have HS := Lib.hid (lowL_step s k hlt)
      have HN := Lib.hid (lowL_len s k (by omega))
      have hu := ubd (s[k]'hlt)
      obtain ⟨u0, u1⟩ := hu
      by_cases g1 : 65 ≤ ((s[k]'hlt).toNat : Int)
      · by_cases g2 : ((s[k]'hlt).toNat : Int) ≤ 90
        · have HE := Lib.hid (show smI ((s[k]'hlt).toNat : Int) = ((s[k]'hlt).toNat : Int) + 32 from if_pos ⟨g1, g2⟩)
          rw [HE.out] at HS
          go_wp2_with ((at_builtin; refine wpList_append_own _ rfl _ _ 55 rfl w.heap.size 5 i0 (.int .u8 0) 1 1 Tryd.underlying55 hi hz0 hz1 hz2 rfl (by decide) _ _ _ rfl (World.ownsRow.alloc HO.out _) ⟨wr.heap.size, 0, none⟩ 1 1 [.int .u8 (((s[k]'hlt).toNat : Int) + 32)] rfl rfl ?c1 ?c2 ?c3 ?c4 ?c5 ?_))
          case c1 =>
            intro j u hj
            cases j with
            | zero => cases hj; exact cell_new _ _ _ 0
            | succ j => cases hj
          case c2 => simp [Value.oneCell']
          case c3 => rw [HN.out]; unfold maxLen; omega
          case c4 => have := HN.out; omega
          case c5 => have := HB.out.size; simp; omega
          intro v' w1 hown1 hgrow _
          have HO1 := Lib.hid (OwnB.snoc hown1)
          have HB1 := Lib.hid (Below.grown (HB.out.alloc HB.out.size (.cells #[.int .u8 (((s[k]'hlt).toNat : Int) + 32)] 5)) hgrow (by have := HB.out.size; simp; omega) (ownB_block HO.out))
          clear hown1 hgrow
          go_wp2
          go_roundw
          case rel => exact ⟨k + 1, by omega, by go_num, by rw [HS.out]; exact HO1.out, HB1.out⟩
          case measure => simp [intOf]; omega
        · have HE := Lib.hid (show smI ((s[k]'hlt).toNat : Int) = ((s[k]'hlt).toNat : Int) from if_neg (fun h => g2 h.2))
          rw [HE.out] at HS
          go_wp2_with ((at_builtin; refine wpList_append_own _ rfl _ _ 55 rfl w.heap.size 5 i0 (.int .u8 0) 1 1 Tryd.underlying55 hi hz0 hz1 hz2 rfl (by decide) _ _ _ rfl (World.ownsRow.alloc HO.out _) ⟨wr.heap.size, 0, none⟩ 1 1 [.int .u8 ((s[k]'hlt).toNat : Int)] rfl rfl ?d1 ?d2 ?d3 ?d4 ?d5 ?_))
          case d2 => simp [Value.oneCell']
          case d3 => rw [HN.out]; unfold maxLen; omega
          case d4 => have := HN.out; omega
          case d5 => have := HB.out.size; simp; omega
          intro v' w1 hown1 hgrow _
          have HO1 := Lib.hid (OwnB.snoc hown1)
          have HB1 := Lib.hid (Below.grown (HB.out.alloc HB.out.size (.cells #[.int .u8 ((s[k]'hlt).toNat : Int)] 5)) hgrow (by have := HB.out.size; simp; omega) (ownB_block HO.out))
          clear hown1 hgrow
          go_wp2
          go_roundw
          case rel => exact ⟨k + 1, by omega, by go_num, by rw [HS.out]; exact HO1.out, HB1.out⟩
          case measure => simp [intOf]; omega
      · have HE := Lib.hid (show smI ((s[k]'hlt).toNat : Int) = ((s[k]'hlt).toNat : Int) from if_neg (fun h => g1 h.1))
        rw [HE.out] at HS
        go_wp2_with ((at_builtin; refine wpList_append_own _ rfl _ _ 55 rfl w.heap.size 5 i0 (.int .u8 0) 1 1 Tryd.underlying55 hi hz0 hz1 hz2 rfl (by decide) _ _ _ rfl (World.ownsRow.alloc HO.out _) ⟨wr.heap.size, 0, none⟩ 1 1 [.int .u8 ((s[k]'hlt).toNat : Int)] rfl rfl ?e1 ?e2 ?e3 ?e4 ?e5 ?_))
        case e2 => simp [Value.oneCell']
        case e3 => rw [HN.out]; unfold maxLen; omega
        case e4 => have := HN.out; omega
        case e5 => have := HB.out.size; simp; omega
        intro v' w1 hown1 hgrow _
        have HO1 := Lib.hid (OwnB.snoc hown1)
        have HB1 := Lib.hid (Below.grown (HB.out.alloc HB.out.size (.cells #[.int .u8 ((s[k]'hlt).toNat : Int)] 5)) hgrow (by have := HB.out.size; simp; omega) (ownB_block HO.out))
        clear hown1 hgrow
        go_wp2
        go_roundw
        case rel => exact ⟨k + 1, by omega, by go_num, by rw [HS.out]; exact HO1.out, HB1.out⟩
        case measure => simp [intOf]; omega
    · obtain rfl : k = s.size := by omega
      have dk : decide ((s.size : Int) < (s.size : Int)) = false := dec_n (by omega)
      have hcv := OwnB.conv HO.out
      rw [HL.out] at hcv
      go_wp2
      go_ret
      exact ⟨rfl, HB.out⟩
end Go.Proofs.YtediadckcpedkaaDoor
