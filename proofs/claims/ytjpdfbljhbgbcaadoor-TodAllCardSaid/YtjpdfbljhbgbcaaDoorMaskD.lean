/- Contracts of the document's List and Span (layer 2). -/
import Derived.Test.YtjpdfbljhbgbcaaDoorMaskC
import Derived.Test.YtjpdfbljhbgbcaaDoorOwn
namespace Go.Proofs.YtjpdfbljhbgbcaaDoor
open Go.RowKit
set_option linter.unusedVariables false

def ListAt (m : Nat) (w : World) (v i : Value) (wr : World) : Prop := ∃ k : Nat, k ≤ 64 ∧ i = .int .i64 k ∧ OwnI wr w.heap.size v (numsP m.testBit k) ∧ Below w.heap.size w wr
set_option maxHeartbeats 800000 in
set_option maxRecDepth 20000 in
theorem rlist_any (m : Nat) (w : World) (hm : m < 18446744073709551616) : Calls Tryd.prog 32 #[.int .u64 m] w (Gives (numsP m.testBit 64) w) := by
  obtain ⟨i0, hi, hz0, hz1, hz2⟩ := info_parts info_int
  have HAS := Lib.hid (fun (n : Nat) (wr : World) => rhas_any m n wr hm)
  clear hm
  go_enter Tryd.func32, Tryd.ntmps32
  go_wp2
  go_loopw [3, 4] (fun v i wr => ListAt m w v i wr) (fun _ i _ => 64 - (intOf i).toNat)
  case atStart => exact ⟨0, by omega, rfl, OwnI.nil _ _, Below.refl _ _⟩
  case round =>
    obtain ⟨k, hk, rfl, hown, hb⟩ := hrel
    have HB := Lib.hid hb
    have HO := Lib.hid hown
    clear hb hown
    by_cases hlt : k < 64
    · have hn := numsP_le m.testBit k
      have kk := HAS.out k wr
      rw [inM_in m k hlt] at kk
      cases hbit : m.testBit k
      · rw [hbit] at kk
        have HS := Lib.hid (numsP_no m.testBit k hbit)
        clear hbit
        go_wp2_with fail
        refine kk.mono ?_
        rintro e w' ⟨rfl, rfl⟩
        go_wp2
        go_roundw
        case rel => exact ⟨k + 1, by omega, by go_num, by rw [HS.out]; exact HO.out, HB.out⟩
        case measure => simp [intOf]; omega
      · rw [hbit] at kk
        have HS := Lib.hid (numsP_yes m.testBit k hbit)
        clear hbit
        go_wp2_with fail
        refine kk.mono ?_
        rintro e w' ⟨rfl, rfl⟩
        go_wp2_with ((at_builtin; refine wpList_append_own _ rfl _ _ 26 rfl w.heap.size 3 i0 (.int .i64 0) 1 8 Tryd.underlying26 hi hz0 hz1 hz2 rfl (by decide) _ _ _ rfl (World.ownsRow.alloc HO.out _) ⟨wr.heap.size, 0, none⟩ 1 1 [.int .i64 (k : Int)] rfl rfl ?c1 ?c2 ?c3 ?c4 ?c5 ?_))
        case c1 =>
          intro j u hj
          cases j with
          | zero => cases hj; exact cell_new _ _ _ 0
          | succ j => cases hj
        case c2 => simp [Value.oneCell']
        case c3 => unfold maxLen; omega
        case c4 => omega
        case c5 => have := HB.out.size; simp; omega
        intro v' w1 hown1 hgrow _
        have HO1 := Lib.hid (OwnI.snoc hown1)
        have HB1 := Lib.hid (Below.grown (HB.out.alloc HB.out.size (.cells #[.int .i64 (k : Int)] 3)) hgrow (by have := HB.out.size; simp; omega) (own_block HO.out))
        clear hown1 hgrow
        go_wp2
        go_roundw
        case rel => exact ⟨k + 1, by omega, by go_num, by rw [HS.out]; exact HO1.out, HB1.out⟩
        case measure => simp [intOf]; omega
    · obtain rfl : k = 64 := by omega
      obtain ⟨A, c, rfl, hin⟩ := HO.out.ints
      have HI := Lib.hid hin
      clear hin hlt
      go_wp2
      go_ret
      exact ⟨A, c, rfl, HI.out, HB.out⟩
end Go.Proofs.YtjpdfbljhbgbcaaDoor
