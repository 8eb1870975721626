/- Contract of the function inside moment.Read: the number of a part of the text (layer 8). -/
import Derived.Test.YtknomegdfaicnaaReadNum
import Derived.Lib.ConvBytes
namespace Go.Proofs.Ytknomegdfaicnaa
open Go.RowKit Civ
set_option linter.unusedVariables false

theorem num_stepD (l : List UInt8) (k : Nat) (h : k < l.length) : numL (l.take (k + 1)) = 10 * numL (l.take k) + (((l[k]?.getD 0).toNat : Int) - 48) := by
  rw [List.take_succ_eq_append_getElem h, numL_snoc]
  simp only [List.getElem?_eq_getElem h, Option.getD_some]
theorem digs_getD {l : List UInt8} (h : Digits l) (k : Nat) (hk : k < l.length) : 48 ≤ (l[k]?.getD 0).toNat ∧ (l[k]?.getD 0).toNat ≤ 57 := by
  simp only [List.getElem?_eq_getElem hk, Option.getD_some]
  exact h _ (List.getElem_mem hk)
set_option maxHeartbeats 400000 in
theorem part_any (a b : Nat) (SB : Nat) (s : ByteArray) (w : World) (hS : w.cell? ⟨SB, 0, none⟩ = some (.string s)) (hab : a ≤ b) (hb : b ≤ s.size) (hs : s.size ≤ 1000) (h4 : b ≤ a + 4) (hd : Digits (s.extract a b).data.toList) :
    Calls Try.prog 52 #[.int .i64 a, .int .i64 b, .pointer (some ⟨SB, 0, none⟩)] w fun e w' => e = .returned (.int .i64 (partI s.data.toList a b)) ∧ Below w.heap.size w w' := by
  have hcv := Lib.run_convert_string_bytes (P := Try.prog) w 9 63 5 (s.extract a b) (u := .string) (by kernel_rfl) (by kernel_rfl) (by kernel_rfl)
  have hl : (s.extract a b).data.toList.length = b - a := by rw [size_list, sub_size s a b hab hb]
  have hcell : ∀ k, k < b - a → (Lib.bytesWorld w 5 (s.extract a b)).cell? ⟨w.heap.size, k, none⟩ = some (.int .u8 ((s.extract a b).data.toList.getD k 0).toNat) := fun k hk => Lib.bytesWorld_cell w 5 (s.extract a b) k (by rw [← size_list, hl]; exact hk)
  have hbe := Lib.bytesWorld_below w 5 (s.extract a b)
  have hp := part_sub s a b
  generalize hL : (s.extract a b).data.toList = L at hd hl hcell hp
  clear hL
  have hcp : ∃ cp, cp = grownCap w (s.extract a b).size 0 5 := ⟨_, rfl⟩
  obtain ⟨cp, ecp⟩ := hcp
  rw [← ecp] at hcv
  clear ecp
  obtain ⟨W2, hW2⟩ : ∃ W2, W2 = Lib.bytesWorld w 5 (s.extract a b) := ⟨_, rfl⟩
  rw [← hW2] at hcv hcell hbe
  clear hW2
  have HD := Lib.hid hd
  have HL := Lib.hid hl
  have HC := Lib.hid hcell
  have HP := Lib.hid hp
  clear hd hl hcell hp
  go_enter Try.func52, Try.ntmps52
  go_wp2
  go_loop [6, 15] (fun n i => ∃ k : Nat, k ≤ b - a ∧ i = .int .i64 k ∧ n = .int .i64 (numL (L.take k))) (fun _ i => b - a - (intOf i).toNat)
  case atStart => exact ⟨0, Nat.zero_le _, rfl, rfl⟩
  case round =>
    obtain ⟨k, hk, rfl, rfl⟩ := hrel
    have hbd := num_bd _ (digs_take HD.out k) (by rw [List.length_take, HL.out]; omega)
    obtain ⟨b0, b1⟩ := hbd
    by_cases hlt : k < b - a
    · have HS := Lib.hid (num_stepD L k (by rw [HL.out]; exact hlt))
      obtain ⟨c1, c2⟩ := digs_getD HD.out k (by rw [HL.out]; exact hlt)
      have hc := HC.out k hlt
      go_wp2
      go_round
      case rel => exact ⟨k + 1, by omega, by go_num, by rw [HS.out]⟩
      case measure => simp [intOf]; omega
    · obtain rfl : k = b - a := by omega
      have HS := Lib.hid (show numL (L.take (b - a)) = partI s.data.toList a b by rw [← HP.out, List.take_of_length_le (by rw [HL.out]; omega)])
      go_wp2
      go_ret
      exact ⟨ret_i64 HS.out, hbe⟩
end Go.Proofs.Ytknomegdfaicnaa
