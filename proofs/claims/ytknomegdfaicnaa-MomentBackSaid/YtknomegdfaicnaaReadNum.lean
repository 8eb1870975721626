/- Contracts of the document's number, and of the function inside moment.Read (layer 8). -/
import Derived.Test.YtknomegdfaicnaaReadForm
import Derived.Lib.Strings
namespace Go.Proofs.Ytknomegdfaicnaa
open Go.RowKit Civ

theorem part_sub (s : ByteArray) (a b : Nat) : numL (s.extract a b).data.toList = partI s.data.toList a b := by
  rw [Lib.extract_data]; rfl
theorem sub_size (s : ByteArray) (a b : Nat) (h1 : a ≤ b) (h2 : b ≤ s.size) : (s.extract a b).size = b - a := by
  rw [← size_list, Lib.extract_data, List.length_take, List.length_drop, size_list]; omega
theorem digs_sub (s : ByteArray) (hs : scan s.data.toList 0 15 = (15, 0)) (a b : Nat) (h : b ≤ 8 ∨ 9 ≤ a) (hb : b ≤ 15) : Digits (s.extract a b).data.toList := by
  intro c hc
  rw [Lib.extract_data] at hc
  obtain ⟨i, hi, rfl⟩ := List.getElem_of_mem hc
  rw [List.length_take, List.length_drop] at hi
  obtain ⟨h1, h2⟩ := scan_fits _ 15 0 rfl hs (a + i) (Nat.zero_le _) (by omega)
  have h3 := (fit_dig (by omega)).1 h2
  rw [List.getElem_take, List.getElem_drop]
  simp only [List.getD, List.getElem?_eq_getElem h1, Option.getD_some] at h3
  exact h3
theorem num_bd (l : List UInt8) (h : Digits l) (hl : l.length ≤ 4) : 0 ≤ numL l ∧ numL l ≤ 9999 := by
  have h1 := numL_bd l 0 0 (by omega) (by omega) h
  refine ⟨h1.1, Int.le_trans h1.2 ?_⟩
  have : l.length = 0 ∨ l.length = 1 ∨ l.length = 2 ∨ l.length = 3 ∨ l.length = 4 := by omega
  rcases this with e | e | e | e | e <;> rw [e] <;> decide
theorem take_byte (s : ByteArray) (k : Nat) (h : k < s.size) : s.data.toList.take (k + 1) = s.data.toList.take k ++ [s[k]'h] := by
  rw [List.take_succ_eq_append_getElem (by rw [size_list]; exact h)]; rfl
theorem num_step (s : ByteArray) (k : Nat) (h : k < s.size) : numL (s.data.toList.take (k + 1)) = 10 * numL (s.data.toList.take k) + (((s[k]'h).toNat : Int) - 48) := by
  rw [take_byte s k h, numL_snoc]
theorem digs_take {l : List UInt8} (h : Digits l) (k : Nat) : Digits (l.take k) := fun c hc => h c (List.mem_of_mem_take hc)
theorem num_all (s : ByteArray) : numL (s.data.toList.take s.size) = numL s.data.toList := by rw [List.take_of_length_le (by rw [size_list]; omega)]
theorem number_any (s : ByteArray) (w : World) (hd : Digits s.data.toList) (hs : s.size ≤ 4) : Calls Try.prog 54 #[.string s] w fun e w' => e = .returned (.int .i64 (numL s.data.toList)) ∧ w = w' := by
  go_enter Try.func54, Try.ntmps54
  go_wp2
  go_loop [3, 4] (fun n i => ∃ k : Nat, k ≤ s.size ∧ i = .int .i64 k ∧ n = .int .i64 (numL (s.data.toList.take k))) (fun _ i => s.size - (intOf i).toNat)
  case atStart => exact ⟨0, Nat.zero_le _, rfl, rfl⟩
  case round =>
    obtain ⟨k, hk, rfl, rfl⟩ := hrel
    have hb := num_bd _ (digs_take hd k) (by rw [List.length_take]; omega)
    by_cases hlt : k < s.size
    · have HS := Lib.hid (num_step s k hlt)
      have h1 := (s[k]'hlt).toNat_lt
      obtain ⟨b0, b1⟩ := hb
      go_wp2
      go_round
      case rel => exact ⟨k + 1, by omega, by go_num, by rw [HS.out]; congr 1; omega⟩
      case measure => simp [intOf]; omega
    · obtain rfl : k = s.size := by omega
      have HS := Lib.hid (num_all s)
      go_wp2
      go_ret
      exact ⟨ret_i64 HS.out, rfl⟩
end Go.Proofs.Ytknomegdfaicnaa
