/- Contracts of the document's answers for stamps and texts of instants (layer 8). -/
import Derived.Test.YtjhaekbehnkecaaStampOf
import Derived.Test.YtjhaekbehnkecaaDigs
import Derived.BigQuiet
namespace Go.Proofs.Ytjhaekbehnkecaa
open Go.RowKit Civ

theorem rstamp_yes (t y m d hh hm hs : Int) (w : World) (h1 : 0 ≤ t) (h2 : t < 12622780800) (hd : IsDate (t / 86400) y m d) (hy : 0 ≤ y) (hy2 : y ≤ 9999)
    (eh : t % 86400 / 3600 = hh) (em : t % 3600 / 60 = hm) (es : t % 60 = hs) :
    Calls Try.prog 16 #[.int .i64 t] w fun e w' => e = .returned (stampS y m d hh hm hs) ∧ Below w.heap.size w w' := by
  unfold stampS
  have k1 := fun w => rdate_near (t / 86400) y m d w hd (by omega) (by omega)
  rw [dateV_yes (by omega) (by omega)] at k1
  clear hd
  go_enter Try.func16, Try.ntmps16
  go_wp2_with fail
  refine (k1 _).mono ?_
  rintro e w1 ⟨rfl, rfl⟩
  go_wp2
  refine bodyPost_ret (v := stampS y m d hh hm hs) (by simp [results, Try.results16, go_sem, stampS]) rfl ⟨rfl, below_a1 _ _⟩
theorem rof_yes (y m d hh hm hs : Int) (w : World) (i : IsStamp y m d hh hm hs) :
    Calls Try.prog 20 #[stampS y m d hh hm hs] w fun e w' => e = .returned (.int .i64 (86400 * dayI y m d + secI hh hm hs)) ∧ Below w.heap.size w w' := by
  obtain ⟨h1, h2, i1, i2⟩ := i
  have dw := day_win h1 h2 i1
  have k1 := fun w => rmay_yes y m d w i1
  have k2 := fun w => rnumber_any y m d w i1
  rw [show startI y + cum y m + d - 1 = dayI y m d from rfl] at k2
  obtain ⟨s1, s2, s3, s4, s5, s6⟩ := i2
  unfold stampS secI
  obtain ⟨n, hn⟩ : ∃ n, n = dayI y m d := ⟨_, rfl⟩
  rw [← hn] at k2 dw ⊢
  clear hn i1
  have n1 := dec_f (show ¬ y < 1970 by omega)
  have n2 := dec_f (show ¬ 2369 < y by omega)
  have n3 := dec_f (show ¬ hh < 0 by omega)
  have n4 := dec_f (show ¬ 23 < hh by omega)
  have n5 := dec_f (show ¬ hm < 0 by omega)
  have n6 := dec_f (show ¬ 59 < hm by omega)
  have n7 := dec_f (show ¬ hs < 0 by omega)
  have n8 := dec_f (show ¬ 59 < hs by omega)
  go_enter Try.func20, Try.ntmps20
  go_wp2_with fail
  refine (k1 _).mono ?_
  rintro e w1 ⟨rfl, rfl⟩
  go_wp2_with fail
  go_quiet ((go_at_call 47; exact Calls.quiet_of_same ((k2 _).mono fun _ _ ⟨h, h'⟩ => ⟨h, h'.symm⟩)))
  go_wp2
  go_ret
  exact ⟨rfl, (below_a1 w _).trans ⟨rfl, rfl, rfl, Nat.le_refl _, fun _ _ => rfl⟩⟩
theorem rof_no (y m d hh hm hs : Int) (w : World) (i : ¬ IsStamp y m d hh hm hs) :
    Calls Try.prog 20 #[stampS y m d hh hm hs] w fun e w' => e = .returned (.int .i64 (-1)) ∧ Below w.heap.size w w' := by
  unfold stampS
  by_cases c1 : y < 1970
  · clear i
    go_enter Try.func20, Try.ntmps20
    go_wp2
    go_ret
    exact ⟨rfl, below_a1 _ _⟩
  have n1 := dec_f c1
  by_cases c2 : 2369 < y
  · clear i c1
    go_enter Try.func20, Try.ntmps20
    go_wp2
    go_ret
    exact ⟨rfl, below_a1 _ _⟩
  have n2 := dec_f c2
  by_cases c3 : Is y m d
  case neg =>
    have k1 := fun w => rmay_no y m d w c3
    clear i c1 c2 c3
    go_enter Try.func20, Try.ntmps20
    go_wp2_with fail
    refine (k1 _).mono ?_
    rintro e w1 ⟨rfl, rfl⟩
    go_wp2
    go_ret
    exact ⟨rfl, below_a1 _ _⟩
  have k1 := fun w => rmay_yes y m d w c3
  by_cases c4 : hh < 0
  · clear i c1 c2 c3
    go_enter Try.func20, Try.ntmps20
    go_wp2_with fail
    refine (k1 _).mono ?_
    rintro e w1 ⟨rfl, rfl⟩
    go_wp2
    go_ret
    exact ⟨rfl, below_a1 _ _⟩
  have n3 := dec_f c4
  by_cases c5 : 23 < hh
  · clear i c1 c2 c3 c4
    go_enter Try.func20, Try.ntmps20
    go_wp2_with fail
    refine (k1 _).mono ?_
    rintro e w1 ⟨rfl, rfl⟩
    go_wp2
    go_ret
    exact ⟨rfl, below_a1 _ _⟩
  have n4 := dec_f c5
  by_cases c6 : hm < 0
  · clear i c1 c2 c3 c4 c5
    go_enter Try.func20, Try.ntmps20
    go_wp2_with fail
    refine (k1 _).mono ?_
    rintro e w1 ⟨rfl, rfl⟩
    go_wp2
    go_ret
    exact ⟨rfl, below_a1 _ _⟩
  have n5 := dec_f c6
  by_cases c7 : 59 < hm
  · clear i c1 c2 c3 c4 c5 c6
    go_enter Try.func20, Try.ntmps20
    go_wp2_with fail
    refine (k1 _).mono ?_
    rintro e w1 ⟨rfl, rfl⟩
    go_wp2
    go_ret
    exact ⟨rfl, below_a1 _ _⟩
  have n6 := dec_f c7
  by_cases c8 : hs < 0
  · clear i c1 c2 c3 c4 c5 c6 c7
    go_enter Try.func20, Try.ntmps20
    go_wp2_with fail
    refine (k1 _).mono ?_
    rintro e w1 ⟨rfl, rfl⟩
    go_wp2
    go_ret
    exact ⟨rfl, below_a1 _ _⟩
  have n7 := dec_f c8
  by_cases c9 : 59 < hs
  · clear i c1 c2 c3 c4 c5 c6 c7 c8
    go_enter Try.func20, Try.ntmps20
    go_wp2_with fail
    refine (k1 _).mono ?_
    rintro e w1 ⟨rfl, rfl⟩
    go_wp2
    go_ret
    exact ⟨rfl, below_a1 _ _⟩
  have n8 := dec_f c9
  exact absurd ⟨by omega, by omega, c3, by omega, by omega, by omega, by omega, by omega, by omega⟩ i
theorem digits_any (k : Nat) (n : Int) (w : World) (hk : k ≤ 9) (h1 : 0 ≤ n) (h2 : n ≤ 9999) :
    Calls Try.prog 43 #[.int .i64 n, .int .i64 k] w fun e w' => e = .returned (.string (bytesOf' (digs k n))) ∧ Below w.heap.size w w' := by
  go_enter Try.func43, Try.ntmps43
  go_wp2
  go_loopw [0, 5, 6] (fun n' s' i wr => ∃ (j : Nat) (m : Int) (l : List UInt8), j ≤ k ∧ n' = .int .i64 m ∧ s' = .string (bytesOf' l) ∧ i = .int .i64 j ∧ 0 ≤ m ∧ m ≤ 9999 ∧ Below w.heap.size w wr ∧ l.length = j ∧ Hid (digs (k - j) m ++ l = digs k n)) (fun _ _ i _ => k - (intOf i).toNat)
  case atStart => exact ⟨0, n, [], Nat.zero_le _, rfl, rfl, rfl, h1, h2, Below.refl _ _, rfl, Lib.hid (by simp)⟩
  case round =>
    obtain ⟨j, m, l, hj, rfl, rfl, rfl, hm1, hm2, hb, hl, HP⟩ := hrel
    by_cases hlt : j < k
    · have HQ := Lib.hid (show digs (k - (j + 1)) (m / 10) ++ (dg (m % 10) :: l) = digs k n by
        rw [← HP.out, show k - j = k - (j + 1) + 1 by omega]
        conv => rhs; unfold digs
        simp)
      clear HP
      have hcell : ∀ i, i < 1 → (wr.alloc (.cells #[.int .u8 (48 + m % 10)] 5)).cell? ⟨wr.heap.size, 0 + i, none⟩ = some (.int .u8 ([48 + m % 10].getD i 0)) := by
        intro i hi
        obtain rfl : i = 0 := by omega
        exact cell_of_row _ _ 0 _ _ _ (heap_alloc_new wr _)
      have hcv := run_convert_bytes_arg (P := Try.prog) (wr.alloc (.cells #[.int .u8 (48 + m % 10)] 5)) 76 5 (by kernel_rfl) (by kernel_rfl) wr.heap.size 0 1 1 [48 + m % 10] rfl hcell 9 (by kernel_rfl)
      rw [one_digit] at hcv
      have hap : bytesOf' [dg (m % 10)] ++ bytesOf' l = bytesOf' (dg (m % 10) :: l) := bytesOf_append _ _
      have hs1 : (bytesOf' [dg (m % 10)]).size = 1 := bytesOf_size _
      have hs2 : (bytesOf' l).size = j := by rw [bytesOf_size]; exact hl
      clear hcell
      go_wp2
      go_roundw
      case rel => exact ⟨j + 1, m / 10, dg (m % 10) :: l, by omega, rfl, rfl, by go_num, by omega, by omega, hb.alloc hb.size _, by simp [hl], HQ⟩
      case measure => simp [intOf]; omega
    · have hjk : j = k := by omega
      subst hjk
      have hn : ¬ ((j : Int) < (j : Int)) := by omega
      have HQ := Lib.hid (show l = digs j n by have := HP.out; rwa [Nat.sub_self, show digs 0 m = [] from rfl, List.nil_append] at this)
      clear HP hn
      go_wp2
      go_ret
      exact ⟨by rw [HQ.out]; rfl, hb⟩
end Go.Proofs.Ytjhaekbehnkecaa
