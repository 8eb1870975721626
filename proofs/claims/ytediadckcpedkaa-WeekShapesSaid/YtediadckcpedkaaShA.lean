/- The contract of the function that week.follow makes (layer 6). -/
import Derived.Test.YtediadckcpedkaaWeek
import Derived.Test.YtediadckcpedkaaBut
namespace Go.Proofs.Ytediadckcpedkaa
open Go.RowKit Civ
set_option linter.unusedVariables false

set_option maxHeartbeats 1600000 in
set_option maxRecDepth 20000 in
theorem follow_a (gA gL : Nat) (n y m d bk wk j1 j2 j3 j4 a L u1 u2 u3 u4 : Int) (w : World)
    (hA : w.heap[gA]? = some (.cells #[.int .i64 a] 3 (0, 0))) (hL : w.heap[gL]? = some (.cells #[.int .i64 L] 3 (0, 0))) (hne : gA ≠ gL)
    (hn : 0 ≤ n ∧ n < 1000000) (hy : 0 ≤ y ∧ y < 1000000) (hm : 1 ≤ m ∧ m ≤ 12) (hd : 1 ≤ d ∧ d ≤ 31) (hwk : 1 ≤ wk ∧ wk ≤ 7) (ha : 0 ≤ a ∧ a ≤ 400) (hbk : 2 ≤ bk ∧ bk ≤ 31)
    
    (KW1 : ∀ w, Calls Try.prog 13 #[.int .i64 (d + 1), .int .i64 (d + 1 + (bk - 1) - 1)] w fun e w' => e = .returned (.tuple #[.int .i64 u1, .int .i64 u2]) ∧ w = w')
    (KW2 : ∀ w, Calls Try.prog 13 #[.int .i64 (a + 1), .int .i64 L] w fun e w' => e = .returned (.tuple #[.int .i64 u3, .int .i64 u4]) ∧ w = w') :
    Calls Try.prog 33 #[.agg #[.int .i64 n, .int .i64 y, .int .i64 m, .int .i64 d, .int .i64 bk, .int .i64 wk, .int .i64 j1, .int .i64 j2, .int .i64 j3, .int .i64 j4], .pointer (some ⟨gA, 0, none⟩), .pointer (some ⟨gL, 0, none⟩)] w fun e w' =>
      e = .returned (.agg #[.int .i64 (n + 1), .int .i64 (y), .int .i64 (m), .int .i64 (d + 1), .int .i64 (bk - 1), .int .i64 (wk % 7 + 1), .int .i64 u1, .int .i64 u2, .int .i64 u3, .int .i64 u4]) ∧
      w'.heap[gA]? = some (.cells #[.int .i64 (a + 1)] 3 (0, 0)) ∧ w'.heap[gL]? = some (.cells #[.int .i64 L] 3 (0, 0)) ∧ But (fun k => k = gA) w w' := by
  obtain ⟨hn1, hn2⟩ := hn
  obtain ⟨hy1, hy2⟩ := hy
  obtain ⟨hm1, hm2⟩ := hm
  obtain ⟨hd1, hd2⟩ := hd
  obtain ⟨hw1, hw2⟩ := hwk
  obtain ⟨ha1, ha2⟩ := ha
  have cA : w.cell? ⟨gA, 0, none⟩ = some (.int .i64 a) := blk_cell hA 0
  have fA : w.frozen? ⟨gA, 0, none⟩ = false := blk_free hA 0
  have cL : w.cell? ⟨gL, 0, none⟩ = some (.int .i64 L) := blk_cell hL 0
  have fL : w.frozen? ⟨gL, 0, none⟩ = false := blk_free hL 0
  have lA := lt_of_block hA
  have lL := lt_of_block hL
  have HA := Lib.hid hA
  have HL := Lib.hid hL
  have e7 : Int.tmod wk 7 = wk % 7 := Int.tmod_eq_emod_of_nonneg (by omega)
  clear hA hL
  go_enter Try.func33, Try.ntmps33
  go_wp2_with fail
  refine (KW1 _).mono ?_
  rintro e w' ⟨rfl, rfl⟩
  go_wp2_with fail
  refine (KW2 _).mono ?_
  rintro e w' ⟨rfl, rfl⟩
  go_wp2
  refine bodyPost_ret (v := .agg #[.int .i64 (n + 1), .int .i64 (y), .int .i64 (m), .int .i64 (d + 1), .int .i64 (bk - 1), .int .i64 (wk % 7 + 1), .int .i64 u1, .int .i64 u2, .int .i64 u3, .int .i64 u4]) (by simp [results, Try.results33, go_sem]) rfl ⟨rfl, ?_, ?_, ?_⟩
  · exact blk_more (blk_more (blk_put HA.out 0 _) _) _
  · exact blk_more (blk_more (blk_else HL.out ⟨gA, 0, none⟩ (Ne.symm hne) _) _) _
  · exact (((But.refl (fun k => k = gA) w).setCell (.inr rfl) _).alloc _).alloc _
set_option maxHeartbeats 1600000 in
set_option maxRecDepth 20000 in
theorem follow_b (gA gL : Nat) (n y m d bk wk j1 j2 j3 j4 a L u1 u2 u3 u4 : Int) (w : World)
    (hA : w.heap[gA]? = some (.cells #[.int .i64 a] 3 (0, 0))) (hL : w.heap[gL]? = some (.cells #[.int .i64 L] 3 (0, 0))) (hne : gA ≠ gL)
    (hn : 0 ≤ n ∧ n < 1000000) (hy : 0 ≤ y ∧ y < 1000000) (hm : 1 ≤ m ∧ m ≤ 12) (hd : 1 ≤ d ∧ d ≤ 31) (hwk : 1 ≤ wk ∧ wk ≤ 7) (ha : 0 ≤ a ∧ a ≤ 400) (hbk : bk = 1) (hm12 : m < 12) (ln : Int) (hln : 28 ≤ ln ∧ ln ≤ 31)
    (KLN : ∀ w, Calls Try.prog 11 #[.int .i64 y, .int .i64 (m + 1)] w fun e w' => e = .returned (.int .i64 ln) ∧ w = w')
    (KW1 : ∀ w, Calls Try.prog 13 #[.int .i64 (1), .int .i64 (1 + ln - 1)] w fun e w' => e = .returned (.tuple #[.int .i64 u1, .int .i64 u2]) ∧ w = w')
    (KW2 : ∀ w, Calls Try.prog 13 #[.int .i64 (a + 1), .int .i64 L] w fun e w' => e = .returned (.tuple #[.int .i64 u3, .int .i64 u4]) ∧ w = w') :
    Calls Try.prog 33 #[.agg #[.int .i64 n, .int .i64 y, .int .i64 m, .int .i64 d, .int .i64 bk, .int .i64 wk, .int .i64 j1, .int .i64 j2, .int .i64 j3, .int .i64 j4], .pointer (some ⟨gA, 0, none⟩), .pointer (some ⟨gL, 0, none⟩)] w fun e w' =>
      e = .returned (.agg #[.int .i64 (n + 1), .int .i64 (y), .int .i64 (m + 1), .int .i64 (1), .int .i64 (ln), .int .i64 (wk % 7 + 1), .int .i64 u1, .int .i64 u2, .int .i64 u3, .int .i64 u4]) ∧
      w'.heap[gA]? = some (.cells #[.int .i64 (a + 1)] 3 (0, 0)) ∧ w'.heap[gL]? = some (.cells #[.int .i64 L] 3 (0, 0)) ∧ But (fun k => k = gA) w w' := by
  obtain ⟨hn1, hn2⟩ := hn
  obtain ⟨hy1, hy2⟩ := hy
  obtain ⟨hm1, hm2⟩ := hm
  obtain ⟨hd1, hd2⟩ := hd
  obtain ⟨hw1, hw2⟩ := hwk
  obtain ⟨ha1, ha2⟩ := ha
  have cA : w.cell? ⟨gA, 0, none⟩ = some (.int .i64 a) := blk_cell hA 0
  have fA : w.frozen? ⟨gA, 0, none⟩ = false := blk_free hA 0
  have cL : w.cell? ⟨gL, 0, none⟩ = some (.int .i64 L) := blk_cell hL 0
  have fL : w.frozen? ⟨gL, 0, none⟩ = false := blk_free hL 0
  have lA := lt_of_block hA
  have lL := lt_of_block hL
  have HA := Lib.hid hA
  have HL := Lib.hid hL
  have e7 : Int.tmod wk 7 = wk % 7 := Int.tmod_eq_emod_of_nonneg (by omega)
  clear hA hL
  go_enter Try.func33, Try.ntmps33
  go_wp2_with fail
  refine (KLN _).mono ?_
  rintro e w' ⟨rfl, rfl⟩
  go_wp2_with fail
  refine (KW1 _).mono ?_
  rintro e w' ⟨rfl, rfl⟩
  go_wp2_with fail
  refine (KW2 _).mono ?_
  rintro e w' ⟨rfl, rfl⟩
  go_wp2
  refine bodyPost_ret (v := .agg #[.int .i64 (n + 1), .int .i64 (y), .int .i64 (m + 1), .int .i64 (1), .int .i64 (ln), .int .i64 (wk % 7 + 1), .int .i64 u1, .int .i64 u2, .int .i64 u3, .int .i64 u4]) (by simp [results, Try.results33, go_sem]) rfl ⟨rfl, ?_, ?_, ?_⟩
  · exact blk_more (blk_more (blk_put HA.out 0 _) _) _
  · exact blk_more (blk_more (blk_else HL.out ⟨gA, 0, none⟩ (Ne.symm hne) _) _) _
  · exact (((But.refl (fun k => k = gA) w).setCell (.inr rfl) _).alloc _).alloc _
set_option maxHeartbeats 1600000 in
set_option maxRecDepth 20000 in
theorem follow_c (gA gL : Nat) (n y m d bk wk j1 j2 j3 j4 a L u1 u2 u3 u4 : Int) (w : World)
    (hA : w.heap[gA]? = some (.cells #[.int .i64 a] 3 (0, 0))) (hL : w.heap[gL]? = some (.cells #[.int .i64 L] 3 (0, 0))) (hne : gA ≠ gL)
    (hn : 0 ≤ n ∧ n < 1000000) (hy : 0 ≤ y ∧ y < 1000000) (hm : 1 ≤ m ∧ m ≤ 12) (hd : 1 ≤ d ∧ d ≤ 31) (hwk : 1 ≤ wk ∧ wk ≤ 7) (ha : 0 ≤ a ∧ a ≤ 400) (hbk : bk = 1) (hm12 : m = 12) (ln L2 : Int) (hln : 28 ≤ ln ∧ ln ≤ 31)
    (KY : ∀ w, Calls Try.prog 14 #[.int .i64 (y + 1)] w fun e w' => e = .returned (.int .i64 L2) ∧ w = w')
    (KLN : ∀ w, Calls Try.prog 11 #[.int .i64 (y + 1), .int .i64 1] w fun e w' => e = .returned (.int .i64 ln) ∧ w = w')
    (KW1 : ∀ w, Calls Try.prog 13 #[.int .i64 (1), .int .i64 (1 + ln - 1)] w fun e w' => e = .returned (.tuple #[.int .i64 u1, .int .i64 u2]) ∧ w = w')
    (KW2 : ∀ w, Calls Try.prog 13 #[.int .i64 (1), .int .i64 L2] w fun e w' => e = .returned (.tuple #[.int .i64 u3, .int .i64 u4]) ∧ w = w') :
    Calls Try.prog 33 #[.agg #[.int .i64 n, .int .i64 y, .int .i64 m, .int .i64 d, .int .i64 bk, .int .i64 wk, .int .i64 j1, .int .i64 j2, .int .i64 j3, .int .i64 j4], .pointer (some ⟨gA, 0, none⟩), .pointer (some ⟨gL, 0, none⟩)] w fun e w' =>
      e = .returned (.agg #[.int .i64 (n + 1), .int .i64 (y + 1), .int .i64 (1), .int .i64 (1), .int .i64 (ln), .int .i64 (wk % 7 + 1), .int .i64 u1, .int .i64 u2, .int .i64 u3, .int .i64 u4]) ∧
      w'.heap[gA]? = some (.cells #[.int .i64 (1)] 3 (0, 0)) ∧ w'.heap[gL]? = some (.cells #[.int .i64 L2] 3 (0, 0)) ∧ But (fun k => k = gA ∨ k = gL) w w' := by
  obtain ⟨hn1, hn2⟩ := hn
  obtain ⟨hy1, hy2⟩ := hy
  obtain ⟨hm1, hm2⟩ := hm
  obtain ⟨hd1, hd2⟩ := hd
  obtain ⟨hw1, hw2⟩ := hwk
  obtain ⟨ha1, ha2⟩ := ha
  have cA : w.cell? ⟨gA, 0, none⟩ = some (.int .i64 a) := blk_cell hA 0
  have fA : w.frozen? ⟨gA, 0, none⟩ = false := blk_free hA 0
  have cL : w.cell? ⟨gL, 0, none⟩ = some (.int .i64 L) := blk_cell hL 0
  have fL : w.frozen? ⟨gL, 0, none⟩ = false := blk_free hL 0
  have lA := lt_of_block hA
  have lL := lt_of_block hL
  have HA := Lib.hid hA
  have HL := Lib.hid hL
  have e7 : Int.tmod wk 7 = wk % 7 := Int.tmod_eq_emod_of_nonneg (by omega)
  clear hA hL
  go_enter Try.func33, Try.ntmps33
  go_wp2_with fail
  refine (KY _).mono ?_
  rintro e w' ⟨rfl, rfl⟩
  go_wp2_with fail
  refine (KLN _).mono ?_
  rintro e w' ⟨rfl, rfl⟩
  go_wp2_with fail
  refine (KW1 _).mono ?_
  rintro e w' ⟨rfl, rfl⟩
  go_wp2_with fail
  refine (KW2 _).mono ?_
  rintro e w' ⟨rfl, rfl⟩
  go_wp2
  refine bodyPost_ret (v := .agg #[.int .i64 (n + 1), .int .i64 (y + 1), .int .i64 (1), .int .i64 (1), .int .i64 (ln), .int .i64 (wk % 7 + 1), .int .i64 u1, .int .i64 u2, .int .i64 u3, .int .i64 u4]) (by simp [results, Try.results33, go_sem]) rfl ⟨rfl, ?_, ?_, ?_⟩
  · exact blk_more (blk_more (blk_else (blk_put (blk_put HA.out 0 _) 0 _) ⟨gL, 0, none⟩ hne _) _) _
  · exact blk_more (blk_more (blk_put (blk_else (blk_else HL.out ⟨gA, 0, none⟩ (Ne.symm hne) _) ⟨gA, 0, none⟩ (Ne.symm hne) _) 0 _) _) _
  · exact (((((But.refl (fun k => k = gA ∨ k = gL) w).setCell (.inr (.inl rfl)) _).setCell (.inr (.inl rfl)) _).setCell (.inr (.inr rfl)) _).alloc _).alloc _
end Go.Proofs.Ytediadckcpedkaa
