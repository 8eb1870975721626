/- The walk of WeekShapes (layer 6). -/
import Derived.Test.YtediadckcpedkaaShG
import Derived.Test.YtediadckcpedkaaWalk06
namespace Go.Proofs.Ytediadckcpedkaa
open Go.RowKit Civ
set_option linter.unusedVariables false

attribute [local go_sem] eq_shape
/-- what the iterator does with the law's own function, however many days there are -/
def Ends (F A T S M : Nat) (to' many : Int) (w' : World) : Prop := ∃ a s : Int, Vars F A T S M a to' s many w' ∧ 0 ≤ s ∧ s ≤ 256 ∧ (many < s ∨ to' < a ∨ 146096 < a)
theorem iter_ends (F A T S M PF PT : Nat) (hd : F ≠ A ∧ F ≠ T ∧ F ≠ S ∧ F ≠ M ∧ A ≠ T ∧ A ≠ S ∧ A ≠ M ∧ T ≠ S ∧ T ≠ M ∧ S ≠ M) (hpf : PF ≠ F ∧ PF ≠ A ∧ PF ≠ S) (hpt : PT ≠ F ∧ PT ≠ A ∧ PT ≠ S) (lo hi to' many : Int) (h0 : 0 ≤ lo) (hhi : (if 146096 < to' then 146096 else to') = hi) (hmn : 0 ≤ many ∧ many ≤ 255)
    (w : World) (hv : Vars F A T S M lo to' 0 many w) (hf : w.heap[PF]? = some (.cells #[.int .i64 lo] 2 (0, 0))) (ht : w.heap[PT]? = some (.cells #[.int .i64 hi] 2 (0, 0))) :
    Calls Try.prog 21 #[.func (.func 7) #[] #[.pointer (some ⟨F, 0, none⟩), .pointer (some ⟨A, 0, none⟩), .pointer (some ⟨T, 0, none⟩), .pointer (some ⟨S, 0, none⟩), .pointer (some ⟨M, 0, none⟩)], .pointer (some ⟨PF, 0, none⟩), .pointer (some ⟨PT, 0, none⟩)] w fun e w' =>
      (∃ v, e = .returned v) ∧ Ends F A T S M to' many w' ∧ But (fun k => k = F ∨ k = A ∨ k = S) w w' := by
  by_cases hle : lo ≤ hi
  · refine (days1_any F A T S M PF PT hd hpf hpt lo to' hi many h0 (by split at hhi <;> omega) (by split at hhi <;> omega) hle hmn w hv hf ht).mono ?_
    rintro e w' ⟨hv, ⟨n, h1, h2, h3, h4, h5⟩, hb⟩
    refine ⟨hv, ⟨n, n - lo, h5, by omega, by omega, ?_⟩, hb⟩
    rcases h4 with h | h
    · split at hhi
      · exact .inr (.inr (by omega))
      · exact .inr (.inl (by omega))
    · exact .inl (by omega)
  · refine (days1_none _ PF PT lo hi (by omega) w hf ht).mono ?_
    rintro e w' ⟨hx, rfl⟩
    refine ⟨hx, ⟨lo, 0, hv, by omega, by omega, ?_⟩, But.refl _ _⟩
    split at hhi
    · exact .inr (.inr (by omega))
    · exact .inr (.inl (by omega))
set_option maxHeartbeats 3200000 in
set_option maxRecDepth 20000 in
theorem weekShapes_out (n many to' lo hi : Int) (hn : n < 0 ∨ 146097 ≤ n) (hmn : 0 ≤ many ∧ many ≤ 255) (hlo : (if n < 0 then 0 else n) = lo) (hlo' : (if 0 < n then n else 0) = lo) (hhi : (if 146096 < to' then 146096 else to') = hi) (h0 : 0 ≤ lo) (w : World) :
    Calls Try.prog 3 #[.int .i64 n, .int .u8 many, .int .i64 to'] w fun e w' => e = .returned (.bool true) ∧ Below w.heap.size w w' := by
  have hgd := guard_shape
  have KN := fun W => shape_no n W hn
  have KD := fun W => days_any n to' lo hi hlo hhi W
  have d0 : (decide (n < 0) = true) ∨ (decide (n < 0) = false ∧ decide (146096 < n) = true) := by
    rcases hn with h | h
    · exact .inl (decide_eq_true h)
    · exact .inr ⟨decide_eq_false (by omega), decide_eq_true (by omega)⟩
  clear hn
  unfold zeroS at KN
  have HW0 := Lib.hid (show ((w.alloc (.cells #[.int .u8 many] 5)).alloc (.cells #[.int .i64 to'] 2)).heap.size = w.heap.size + 2 by simp)
  have HM0 := Lib.hid (blk_more (blk_new w (.cells #[.int .u8 many] 5)) (.cells #[.int .i64 to'] 2))
  have HT0 := Lib.hid (blk_new (w.alloc (.cells #[.int .u8 many] 5)) (.cells #[.int .i64 to'] 2))
  have HB0 := Lib.hid (show Below w.heap.size w ((w.alloc (.cells #[.int .u8 many] 5)).alloc (.cells #[.int .i64 to'] 2)) from ((Below.refl _ _).alloc (Nat.le_refl _) _).alloc (by simp) _)
  generalize hX : (w.alloc (.cells #[.int .u8 many] 5)).alloc (.cells #[.int .i64 to'] 2) = X at HW0 HM0 HT0 HB0
  rw [size_alloc'] at HT0
  go_enter Try.func3, Try.ntmps3
  go_wp2_with fail
  try rw [hX]
  clear hX
  refine (KN _).mono ?_
  rintro e w1 ⟨rfl, hb1⟩
  have s0 := HW0.out
  have s1 := hb1.size
  have m1 := (hb1.block _ (lt_of_block HM0.out)).trans HM0.out
  have t1 := (hb1.block _ (lt_of_block HT0.out)).trans HT0.out
  have ct : w1.cell? ⟨w.heap.size + 1, 0, none⟩ = some (.int .i64 to') := blk_cell t1 0
  have HM1 := Lib.hid m1
  have HT1 := Lib.hid t1
  have HB1 := Lib.hid (HB0.out.trans (hb1.mono (by omega)))
  clear m1 t1 hb1 KN HM0 HT0 HB0
  have hsz : w.heap.size + 1 < w1.heap.size := by omega
  have hne : w1.heap.size ≠ w.heap.size + 1 := by omega
  rcases d0 with d0 | ⟨d0, d1⟩
  · go_wp2_with fail
    refine (KD _).mono ?_
    rintro e w2 ⟨PF, PT, rfl, hpf, hpt, hlf, hlt, hb2⟩
    have hnil := nil_funcS (.func 21) #[] #[.pointer (some ⟨PF, 0, none⟩), .pointer (some ⟨PT, 0, none⟩)] w2
    rw [size_alloc'] at hlf hlt
    have s2 := hb2.size
    rw [size_alloc'] at s2
    have HM2 := Lib.hid ((hb2.block _ (lt_of_block (blk_more HM1.out _))).trans (blk_more HM1.out _))
    have HT2 := Lib.hid ((hb2.block _ (lt_of_block (blk_more HT1.out _))).trans (blk_more HT1.out _))
    have HB2 := Lib.hid ((HB1.out.alloc HB1.out.size _).trans (hb2.mono (by have := HB1.out.size; simp; omega)))
    clear hb2 ct
    go_wp2_with fail
    have hv : Vars (w2.heap.size + 1) w2.heap.size (w.heap.size + 1) (w2.heap.size + 1 + 1) w.heap.size lo to' 0 many (((w2.alloc (.cells #[.int .i64 lo] 2)).alloc (.cells #[.bool true] 4)).alloc (.cells #[.int .i64 0] 3)) := by
      refine ⟨?_, ?_, ?_, ?_, ?_⟩
      · have q := blk_new (w2.alloc (.cells #[.int .i64 lo] 2)) (.cells #[.bool true] 4)
        rw [size_alloc'] at q
        exact blk_more q _
      · exact blk_more (blk_more (blk_new w2 _) _) _
      · exact blk_more (blk_more (blk_more HT2.out _) _) _
      · have q := blk_new ((w2.alloc (.cells #[.int .i64 lo] 2)).alloc (.cells #[.bool true] 4)) (.cells #[.int .i64 0] 3)
        rw [size_alloc', size_alloc'] at q
        exact q
      · exact blk_more (blk_more (blk_more HM2.out _) _) _
    have l1 := lt_of_block hpf
    have l2 := lt_of_block hpt
    have HB3 := Lib.hid (((HB2.out.alloc HB2.out.size (.cells #[.int .i64 lo] 2)).alloc (by have := HB2.out.size; simp; omega) (.cells #[.bool true] 4)).alloc (by have := HB2.out.size; simp; omega) (.cells #[.int .i64 0] 3))
    have K := iter_ends (w2.heap.size + 1) w2.heap.size (w.heap.size + 1) (w2.heap.size + 1 + 1) w.heap.size PF PT ⟨by omega, by omega, by omega, by omega, by omega, by omega, by omega, by omega, by omega, by omega⟩ ⟨by omega, by omega, by omega⟩ ⟨by omega, by omega, by omega⟩ lo hi to' many h0 hhi hmn _ hv (blk_more (blk_more (blk_more hpf _) _) _) (blk_more (blk_more (blk_more hpt _) _) _)
    generalize ((w2.alloc (.cells #[.int .i64 lo] 2)).alloc (.cells #[.bool true] 4)).alloc (.cells #[.int .i64 0] 3) = W3 at K HB3 ⊢
    clear hv hnil
    refine K.mono ?_
    rintro e w4 ⟨⟨v, rfl⟩, ⟨a, s, ⟨v1, v2, v3, v4, v5⟩, hs1, hs2, hend⟩, hb4⟩
    have c1 : w4.cell? ⟨w2.heap.size + 1, 0, none⟩ = some (.bool true) := blk_cell v1 0
    have c2 : w4.cell? ⟨w2.heap.size, 0, none⟩ = some (.int .i64 a) := blk_cell v2 0
    have c3 : w4.cell? ⟨w.heap.size + 1, 0, none⟩ = some (.int .i64 to') := blk_cell v3 0
    have c4 : w4.cell? ⟨w2.heap.size + 1 + 1, 0, none⟩ = some (.int .i64 s) := blk_cell v4 0
    have c5 : w4.cell? ⟨w.heap.size, 0, none⟩ = some (.int .u8 many) := blk_cell v5 0
    have HB4 := Lib.hid (Below.but HB3.out hb4 (fun i hi hx => by rcases hx with h | h | h <;> omega))
    have he : (decide (many < s) = true) ∨ (decide (many < s) = false ∧ decide (to' < a) = true) ∨ (decide (many < s) = false ∧ decide (to' < a) = false ∧ decide (146096 < a) = true) := by
      by_cases h1 : many < s
      · exact .inl (decide_eq_true h1)
      · by_cases h2 : to' < a
        · exact .inr (.inl ⟨decide_eq_false h1, decide_eq_true h2⟩)
        · exact .inr (.inr ⟨decide_eq_false h1, decide_eq_false h2, decide_eq_true (by omega)⟩)
    obtain ⟨q1, q2⟩ := hmn
    clear v1 v2 v3 v4 v5 hb4 hend K HB3 HB2 hpf hpt hlf hlt
    rcases he with e1 | ⟨e1, e2⟩ | ⟨e1, e2, e3⟩
    · go_wp2_with (go_at_call 8; refine (lives06_any _).mono ?_; rintro e w5 ⟨rfl, hb5⟩)
      go_ret
      exact ⟨rfl, HB4.out.trans (hb5.mono HB4.out.size)⟩
    · go_wp2_with (go_at_call 8; refine (lives06_any _).mono ?_; rintro e w5 ⟨rfl, hb5⟩)
      go_ret
      exact ⟨rfl, HB4.out.trans (hb5.mono HB4.out.size)⟩
    · go_wp2_with (go_at_call 8; refine (lives06_any _).mono ?_; rintro e w5 ⟨rfl, hb5⟩)
      go_ret
      exact ⟨rfl, HB4.out.trans (hb5.mono HB4.out.size)⟩
  · go_wp2_with fail
    refine (KD _).mono ?_
    rintro e w2 ⟨PF, PT, rfl, hpf, hpt, hlf, hlt, hb2⟩
    have hnil := nil_funcS (.func 21) #[] #[.pointer (some ⟨PF, 0, none⟩), .pointer (some ⟨PT, 0, none⟩)] w2
    rw [size_alloc'] at hlf hlt
    have s2 := hb2.size
    rw [size_alloc'] at s2
    have HM2 := Lib.hid ((hb2.block _ (lt_of_block (blk_more HM1.out _))).trans (blk_more HM1.out _))
    have HT2 := Lib.hid ((hb2.block _ (lt_of_block (blk_more HT1.out _))).trans (blk_more HT1.out _))
    have HB2 := Lib.hid ((HB1.out.alloc HB1.out.size _).trans (hb2.mono (by have := HB1.out.size; simp; omega)))
    clear hb2 ct
    go_wp2_with fail
    have hv : Vars (w2.heap.size + 1) w2.heap.size (w.heap.size + 1) (w2.heap.size + 1 + 1) w.heap.size lo to' 0 many (((w2.alloc (.cells #[.int .i64 lo] 2)).alloc (.cells #[.bool true] 4)).alloc (.cells #[.int .i64 0] 3)) := by
      refine ⟨?_, ?_, ?_, ?_, ?_⟩
      · have q := blk_new (w2.alloc (.cells #[.int .i64 lo] 2)) (.cells #[.bool true] 4)
        rw [size_alloc'] at q
        exact blk_more q _
      · exact blk_more (blk_more (blk_new w2 _) _) _
      · exact blk_more (blk_more (blk_more HT2.out _) _) _
      · have q := blk_new ((w2.alloc (.cells #[.int .i64 lo] 2)).alloc (.cells #[.bool true] 4)) (.cells #[.int .i64 0] 3)
        rw [size_alloc', size_alloc'] at q
        exact q
      · exact blk_more (blk_more (blk_more HM2.out _) _) _
    have l1 := lt_of_block hpf
    have l2 := lt_of_block hpt
    have HB3 := Lib.hid (((HB2.out.alloc HB2.out.size (.cells #[.int .i64 lo] 2)).alloc (by have := HB2.out.size; simp; omega) (.cells #[.bool true] 4)).alloc (by have := HB2.out.size; simp; omega) (.cells #[.int .i64 0] 3))
    have K := iter_ends (w2.heap.size + 1) w2.heap.size (w.heap.size + 1) (w2.heap.size + 1 + 1) w.heap.size PF PT ⟨by omega, by omega, by omega, by omega, by omega, by omega, by omega, by omega, by omega, by omega⟩ ⟨by omega, by omega, by omega⟩ ⟨by omega, by omega, by omega⟩ lo hi to' many h0 hhi hmn _ hv (blk_more (blk_more (blk_more hpf _) _) _) (blk_more (blk_more (blk_more hpt _) _) _)
    generalize ((w2.alloc (.cells #[.int .i64 lo] 2)).alloc (.cells #[.bool true] 4)).alloc (.cells #[.int .i64 0] 3) = W3 at K HB3 ⊢
    clear hv hnil
    refine K.mono ?_
    rintro e w4 ⟨⟨v, rfl⟩, ⟨a, s, ⟨v1, v2, v3, v4, v5⟩, hs1, hs2, hend⟩, hb4⟩
    have c1 : w4.cell? ⟨w2.heap.size + 1, 0, none⟩ = some (.bool true) := blk_cell v1 0
    have c2 : w4.cell? ⟨w2.heap.size, 0, none⟩ = some (.int .i64 a) := blk_cell v2 0
    have c3 : w4.cell? ⟨w.heap.size + 1, 0, none⟩ = some (.int .i64 to') := blk_cell v3 0
    have c4 : w4.cell? ⟨w2.heap.size + 1 + 1, 0, none⟩ = some (.int .i64 s) := blk_cell v4 0
    have c5 : w4.cell? ⟨w.heap.size, 0, none⟩ = some (.int .u8 many) := blk_cell v5 0
    have HB4 := Lib.hid (Below.but HB3.out hb4 (fun i hi hx => by rcases hx with h | h | h <;> omega))
    have he : (decide (many < s) = true) ∨ (decide (many < s) = false ∧ decide (to' < a) = true) ∨ (decide (many < s) = false ∧ decide (to' < a) = false ∧ decide (146096 < a) = true) := by
      by_cases h1 : many < s
      · exact .inl (decide_eq_true h1)
      · by_cases h2 : to' < a
        · exact .inr (.inl ⟨decide_eq_false h1, decide_eq_true h2⟩)
        · exact .inr (.inr ⟨decide_eq_false h1, decide_eq_false h2, decide_eq_true (by omega)⟩)
    obtain ⟨q1, q2⟩ := hmn
    clear v1 v2 v3 v4 v5 hb4 hend K HB3 HB2 hpf hpt hlf hlt
    rcases he with e1 | ⟨e1, e2⟩ | ⟨e1, e2, e3⟩
    · go_wp2_with (go_at_call 8; refine (lives06_any _).mono ?_; rintro e w5 ⟨rfl, hb5⟩)
      go_ret
      exact ⟨rfl, HB4.out.trans (hb5.mono HB4.out.size)⟩
    · go_wp2_with (go_at_call 8; refine (lives06_any _).mono ?_; rintro e w5 ⟨rfl, hb5⟩)
      go_ret
      exact ⟨rfl, HB4.out.trans (hb5.mono HB4.out.size)⟩
    · go_wp2_with (go_at_call 8; refine (lives06_any _).mono ?_; rintro e w5 ⟨rfl, hb5⟩)
      go_ret
      exact ⟨rfl, HB4.out.trans (hb5.mono HB4.out.size)⟩
end Go.Proofs.Ytediadckcpedkaa
