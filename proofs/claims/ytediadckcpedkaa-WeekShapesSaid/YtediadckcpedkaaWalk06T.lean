/- The walk of WeekShapes where the first day is one of the window (layer 6). -/
import Derived.Test.YtediadckcpedkaaWalk06S
namespace Go.Proofs.Ytediadckcpedkaa
open Go.RowKit Civ
set_option linter.unusedVariables false

attribute [local go_sem] eq_shape
theorem ws_but {B : Nat} {W0 X Y : World} {P : Prop} (H : Below W0.heap.size W0 X ∧ P) (hb : Below X.heap.size X Y) : Below W0.heap.size W0 Y := H.1.trans (hb.mono H.1.size)
theorem ws_mk {g : Nat} {n a1 a2 a3 a4 a5 a6 a7 a8 a9 : Int} {W0 X : World} (HG : W0.heap[g]? = some (.cells #[.int .i64 n, .int .i64 a1, .int .i64 a2, .int .i64 a3, .int .i64 a4, .int .i64 a5, .int .i64 a6, .int .i64 a7, .int .i64 a8, .int .i64 a9] 23 (0, 0))) (hb : Below W0.heap.size W0 X) : Below W0.heap.size W0 X ∧ X.cell? ⟨g, 0, none⟩ = some (.int .i64 n) ∧ X.cell? ⟨g, 1, none⟩ = some (.int .i64 a1) ∧ X.cell? ⟨g, 2, none⟩ = some (.int .i64 a2) ∧ X.cell? ⟨g, 3, none⟩ = some (.int .i64 a3) ∧ X.cell? ⟨g, 4, none⟩ = some (.int .i64 a4) ∧ X.cell? ⟨g, 5, none⟩ = some (.int .i64 a5) ∧ X.cell? ⟨g, 6, none⟩ = some (.int .i64 a6) ∧ X.cell? ⟨g, 7, none⟩ = some (.int .i64 a7) ∧ X.cell? ⟨g, 8, none⟩ = some (.int .i64 a8) ∧ X.cell? ⟨g, 9, none⟩ = some (.int .i64 a9) := by
  have qg := (hb.block _ (lt_of_block HG)).trans HG
  exact ⟨hb, blk_cell qg 0, blk_cell qg 1, blk_cell qg 2, blk_cell qg 3, blk_cell qg 4, blk_cell qg 5, blk_cell qg 6, blk_cell qg 7, blk_cell qg 8, blk_cell qg 9⟩
set_option maxHeartbeats 3200000 in
set_option maxRecDepth 20000 in
theorem weekShapes_in (n y m d many to' hi : Int) (hdt : IsDate n y m d) (hn1 : 0 ≤ n) (hn2 : n < 146097) (hmn : 0 ≤ many ∧ many ≤ 255) (hhi : (if 146096 < to' then 146096 else to') = hi) (w : World) :
    Calls Try.prog 3 #[.int .i64 n, .int .u8 many, .int .i64 to'] w fun e w' => e = .returned (.bool true) ∧ Below w.heap.size w w' := by
  have hgd := guard_shape
  have hlo : (if n < 0 then 0 else n) = n := if_neg (by omega)
  have hlo' : (if 0 < n then n else 0) = n := by split <;> omega
  have KN := fun W => shape_ok n y m d W hdt hn1 hn2
  have KR0 := fun W => rshape_ok n y m d W hdt hn1 hn2
  have KD := fun W => days_any n to' n hi hlo hhi W
  have d0 : decide (n < 0) = false := decide_eq_false (by omega)
  have d1 : decide (146096 < n) = false := decide_eq_false (by omega)
  obtain ⟨a1, a2, a3, a4, a5, a6, a7, a8, a9, hsv⟩ : ∃ a1 a2 a3 a4 a5 a6 a7 a8 a9 : Int, shapeV n y m d = .agg #[.int .i64 n, .int .i64 a1, .int .i64 a2, .int .i64 a3, .int .i64 a4, .int .i64 a5, .int .i64 a6, .int .i64 a7, .int .i64 a8, .int .i64 a9] := ⟨_, _, _, _, _, _, _, _, _, rfl⟩
  rw [hsv] at KN KR0
  have KR := Lib.hid KR0
  clear hsv hdt KR0
  have HW0 := Lib.hid (show ((w.alloc (.cells #[.int .u8 many] 5)).alloc (.cells #[.int .i64 to'] 2)).heap.size = w.heap.size + 2 by simp)
  have HM0 := Lib.hid (blk_more (blk_new w (.cells #[.int .u8 many] 5)) (.cells #[.int .i64 to'] 2))
  have HT0 := Lib.hid (blk_new (w.alloc (.cells #[.int .u8 many] 5)) (.cells #[.int .i64 to'] 2))
  have HB0 := Lib.hid (show Below w.heap.size w ((w.alloc (.cells #[.int .u8 many] 5)).alloc (.cells #[.int .i64 to'] 2)) from ((Below.refl _ _).alloc (Nat.le_refl _) _).alloc (by simp) _)
  generalize hX : (w.alloc (.cells #[.int .u8 many] 5)).alloc (.cells #[.int .i64 to'] 2) = X at HW0 HM0 HT0 HB0
  rw [size_alloc'] at HT0
  go_enter Try.func3, Try.ntmps3
  go_wp2_with fail
  try rw [hX]
  clear hX
  refine (KN _).mono ?_
  rintro e w1 ⟨rfl, hb1⟩
  have s0 := HW0.out
  have s1 := hb1.size
  have m1 := (hb1.block _ (lt_of_block HM0.out)).trans HM0.out
  have t1 := (hb1.block _ (lt_of_block HT0.out)).trans HT0.out
  have HB1 := Lib.hid (HB0.out.trans (hb1.mono (by omega)))
  have s10 := HB1.out.size
  have HM1 := Lib.hid (blk_more m1 (.cells #[.int .i64 n, .int .i64 a1, .int .i64 a2, .int .i64 a3, .int .i64 a4, .int .i64 a5, .int .i64 a6, .int .i64 a7, .int .i64 a8, .int .i64 a9] 23))
  have HT1 := Lib.hid (blk_more t1 (.cells #[.int .i64 n, .int .i64 a1, .int .i64 a2, .int .i64 a3, .int .i64 a4, .int .i64 a5, .int .i64 a6, .int .i64 a7, .int .i64 a8, .int .i64 a9] 23))
  have HG1 := Lib.hid (blk_new w1 (.cells #[.int .i64 n, .int .i64 a1, .int .i64 a2, .int .i64 a3, .int .i64 a4, .int .i64 a5, .int .i64 a6, .int .i64 a7, .int .i64 a8, .int .i64 a9] 23))
  have HBA := Lib.hid (HB1.out.alloc HB1.out.size (.cells #[.int .i64 n, .int .i64 a1, .int .i64 a2, .int .i64 a3, .int .i64 a4, .int .i64 a5, .int .i64 a6, .int .i64 a7, .int .i64 a8, .int .i64 a9] 23))
  clear m1 t1 hb1 KN HM0 HT0 HB0
  have hsz : w.heap.size + 1 < w1.heap.size := by omega
  have hne : w1.heap.size ≠ w.heap.size + 1 := by omega
  go_wp2_with fail
  obtain ⟨W0, hW0⟩ : ∃ W0, w1.alloc (.cells #[.int .i64 n, .int .i64 a1, .int .i64 a2, .int .i64 a3, .int .i64 a4, .int .i64 a5, .int .i64 a6, .int .i64 a7, .int .i64 a8, .int .i64 a9] 23) = W0 := ⟨_, rfl⟩
  rw [hW0] at HM1 HT1 HG1 HBA
  try rw [hW0]
  clear hW0
  have HMK := Lib.hid (fun (Y : World) (hb : Below W0.heap.size W0 Y) => ws_mk HG1.out hb)
  have HS := HMK.out W0.drew (Below.refl _ _).drew
  clear hsz hne s0 s1 s10
  go_region_held3 (fun w' => Below W0.heap.size W0 w' ∧ w'.cell? ⟨w1.heap.size, 0, none⟩ = some (.int .i64 n) ∧ w'.cell? ⟨w1.heap.size, 1, none⟩ = some (.int .i64 a1) ∧ w'.cell? ⟨w1.heap.size, 2, none⟩ = some (.int .i64 a2) ∧ w'.cell? ⟨w1.heap.size, 3, none⟩ = some (.int .i64 a3) ∧ w'.cell? ⟨w1.heap.size, 4, none⟩ = some (.int .i64 a4) ∧ w'.cell? ⟨w1.heap.size, 5, none⟩ = some (.int .i64 a5) ∧ w'.cell? ⟨w1.heap.size, 6, none⟩ = some (.int .i64 a6) ∧ w'.cell? ⟨w1.heap.size, 7, none⟩ = some (.int .i64 a7) ∧ w'.cell? ⟨w1.heap.size, 8, none⟩ = some (.int .i64 a8) ∧ w'.cell? ⟨w1.heap.size, 9, none⟩ = some (.int .i64 a9)) (first | exact HS | exact hSw | exact HMK.out _ (ws_but (B := 0) (by assumption) (by assumption))) ((go_at_call 5; with_reducible refine (KR.out _).mono ?_; rintro e w3 ⟨rfl, hb⟩; have hSw := HMK.out w3 (ws_but (B := 0) (by assumption) hb); have hS2 := hSw; obtain ⟨hbS, x0, x1, x2, x3, x4, x5, x6, x7, x8, x9⟩ := hS2))
  have HMX := Lib.hid ((hbS.block _ (lt_of_block HM1.out)).trans HM1.out)
  have HTX := Lib.hid ((hbS.block _ (lt_of_block HT1.out)).trans HT1.out)
  have HBX := Lib.hid (HBA.out.trans (hbS.mono HBA.out.size))
  have ct : w3.cell? ⟨w.heap.size + 1, 0, none⟩ = some (.int .i64 to') := blk_cell HTX.out 0
  have sX := HBX.out.size
  clear HM1 HT1 HG1 HBA HMK HS hSw hbS x0 x1 x2 x3 x4 x5 x6 x7 x8 x9 KR hb
  go_wp2_with fail
  refine (KD _).mono ?_
  rintro e w2 ⟨PF, PT, rfl, hpf, hpt, hlf, hlt, hb2⟩
  have hnil := nil_funcS (.func 21) #[] #[.pointer (some ⟨PF, 0, none⟩), .pointer (some ⟨PT, 0, none⟩)] w2
  have s2 := hb2.size
  have HM2 := Lib.hid ((hb2.block _ (lt_of_block HMX.out)).trans HMX.out)
  have HT2 := Lib.hid ((hb2.block _ (lt_of_block HTX.out)).trans HTX.out)
  have HB2 := Lib.hid (HBX.out.trans (hb2.mono HBX.out.size))
  have lM := lt_of_block HMX.out
  have lT := lt_of_block HTX.out
  clear hb2 ct
  go_wp2_with fail
  have hv : Vars (w2.heap.size + 1) w2.heap.size (w.heap.size + 1) (w2.heap.size + 1 + 1) w.heap.size n to' 0 many (((w2.alloc (.cells #[.int .i64 n] 2)).alloc (.cells #[.bool true] 4)).alloc (.cells #[.int .i64 0] 3)) := by
    refine ⟨?_, ?_, ?_, ?_, ?_⟩
    · have q := blk_new (w2.alloc (.cells #[.int .i64 n] 2)) (.cells #[.bool true] 4)
      rw [size_alloc'] at q
      exact blk_more q _
    · exact blk_more (blk_more (blk_new w2 _) _) _
    · exact blk_more (blk_more (blk_more HT2.out _) _) _
    · have q := blk_new ((w2.alloc (.cells #[.int .i64 n] 2)).alloc (.cells #[.bool true] 4)) (.cells #[.int .i64 0] 3)
      rw [size_alloc', size_alloc'] at q
      exact q
    · exact blk_more (blk_more (blk_more HM2.out _) _) _
  have l1 := lt_of_block hpf
  have l2 := lt_of_block hpt
  have HB3 := Lib.hid (((HB2.out.alloc HB2.out.size (.cells #[.int .i64 n] 2)).alloc (by have := HB2.out.size; simp; omega) (.cells #[.bool true] 4)).alloc (by have := HB2.out.size; simp; omega) (.cells #[.int .i64 0] 3))
  have K := iter_ends (w2.heap.size + 1) w2.heap.size (w.heap.size + 1) (w2.heap.size + 1 + 1) w.heap.size PF PT ⟨by omega, by omega, by omega, by omega, by omega, by omega, by omega, by omega, by omega, by omega⟩ ⟨by omega, by omega, by omega⟩ ⟨by omega, by omega, by omega⟩ n hi to' many hn1 hhi hmn _ hv (blk_more (blk_more (blk_more hpf _) _) _) (blk_more (blk_more (blk_more hpt _) _) _)
  generalize ((w2.alloc (.cells #[.int .i64 n] 2)).alloc (.cells #[.bool true] 4)).alloc (.cells #[.int .i64 0] 3) = W3 at K HB3 ⊢
  clear hv hnil
  refine K.mono ?_
  rintro e w4 ⟨⟨v, rfl⟩, ⟨a, s, ⟨v1, v2, v3, v4, v5⟩, hs1, hs2, hend⟩, hb4⟩
  have c1 : w4.cell? ⟨w2.heap.size + 1, 0, none⟩ = some (.bool true) := blk_cell v1 0
  have c2 : w4.cell? ⟨w2.heap.size, 0, none⟩ = some (.int .i64 a) := blk_cell v2 0
  have c3 : w4.cell? ⟨w.heap.size + 1, 0, none⟩ = some (.int .i64 to') := blk_cell v3 0
  have c4 : w4.cell? ⟨w2.heap.size + 1 + 1, 0, none⟩ = some (.int .i64 s) := blk_cell v4 0
  have c5 : w4.cell? ⟨w.heap.size, 0, none⟩ = some (.int .u8 many) := blk_cell v5 0
  have HB4 := Lib.hid (Below.but HB3.out hb4 (fun i hi hx => by rcases hx with h | h | h <;> omega))
  have he : (decide (many < s) = true) ∨ (decide (many < s) = false ∧ decide (to' < a) = true) ∨ (decide (many < s) = false ∧ decide (to' < a) = false ∧ decide (146096 < a) = true) := by
    by_cases h1 : many < s
    · exact .inl (decide_eq_true h1)
    · by_cases h2 : to' < a
      · exact .inr (.inl ⟨decide_eq_false h1, decide_eq_true h2⟩)
      · exact .inr (.inr ⟨decide_eq_false h1, decide_eq_false h2, decide_eq_true (by omega)⟩)
  obtain ⟨q1, q2⟩ := hmn
  clear v1 v2 v3 v4 v5 hb4 hend K HB3 HB2 hpf hpt hlf hlt
  rcases he with e1 | ⟨e1, e2⟩ | ⟨e1, e2, e3⟩
  · go_wp2_with (go_at_call 8; refine (lives06_any _).mono ?_; rintro e w5 ⟨rfl, hb5⟩)
    go_ret
    exact ⟨rfl, HB4.out.trans (hb5.mono HB4.out.size)⟩
  · go_wp2_with (go_at_call 8; refine (lives06_any _).mono ?_; rintro e w5 ⟨rfl, hb5⟩)
    go_ret
    exact ⟨rfl, HB4.out.trans (hb5.mono HB4.out.size)⟩
  · go_wp2_with (go_at_call 8; refine (lives06_any _).mono ?_; rintro e w5 ⟨rfl, hb5⟩)
    go_ret
    exact ⟨rfl, HB4.out.trans (hb5.mono HB4.out.size)⟩
theorem wf_u8S {a : Int} (h : (Lit.int .u8 a).wf = true) : ∃ n : Nat, a = n ∧ n ≤ 255 := by
  simp only [Lit.wf, Bool.and_eq_true, decide_eq_true_eq] at h
  have h1 : 0 ≤ a := h.1
  have h2 : a ≤ 255 := h.2
  exact ⟨a.toNat, by omega, by omega⟩
theorem weekShapes_walk (n many to' : Int) (w : World) (_wa : (Lit.int .i64 n).wf = true) (wb : (Lit.int .u8 many).wf = true) (_wc : (Lit.int .i64 to').wf = true) :
    Calls Try.prog 3 #[.int .i64 n, .int .u8 many, .int .i64 to'] w fun e w' => e = .returned (.bool true) ∧ Below w.heap.size w w' := by
  have hmn : 0 ≤ many ∧ many ≤ 255 := by
    obtain ⟨n, rfl, hn⟩ := wf_u8S wb
    omega
  by_cases h : n < 0 ∨ 146097 ≤ n
  · exact weekShapes_out n many to' (if n < 0 then 0 else n) _ h hmn rfl (by split <;> split <;> omega) rfl (by split <;> omega) w
  · obtain ⟨y, m, d, hdt⟩ := exists_date n
    exact weekShapes_in n y m d many to' _ hdt (by omega) (by omega) hmn rfl w
end Go.Proofs.Ytediadckcpedkaa
