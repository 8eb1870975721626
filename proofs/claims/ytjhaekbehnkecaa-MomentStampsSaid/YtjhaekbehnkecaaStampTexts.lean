/- Contracts of the document's texts of instants (layer 8). -/
import Derived.Test.YtjhaekbehnkecaaStampRef
import Derived.Deep.RegionHeld3
namespace Go.Proofs.Ytjhaekbehnkecaa
open Go.RowKit Civ

theorem bytesOf_const (l : List UInt8) (c : UInt8) : bytesOf' l ++ ByteArray.mk #[c] = bytesOf' (l ++ [c]) := bytesOf_append l [c]
attribute [local simp] bytesOf_size bytesOf_append bytesOf_const
/-- the stamp's box in a world of the region -/
structure St (W0 X : World) (g : Nat) (y m d hh hm hs : Int) : Prop where
  b : Below W0.heap.size W0 X
  g0 : X.cell? ⟨g, 0, none⟩ = some (.int .i64 y)
  g1 : X.cell? ⟨g, 1, none⟩ = some (.int .i64 m)
  g2 : X.cell? ⟨g, 2, none⟩ = some (.int .i64 d)
  g3 : X.cell? ⟨g, 3, none⟩ = some (.int .i64 hh)
  g4 : X.cell? ⟨g, 4, none⟩ = some (.int .i64 hm)
  g5 : X.cell? ⟨g, 5, none⟩ = some (.int .i64 hs)
theorem St.start (w : World) (y m d hh hm hs : Int) : St (w.alloc (.cells #[.int .i64 y, .int .i64 m, .int .i64 d, .int .i64 hh, .int .i64 hm, .int .i64 hs] 34)) (w.alloc (.cells #[.int .i64 y, .int .i64 m, .int .i64 d, .int .i64 hh, .int .i64 hm, .int .i64 hs] 34)) w.heap.size y m d hh hm hs :=
  ⟨Below.refl _ _, cell_of_row _ _ 0 _ _ _ (heap_alloc_new _ _), cell_of_row _ _ 1 _ _ _ (heap_alloc_new _ _), cell_of_row _ _ 2 _ _ _ (heap_alloc_new _ _), cell_of_row _ _ 3 _ _ _ (heap_alloc_new _ _), cell_of_row _ _ 4 _ _ _ (heap_alloc_new _ _), cell_of_row _ _ 5 _ _ _ (heap_alloc_new _ _)⟩
theorem St.drew {W0 X : World} {g : Nat} {y m d hh hm hs : Int} (H : St W0 X g y m d hh hm hs) : St W0 X.drew g y m d hh hm hs := ⟨H.b.drew, H.g0, H.g1, H.g2, H.g3, H.g4, H.g5⟩
theorem St.keep {W0 X Y : World} {g : Nat} {y m d hh hm hs : Int} (hg : g < W0.heap.size) (hb : Below X.heap.size X Y) (H : St W0 X g y m d hh hm hs) : St W0 Y g y m d hh hm hs := by
  have hz := H.b.size
  have c : ∀ i v, X.cell? ⟨g, i, none⟩ = some v → Y.cell? ⟨g, i, none⟩ = some v := fun i v h => (hb.cell (p := ⟨g, i, none⟩) (by show g < _; omega)).trans h
  exact ⟨below_cut H.b hb, c _ _ H.g0, c _ _ H.g1, c _ _ H.g2, c _ _ H.g3, c _ _ H.g4, c _ _ H.g5⟩
theorem St.conj {W0 w' : World} {g : Nat} {y m d hh hm hs : Int} (H : St W0 w' g y m d hh hm hs) : Below W0.heap.size W0 w' ∧ w'.cell? ⟨g, 0, none⟩ = some (.int .i64 y) ∧ w'.cell? ⟨g, 1, none⟩ = some (.int .i64 m) ∧ w'.cell? ⟨g, 2, none⟩ = some (.int .i64 d) ∧ w'.cell? ⟨g, 3, none⟩ = some (.int .i64 hh) ∧ w'.cell? ⟨g, 4, none⟩ = some (.int .i64 hm) ∧ w'.cell? ⟨g, 5, none⟩ = some (.int .i64 hs) := ⟨H.b, H.g0, H.g1, H.g2, H.g3, H.g4, H.g5⟩
theorem St.keepC {W0 X Y : World} {g : Nat} {y m d hh hm hs : Int} (hg : g < W0.heap.size) (hb : Below X.heap.size X Y) (H : Below W0.heap.size W0 X ∧ X.cell? ⟨g, 0, none⟩ = some (.int .i64 y) ∧ X.cell? ⟨g, 1, none⟩ = some (.int .i64 m) ∧ X.cell? ⟨g, 2, none⟩ = some (.int .i64 d) ∧ X.cell? ⟨g, 3, none⟩ = some (.int .i64 hh) ∧ X.cell? ⟨g, 4, none⟩ = some (.int .i64 hm) ∧ X.cell? ⟨g, 5, none⟩ = some (.int .i64 hs)) : Below W0.heap.size W0 Y ∧ Y.cell? ⟨g, 0, none⟩ = some (.int .i64 y) ∧ Y.cell? ⟨g, 1, none⟩ = some (.int .i64 m) ∧ Y.cell? ⟨g, 2, none⟩ = some (.int .i64 d) ∧ Y.cell? ⟨g, 3, none⟩ = some (.int .i64 hh) ∧ Y.cell? ⟨g, 4, none⟩ = some (.int .i64 hm) ∧ Y.cell? ⟨g, 5, none⟩ = some (.int .i64 hs) :=
  (St.keep hg hb ⟨H.1, H.2.1, H.2.2.1, H.2.2.2.1, H.2.2.2.2.1, H.2.2.2.2.2.1, H.2.2.2.2.2.2⟩).conj
set_option maxHeartbeats 3200000 in
set_option maxRecDepth 100000 in
theorem rbasic_any (t y m d hh hm hs : Int) (w : World) (h1 : 0 ≤ t) (h2 : t < 12622780800) (hd : IsDate (t / 86400) y m d) (hy : 0 ≤ y) (hy2 : y ≤ 9999)
    (eh : t % 86400 / 3600 = hh) (em : t % 3600 / 60 = hm) (es : t % 60 = hs) :
    Calls Try.prog 18 #[.int .i64 t] w fun e w' => e = .returned (.string (strOfNums (putAll basF y m d hh hm hs))) ∧ Below w.heap.size w w' := by
  have k1 := fun w => rstamp_yes t y m d hh hm hs w h1 h2 hd hy hy2 eh em es
  unfold stampS at k1
  rw [bas_digs]
  have b1 : 0 ≤ m ∧ m ≤ 9999 := by have := hd.1; have := hd.2.1; omega
  have b2 : 0 ≤ d ∧ d ≤ 9999 := by have := hd.2.2.1; have := hd.2.2.2.1; have := len_bd y m hd.1 hd.2.1; omega
  have b3 : 0 ≤ hh ∧ hh ≤ 9999 := by omega
  have b4 : 0 ≤ hm ∧ hm ≤ 9999 := by omega
  have b5 : 0 ≤ hs ∧ hs ≤ 9999 := by omega
  have d0 : ∀ w, Calls Try.prog 43 #[.int .i64 y, .int .i64 4] w fun e w' => e = .returned (.string (bytesOf' (digs 4 y))) ∧ Below w.heap.size w w' := fun w => digits_any 4 y w (by decide) hy hy2
  have d1 : ∀ w, Calls Try.prog 43 #[.int .i64 m, .int .i64 2] w fun e w' => e = .returned (.string (bytesOf' (digs 2 m))) ∧ Below w.heap.size w w' := fun w => digits_any 2 m w (by decide) b1.1 b1.2
  have d2 : ∀ w, Calls Try.prog 43 #[.int .i64 d, .int .i64 2] w fun e w' => e = .returned (.string (bytesOf' (digs 2 d))) ∧ Below w.heap.size w w' := fun w => digits_any 2 d w (by decide) b2.1 b2.2
  have d3 : ∀ w, Calls Try.prog 43 #[.int .i64 hh, .int .i64 2] w fun e w' => e = .returned (.string (bytesOf' (digs 2 hh))) ∧ Below w.heap.size w w' := fun w => digits_any 2 hh w (by decide) b3.1 b3.2
  have d4 : ∀ w, Calls Try.prog 43 #[.int .i64 hm, .int .i64 2] w fun e w' => e = .returned (.string (bytesOf' (digs 2 hm))) ∧ Below w.heap.size w w' := fun w => digits_any 2 hm w (by decide) b4.1 b4.2
  have d5 : ∀ w, Calls Try.prog 43 #[.int .i64 hs, .int .i64 2] w fun e w' => e = .returned (.string (bytesOf' (digs 2 hs))) ∧ Below w.heap.size w w' := fun w => digits_any 2 hs w (by decide) b5.1 b5.2
  obtain ⟨D0, e0⟩ : ∃ D, D = digs 4 y := ⟨_, rfl⟩
  obtain ⟨D1, e1⟩ : ∃ D, D = digs 2 m := ⟨_, rfl⟩
  obtain ⟨D2, e2⟩ : ∃ D, D = digs 2 d := ⟨_, rfl⟩
  obtain ⟨D3, e3⟩ : ∃ D, D = digs 2 hh := ⟨_, rfl⟩
  obtain ⟨D4, e4⟩ : ∃ D, D = digs 2 hm := ⟨_, rfl⟩
  obtain ⟨D5, e5⟩ : ∃ D, D = digs 2 hs := ⟨_, rfl⟩
  have l0 : D0.length = 4 := by rw [e0]; exact digs_length _ _
  have l1 : D1.length = 2 := by rw [e1]; exact digs_length _ _
  have l2 : D2.length = 2 := by rw [e2]; exact digs_length _ _
  have l3 : D3.length = 2 := by rw [e3]; exact digs_length _ _
  have l4 : D4.length = 2 := by rw [e4]; exact digs_length _ _
  have l5 : D5.length = 2 := by rw [e5]; exact digs_length _ _
  rw [← e0] at d0 ⊢
  rw [← e1] at d1 ⊢
  rw [← e2] at d2 ⊢
  rw [← e3] at d3 ⊢
  rw [← e4] at d4 ⊢
  rw [← e5] at d5 ⊢
  clear e0 e1 e2 e3 e4 e5
  clear eh em es hd h1 h2 b1 b2 b3 b4 b5 hy hy2
  go_enter Try.func18, Try.ntmps18
  go_wp2_with fail
  refine (k1 _).mono ?_
  rintro e w1 ⟨rfl, hb⟩
  clear k1
  obtain ⟨W0, hW0⟩ : ∃ W0, w1.alloc (.cells #[.int .i64 y, .int .i64 m, .int .i64 d, .int .i64 hh, .int .i64 hm, .int .i64 hs] 34) = W0 := ⟨_, rfl⟩
  have HS := St.start w1 y m d hh hm hs
  have hbW : Below w.heap.size w W0 := by rw [← hW0]; exact hb.alloc hb.size _
  have hx : w1.heap.size < W0.heap.size := by rw [← hW0]; simp
  rw [hW0] at HS
  go_wp2_with fail
  try rw [hW0]
  clear hW0 hb
  go_region_held3 (fun w' => Below W0.heap.size W0 w' ∧ w'.cell? ⟨w1.heap.size, 0, none⟩ = some (.int .i64 y) ∧ w'.cell? ⟨w1.heap.size, 1, none⟩ = some (.int .i64 m) ∧ w'.cell? ⟨w1.heap.size, 2, none⟩ = some (.int .i64 d) ∧ w'.cell? ⟨w1.heap.size, 3, none⟩ = some (.int .i64 hh) ∧ w'.cell? ⟨w1.heap.size, 4, none⟩ = some (.int .i64 hm) ∧ w'.cell? ⟨w1.heap.size, 5, none⟩ = some (.int .i64 hs)) (first | exact HS.drew.conj | exact St.keepC hx (by assumption) (by assumption)) (first | (go_at_call 43; with_reducible refine (d0 _).mono ?_; rintro e w2 ⟨rfl, hb⟩) | (with_reducible refine (d1 _).mono ?_; rintro e w2 ⟨rfl, hb⟩) | (with_reducible refine (d2 _).mono ?_; rintro e w2 ⟨rfl, hb⟩) | (with_reducible refine (d3 _).mono ?_; rintro e w2 ⟨rfl, hb⟩) | (with_reducible refine (d4 _).mono ?_; rintro e w2 ⟨rfl, hb⟩) | (with_reducible refine (d5 _).mono ?_; rintro e w2 ⟨rfl, hb⟩))
  have hH : Below W0.heap.size W0 w2 ∧ w2.cell? ⟨w1.heap.size, 0, none⟩ = some (.int .i64 y) ∧ w2.cell? ⟨w1.heap.size, 1, none⟩ = some (.int .i64 m) ∧ w2.cell? ⟨w1.heap.size, 2, none⟩ = some (.int .i64 d) ∧ w2.cell? ⟨w1.heap.size, 3, none⟩ = some (.int .i64 hh) ∧ w2.cell? ⟨w1.heap.size, 4, none⟩ = some (.int .i64 hm) ∧ w2.cell? ⟨w1.heap.size, 5, none⟩ = some (.int .i64 hs) := by assumption
  clear HS
  go_wp2
  go_ret
  refine ⟨?_, below_cut hbW hH.1⟩
  show Ending.returned (.string _) = Ending.returned (.string _)
  simp only [List.append_assoc, List.cons_append, List.nil_append]
set_option maxHeartbeats 3200000 in
set_option maxRecDepth 100000 in
theorem rlong_any (t y m d hh hm hs : Int) (w : World) (h1 : 0 ≤ t) (h2 : t < 12622780800) (hd : IsDate (t / 86400) y m d) (hy : 0 ≤ y) (hy2 : y ≤ 9999)
    (eh : t % 86400 / 3600 = hh) (em : t % 3600 / 60 = hm) (es : t % 60 = hs) :
    Calls Try.prog 17 #[.int .i64 t] w fun e w' => e = .returned (.string (strOfNums (putAll lonF y m d hh hm hs))) ∧ Below w.heap.size w w' := by
  have k1 := fun w => rstamp_yes t y m d hh hm hs w h1 h2 hd hy hy2 eh em es
  unfold stampS at k1
  rw [lon_digs]
  have b1 : 0 ≤ m ∧ m ≤ 9999 := by have := hd.1; have := hd.2.1; omega
  have b2 : 0 ≤ d ∧ d ≤ 9999 := by have := hd.2.2.1; have := hd.2.2.2.1; have := len_bd y m hd.1 hd.2.1; omega
  have b3 : 0 ≤ hh ∧ hh ≤ 9999 := by omega
  have b4 : 0 ≤ hm ∧ hm ≤ 9999 := by omega
  have b5 : 0 ≤ hs ∧ hs ≤ 9999 := by omega
  have d0 : ∀ w, Calls Try.prog 43 #[.int .i64 y, .int .i64 4] w fun e w' => e = .returned (.string (bytesOf' (digs 4 y))) ∧ Below w.heap.size w w' := fun w => digits_any 4 y w (by decide) hy hy2
  have d1 : ∀ w, Calls Try.prog 43 #[.int .i64 m, .int .i64 2] w fun e w' => e = .returned (.string (bytesOf' (digs 2 m))) ∧ Below w.heap.size w w' := fun w => digits_any 2 m w (by decide) b1.1 b1.2
  have d2 : ∀ w, Calls Try.prog 43 #[.int .i64 d, .int .i64 2] w fun e w' => e = .returned (.string (bytesOf' (digs 2 d))) ∧ Below w.heap.size w w' := fun w => digits_any 2 d w (by decide) b2.1 b2.2
  have d3 : ∀ w, Calls Try.prog 43 #[.int .i64 hh, .int .i64 2] w fun e w' => e = .returned (.string (bytesOf' (digs 2 hh))) ∧ Below w.heap.size w w' := fun w => digits_any 2 hh w (by decide) b3.1 b3.2
  have d4 : ∀ w, Calls Try.prog 43 #[.int .i64 hm, .int .i64 2] w fun e w' => e = .returned (.string (bytesOf' (digs 2 hm))) ∧ Below w.heap.size w w' := fun w => digits_any 2 hm w (by decide) b4.1 b4.2
  have d5 : ∀ w, Calls Try.prog 43 #[.int .i64 hs, .int .i64 2] w fun e w' => e = .returned (.string (bytesOf' (digs 2 hs))) ∧ Below w.heap.size w w' := fun w => digits_any 2 hs w (by decide) b5.1 b5.2
  obtain ⟨D0, e0⟩ : ∃ D, D = digs 4 y := ⟨_, rfl⟩
  obtain ⟨D1, e1⟩ : ∃ D, D = digs 2 m := ⟨_, rfl⟩
  obtain ⟨D2, e2⟩ : ∃ D, D = digs 2 d := ⟨_, rfl⟩
  obtain ⟨D3, e3⟩ : ∃ D, D = digs 2 hh := ⟨_, rfl⟩
  obtain ⟨D4, e4⟩ : ∃ D, D = digs 2 hm := ⟨_, rfl⟩
  obtain ⟨D5, e5⟩ : ∃ D, D = digs 2 hs := ⟨_, rfl⟩
  have l0 : D0.length = 4 := by rw [e0]; exact digs_length _ _
  have l1 : D1.length = 2 := by rw [e1]; exact digs_length _ _
  have l2 : D2.length = 2 := by rw [e2]; exact digs_length _ _
  have l3 : D3.length = 2 := by rw [e3]; exact digs_length _ _
  have l4 : D4.length = 2 := by rw [e4]; exact digs_length _ _
  have l5 : D5.length = 2 := by rw [e5]; exact digs_length _ _
  rw [← e0] at d0 ⊢
  rw [← e1] at d1 ⊢
  rw [← e2] at d2 ⊢
  rw [← e3] at d3 ⊢
  rw [← e4] at d4 ⊢
  rw [← e5] at d5 ⊢
  clear e0 e1 e2 e3 e4 e5
  clear eh em es hd h1 h2 b1 b2 b3 b4 b5 hy hy2
  go_enter Try.func17, Try.ntmps17
  go_wp2_with fail
  refine (k1 _).mono ?_
  rintro e w1 ⟨rfl, hb⟩
  clear k1
  obtain ⟨W0, hW0⟩ : ∃ W0, w1.alloc (.cells #[.int .i64 y, .int .i64 m, .int .i64 d, .int .i64 hh, .int .i64 hm, .int .i64 hs] 34) = W0 := ⟨_, rfl⟩
  have HS := St.start w1 y m d hh hm hs
  have hbW : Below w.heap.size w W0 := by rw [← hW0]; exact hb.alloc hb.size _
  have hx : w1.heap.size < W0.heap.size := by rw [← hW0]; simp
  rw [hW0] at HS
  go_wp2_with fail
  try rw [hW0]
  clear hW0 hb
  go_region_held3 (fun w' => Below W0.heap.size W0 w' ∧ w'.cell? ⟨w1.heap.size, 0, none⟩ = some (.int .i64 y) ∧ w'.cell? ⟨w1.heap.size, 1, none⟩ = some (.int .i64 m) ∧ w'.cell? ⟨w1.heap.size, 2, none⟩ = some (.int .i64 d) ∧ w'.cell? ⟨w1.heap.size, 3, none⟩ = some (.int .i64 hh) ∧ w'.cell? ⟨w1.heap.size, 4, none⟩ = some (.int .i64 hm) ∧ w'.cell? ⟨w1.heap.size, 5, none⟩ = some (.int .i64 hs)) (first | exact HS.drew.conj | exact St.keepC hx (by assumption) (by assumption)) (first | (go_at_call 43; with_reducible refine (d0 _).mono ?_; rintro e w2 ⟨rfl, hb⟩) | (with_reducible refine (d1 _).mono ?_; rintro e w2 ⟨rfl, hb⟩) | (with_reducible refine (d2 _).mono ?_; rintro e w2 ⟨rfl, hb⟩) | (with_reducible refine (d3 _).mono ?_; rintro e w2 ⟨rfl, hb⟩) | (with_reducible refine (d4 _).mono ?_; rintro e w2 ⟨rfl, hb⟩) | (with_reducible refine (d5 _).mono ?_; rintro e w2 ⟨rfl, hb⟩))
  have hH : Below W0.heap.size W0 w2 ∧ w2.cell? ⟨w1.heap.size, 0, none⟩ = some (.int .i64 y) ∧ w2.cell? ⟨w1.heap.size, 1, none⟩ = some (.int .i64 m) ∧ w2.cell? ⟨w1.heap.size, 2, none⟩ = some (.int .i64 d) ∧ w2.cell? ⟨w1.heap.size, 3, none⟩ = some (.int .i64 hh) ∧ w2.cell? ⟨w1.heap.size, 4, none⟩ = some (.int .i64 hm) ∧ w2.cell? ⟨w1.heap.size, 5, none⟩ = some (.int .i64 hs) := by assumption
  clear HS
  go_wp2
  go_ret
  refine ⟨?_, below_cut hbW hH.1⟩
  show Ending.returned (.string _) = Ending.returned (.string _)
  simp only [List.append_assoc, List.cons_append, List.nil_append]
end Go.Proofs.Ytjhaekbehnkecaa
