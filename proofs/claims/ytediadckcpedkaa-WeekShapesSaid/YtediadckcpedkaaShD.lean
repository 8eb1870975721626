/- The contract of the law's own function (layer 6). -/
import Derived.Test.YtediadckcpedkaaShQ
import Derived.Deep.RegionHeld3
import Derived.LoopTactic
namespace Go.Proofs.Ytediadckcpedkaa
open Go.RowKit Civ
set_option linter.unusedVariables false

attribute [local go_sem] eq_shape
/-- the law's five variables -/
def Vars (F A T S M : Nat) (at' to' seen many : Int) (w : World) : Prop := w.heap[F]? = some (.cells #[.bool true] 4 (0, 0)) ∧ w.heap[A]? = some (.cells #[.int .i64 at'] 2 (0, 0)) ∧ w.heap[T]? = some (.cells #[.int .i64 to'] 2 (0, 0)) ∧ w.heap[S]? = some (.cells #[.int .i64 seen] 3 (0, 0)) ∧ w.heap[M]? = some (.cells #[.int .u8 many] 5 (0, 0))
theorem sh_but {F : Nat} {W0 X : World} {P : Prop} (H : But (fun k => k = F) W0 X ∧ P) : But (fun k => k = F) W0 X := H.1
theorem sh_store {F : Nat} {W0 X : World} {P : Prop} {R : World → Prop} (HM : ∀ X, But (fun k => k = F) W0 X → X.heap[F]? = some (.cells #[.bool true] 4 (0, 0)) → R X) (H : But (fun k => k = F) W0 X ∧ X.heap[F]? = some (.cells #[.bool true] 4 (0, 0)) ∧ P) : R (X.setCell ⟨F, 0, none⟩ (.bool true)) := HM _ (H.1.setCell (.inr rfl) _) (blk_put H.2.1 0 _)
theorem sh_f {F : Nat} {o : Obj} {W0 X : World} {P : Prop} (H : But (fun k => k = F) W0 X ∧ X.heap[F]? = some o ∧ P) : X.heap[F]? = some o := H.2.1
theorem sh_mk {F A T g : Nat} {n a1 a2 a3 a4 a5 a6 a7 a8 a9 to' : Int} {W0 X : World} (d1 : A ≠ F) (d2 : T ≠ F) (d3 : g ≠ F) (H2 : W0.heap[A]? = some (.cells #[.int .i64 n] 2 (0, 0))) (H3 : W0.heap[T]? = some (.cells #[.int .i64 to'] 2 (0, 0))) (HG : W0.heap[g]? = some (.cells #[.int .i64 n, .int .i64 a1, .int .i64 a2, .int .i64 a3, .int .i64 a4, .int .i64 a5, .int .i64 a6, .int .i64 a7, .int .i64 a8, .int .i64 a9] 23 (0, 0)))
    (hb : But (fun k => k = F) W0 X) (q1 : X.heap[F]? = some (.cells #[.bool true] 4 (0, 0))) : But (fun k => k = F) W0 X ∧ X.heap[F]? = some (.cells #[.bool true] 4 (0, 0)) ∧ X.cell? ⟨F, 0, none⟩ = some (.bool true) ∧ X.cell? ⟨A, 0, none⟩ = some (.int .i64 n) ∧ X.cell? ⟨T, 0, none⟩ = some (.int .i64 to') ∧ X.cell? ⟨g, 0, none⟩ = some (.int .i64 n) ∧ X.cell? ⟨g, 1, none⟩ = some (.int .i64 a1) ∧ X.cell? ⟨g, 2, none⟩ = some (.int .i64 a2) ∧ X.cell? ⟨g, 3, none⟩ = some (.int .i64 a3) ∧ X.cell? ⟨g, 4, none⟩ = some (.int .i64 a4) ∧ X.cell? ⟨g, 5, none⟩ = some (.int .i64 a5) ∧ X.cell? ⟨g, 6, none⟩ = some (.int .i64 a6) ∧ X.cell? ⟨g, 7, none⟩ = some (.int .i64 a7) ∧ X.cell? ⟨g, 8, none⟩ = some (.int .i64 a8) ∧ X.cell? ⟨g, 9, none⟩ = some (.int .i64 a9) ∧ X.frozen? ⟨F, 0, none⟩ = false := by
  have q2 := hb.blk H2 d1
  have q3 := hb.blk H3 d2
  have qg := hb.blk HG d3
  exact ⟨hb, q1, blk_cell q1 0, blk_cell q2 0, blk_cell q3 0, blk_cell qg 0, blk_cell qg 1, blk_cell qg 2, blk_cell qg 3, blk_cell qg 4, blk_cell qg 5, blk_cell qg 6, blk_cell qg 7, blk_cell qg 8, blk_cell qg 9, blk_free q1 0⟩
set_option maxHeartbeats 3200000 in
set_option maxRecDepth 20000 in
theorem own_any (F A T S M : Nat) (hd : F ≠ A ∧ F ≠ T ∧ F ≠ S ∧ F ≠ M ∧ A ≠ T ∧ A ≠ S ∧ A ≠ M ∧ T ≠ S ∧ T ≠ M ∧ S ≠ M) (n y m d to' seen many : Int) (h : IsDate n y m d) (hn1 : 0 ≤ n) (hn2 : n < 146097) (ht : n ≤ to') (hs : 0 ≤ seen ∧ seen ≤ 1000) (hmn : 0 ≤ many ∧ many ≤ 255) (w : World) (hv : Vars F A T S M n to' seen many w) :
    Calls Try.prog 7 #[shapeV n y m d, .pointer (some ⟨F, 0, none⟩), .pointer (some ⟨A, 0, none⟩), .pointer (some ⟨T, 0, none⟩), .pointer (some ⟨S, 0, none⟩), .pointer (some ⟨M, 0, none⟩)] w fun e w' =>
      e = .returned (.bool (decide (seen + 1 ≤ many))) ∧ Vars F A T S M (n + 1) to' (seen + 1) many w' ∧ But (fun k => k = F ∨ k = A ∨ k = S) w w' := by
  obtain ⟨v1, v2, v3, v4, v5⟩ := hv
  obtain ⟨e1, e2, e3, e4, e5, e6, e7, e8, e9, e10⟩ := hd
  have c1 : w.cell? ⟨F, 0, none⟩ = some (.bool true) := blk_cell v1 0
  have c2 : w.cell? ⟨A, 0, none⟩ = some (.int .i64 n) := blk_cell v2 0
  have c3 : w.cell? ⟨T, 0, none⟩ = some (.int .i64 to') := blk_cell v3 0
  have l1 := lt_of_block v1
  have l2 := lt_of_block v2
  have l3 := lt_of_block v3
  have l4 := lt_of_block v4
  have l5 := lt_of_block v5
  have KS0 := fun w => rshape_ok n y m d w h hn1 hn2
  obtain ⟨a1, a2, a3, a4, a5, a6, a7, a8, a9, hsv⟩ : ∃ a1 a2 a3 a4 a5 a6 a7 a8 a9 : Int, shapeV n y m d = .agg #[.int .i64 n, .int .i64 a1, .int .i64 a2, .int .i64 a3, .int .i64 a4, .int .i64 a5, .int .i64 a6, .int .i64 a7, .int .i64 a8, .int .i64 a9] := ⟨_, _, _, _, _, _, _, _, _, rfl⟩
  rw [hsv] at KS0 ⊢
  clear hsv
  have KS := Lib.hid KS0
  have i1 : (if 0 < n then n else 0) = n := by split <;> omega
  have i2 : (if n < 146096 then n else 146096) = n := by split <;> omega
  clear KS0
  have HG := Lib.hid (blk_new w (.cells #[.int .i64 n, .int .i64 a1, .int .i64 a2, .int .i64 a3, .int .i64 a4, .int .i64 a5, .int .i64 a6, .int .i64 a7, .int .i64 a8, .int .i64 a9] 23))
  have H1 := Lib.hid (blk_more v1 (.cells #[.int .i64 n, .int .i64 a1, .int .i64 a2, .int .i64 a3, .int .i64 a4, .int .i64 a5, .int .i64 a6, .int .i64 a7, .int .i64 a8, .int .i64 a9] 23))
  have H2 := Lib.hid (blk_more v2 (.cells #[.int .i64 n, .int .i64 a1, .int .i64 a2, .int .i64 a3, .int .i64 a4, .int .i64 a5, .int .i64 a6, .int .i64 a7, .int .i64 a8, .int .i64 a9] 23))
  have H3 := Lib.hid (blk_more v3 (.cells #[.int .i64 n, .int .i64 a1, .int .i64 a2, .int .i64 a3, .int .i64 a4, .int .i64 a5, .int .i64 a6, .int .i64 a7, .int .i64 a8, .int .i64 a9] 23))
  have H4 := Lib.hid (blk_more v4 (.cells #[.int .i64 n, .int .i64 a1, .int .i64 a2, .int .i64 a3, .int .i64 a4, .int .i64 a5, .int .i64 a6, .int .i64 a7, .int .i64 a8, .int .i64 a9] 23))
  have H5 := Lib.hid (blk_more v5 (.cells #[.int .i64 n, .int .i64 a1, .int .i64 a2, .int .i64 a3, .int .i64 a4, .int .i64 a5, .int .i64 a6, .int .i64 a7, .int .i64 a8, .int .i64 a9] 23))
  have HB := Lib.hid (show Below w.heap.size w (w.alloc (.cells #[.int .i64 n, .int .i64 a1, .int .i64 a2, .int .i64 a3, .int .i64 a4, .int .i64 a5, .int .i64 a6, .int .i64 a7, .int .i64 a8, .int .i64 a9] 23)) from (Below.refl _ _).alloc (Nat.le_refl _) _)
  have d1 : decide (n ≤ to') = true := decide_eq_true ht
  have d2 : decide (n ≤ 146096) = true := decide_eq_true (by omega)
  clear h v1 v2 v3 v4 v5
  obtain ⟨W0, hW0⟩ : ∃ W0, w.alloc (.cells #[.int .i64 n, .int .i64 a1, .int .i64 a2, .int .i64 a3, .int .i64 a4, .int .i64 a5, .int .i64 a6, .int .i64 a7, .int .i64 a8, .int .i64 a9] 23) = W0 := ⟨_, rfl⟩
  rw [hW0] at HG H1 H2 H3 H4 H5 HB
  have HMK := Lib.hid (fun (X : World) (hb : But (fun k => k = F) W0 X) (hF : X.heap[F]? = some (.cells #[.bool true] 4 (0, 0))) => sh_mk (A := A) (T := T) (Ne.symm e1) (Ne.symm e2) (show w.heap.size ≠ F by omega) H2.out H3.out HG.out hb hF)
  have HS := HMK.out W0.drew (But.refl _ _).drew H1.out
  have hgd := guard_shape
  go_enter Try.func7, Try.ntmps7
  go_wp2_with fail
  try rw [hW0]
  clear hW0 c1 c2 c3
  go_region_held3 (fun w' => But (fun k => k = F) W0 w' ∧ w'.heap[F]? = some (.cells #[.bool true] 4 (0, 0)) ∧ w'.cell? ⟨F, 0, none⟩ = some (.bool true) ∧ w'.cell? ⟨A, 0, none⟩ = some (.int .i64 n) ∧ w'.cell? ⟨T, 0, none⟩ = some (.int .i64 to') ∧ w'.cell? ⟨w.heap.size, 0, none⟩ = some (.int .i64 n) ∧ w'.cell? ⟨w.heap.size, 1, none⟩ = some (.int .i64 a1) ∧ w'.cell? ⟨w.heap.size, 2, none⟩ = some (.int .i64 a2) ∧ w'.cell? ⟨w.heap.size, 3, none⟩ = some (.int .i64 a3) ∧ w'.cell? ⟨w.heap.size, 4, none⟩ = some (.int .i64 a4) ∧ w'.cell? ⟨w.heap.size, 5, none⟩ = some (.int .i64 a5) ∧ w'.cell? ⟨w.heap.size, 6, none⟩ = some (.int .i64 a6) ∧ w'.cell? ⟨w.heap.size, 7, none⟩ = some (.int .i64 a7) ∧ w'.cell? ⟨w.heap.size, 8, none⟩ = some (.int .i64 a8) ∧ w'.cell? ⟨w.heap.size, 9, none⟩ = some (.int .i64 a9) ∧ w'.frozen? ⟨F, 0, none⟩ = false) (first | exact HS | exact hSw | exact sh_store HMK.out hSw | exact HMK.out _ ((sh_but (by assumption)).trans (But.of_below (by assumption))) ((Below.block (by assumption) _ (lt_of_block (sh_f (by assumption)))).trans (sh_f (by assumption)))) ((go_at_call 5; with_reducible refine (KS.out _).mono ?_; rintro e w2 ⟨rfl, hb⟩; have hSw := HMK.out w2 ((sh_but (by assumption)).trans (But.of_below hb)) ((hb.block _ (lt_of_block (sh_f (by assumption)))).trans (sh_f (by assumption))); have hS2 := hSw; obtain ⟨hbS, hF2, s1, s2, s3, x0, x1, x2, x3, x4, x5, x6, x7, x8, x9, z1⟩ := hS2))
  have HB3 := Lib.hid (show But (fun k => k = F) W0 (w2.setCell ⟨F, 0, none⟩ (.bool true)) from hbS.setCell (.inr rfl) _)
  have K1 := Lib.hid (show (w2.setCell ⟨F, 0, none⟩ (.bool true)).heap[F]? = some (.cells #[.bool true] 4 (0, 0)) from blk_put hF2 0 _)
  obtain ⟨W3, hW3⟩ : ∃ W3, w2.setCell ⟨F, 0, none⟩ (.bool true) = W3 := ⟨_, rfl⟩
  rw [hW3] at HB3 K1 ⊢
  clear hW3 hSw hbS hF2 s1 s2 s3 x0 x1 x2 x3 x4 x5 x6 x7 x8 x9 z1 HS HMK KS
  have b2 := HB3.out.blk H2.out (Ne.symm e1)
  have b3 := HB3.out.blk H3.out (Ne.symm e2)
  have b4 := HB3.out.blk H4.out (Ne.symm e3)
  have b5 := HB3.out.blk H5.out (Ne.symm e4)
  have k2 : W3.cell? ⟨A, 0, none⟩ = some (.int .i64 n) := blk_cell b2 0
  have k4 : W3.cell? ⟨S, 0, none⟩ = some (.int .i64 seen) := blk_cell b4 0
  have k5 : W3.cell? ⟨M, 0, none⟩ = some (.int .u8 many) := blk_cell b5 0
  have z2 := blk_free b2 0
  have z4 := blk_free b4 0
  have B2 := Lib.hid b2
  have B3 := Lib.hid b3
  have B4 := Lib.hid b4
  have B5 := Lib.hid b5
  obtain ⟨s1, s2⟩ := hs
  obtain ⟨q1, q2⟩ := hmn
  clear b2 b3 b4 b5
  go_wp2
  go_ret
  refine ⟨rfl, ⟨?_, ?_, ?_, ?_, ?_⟩, ?_⟩
  · exact blk_else (blk_else K1.out ⟨A, 0, none⟩ e1 _) ⟨S, 0, none⟩ e3 _
  · exact blk_else (blk_put B2.out 0 _) ⟨S, 0, none⟩ e6 _
  · exact blk_else (blk_else B3.out ⟨A, 0, none⟩ (Ne.symm e5) _) ⟨S, 0, none⟩ e8 _
  · exact blk_put (blk_else B4.out ⟨A, 0, none⟩ (Ne.symm e6) _) 0 _
  · exact blk_else (blk_else B5.out ⟨A, 0, none⟩ (Ne.symm e7) _) ⟨S, 0, none⟩ (Ne.symm e10) _
  · exact (((But.of_below HB.out).trans (HB3.out.mono fun k _ hk => .inl hk)).setCell (.inr (.inr (.inl rfl))) _).setCell (.inr (.inr (.inr rfl))) _
end Go.Proofs.Ytediadckcpedkaa
