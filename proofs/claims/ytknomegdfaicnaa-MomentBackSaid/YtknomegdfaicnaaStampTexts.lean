/- Contracts of the document's texts of instants (layer 8). -/
import Derived.Test.YtknomegdfaicnaaStampRef
import Derived.Deep.RegionHeld3
namespace Go.Proofs.Ytknomegdfaicnaa
open Go.RowKit Civ

theorem bytesOf_const (l : List UInt8) (c : UInt8) : bytesOf' l ++ ByteArray.mk #[c] = bytesOf' (l ++ [c]) := bytesOf_append l [c]
attribute [local simp] bytesOf_size bytesOf_append bytesOf_const
/-- the stamp's box in a world of the region -/
structure St (W0 X : World) (g : Nat) (y m d hh hm hs : Int) : Prop where
  b : Below W0.heap.size W0 X
  g0 : X.cell? ⟨g, 0, none⟩ = some (.int .i64 y)
  g1 : X.cell? ⟨g, 1, none⟩ = some (.int .i64 m)
  g2 : X.cell? ⟨g, 2, none⟩ = some (.int .i64 d)
  g3 : X.cell? ⟨g, 3, none⟩ = some (.int .i64 hh)
  g4 : X.cell? ⟨g, 4, none⟩ = some (.int .i64 hm)
  g5 : X.cell? ⟨g, 5, none⟩ = some (.int .i64 hs)
theorem St.start (w : World) (y m d hh hm hs : Int) : St (w.alloc (.cells #[.int .i64 y, .int .i64 m, .int .i64 d, .int .i64 hh, .int .i64 hm, .int .i64 hs] 45)) (w.alloc (.cells #[.int .i64 y, .int .i64 m, .int .i64 d, .int .i64 hh, .int .i64 hm, .int .i64 hs] 45)) w.heap.size y m d hh hm hs :=
  ⟨Below.refl _ _, cell_of_row _ _ 0 _ _ _ (heap_alloc_new _ _), cell_of_row _ _ 1 _ _ _ (heap_alloc_new _ _), cell_of_row _ _ 2 _ _ _ (heap_alloc_new _ _), cell_of_row _ _ 3 _ _ _ (heap_alloc_new _ _), cell_of_row _ _ 4 _ _ _ (heap_alloc_new _ _), cell_of_row _ _ 5 _ _ _ (heap_alloc_new _ _)⟩
theorem St.drew {W0 X : World} {g : Nat} {y m d hh hm hs : Int} (H : St W0 X g y m d hh hm hs) : St W0 X.drew g y m d hh hm hs := ⟨H.b.drew, H.g0, H.g1, H.g2, H.g3, H.g4, H.g5⟩
theorem St.keep {W0 X Y : World} {g : Nat} {y m d hh hm hs : Int} (hg : g < W0.heap.size) (hb : Below X.heap.size X Y) (H : St W0 X g y m d hh hm hs) : St W0 Y g y m d hh hm hs := by
  have hz := H.b.size
  have c : ∀ i v, X.cell? ⟨g, i, none⟩ = some v → Y.cell? ⟨g, i, none⟩ = some v := fun i v h => (hb.cell (p := ⟨g, i, none⟩) (by show g < _; omega)).trans h
  exact ⟨below_cut H.b hb, c _ _ H.g0, c _ _ H.g1, c _ _ H.g2, c _ _ H.g3, c _ _ H.g4, c _ _ H.g5⟩
theorem St.conj {W0 w' : World} {g : Nat} {y m d hh hm hs : Int} (H : St W0 w' g y m d hh hm hs) : Below W0.heap.size W0 w' ∧ w'.cell? ⟨g, 0, none⟩ = some (.int .i64 y) ∧ w'.cell? ⟨g, 1, none⟩ = some (.int .i64 m) ∧ w'.cell? ⟨g, 2, none⟩ = some (.int .i64 d) ∧ w'.cell? ⟨g, 3, none⟩ = some (.int .i64 hh) ∧ w'.cell? ⟨g, 4, none⟩ = some (.int .i64 hm) ∧ w'.cell? ⟨g, 5, none⟩ = some (.int .i64 hs) := ⟨H.b, H.g0, H.g1, H.g2, H.g3, H.g4, H.g5⟩
theorem St.keepC {W0 X Y : World} {g : Nat} {y m d hh hm hs : Int} (hg : g < W0.heap.size) (hb : Below X.heap.size X Y) (H : Below W0.heap.size W0 X ∧ X.cell? ⟨g, 0, none⟩ = some (.int .i64 y) ∧ X.cell? ⟨g, 1, none⟩ = some (.int .i64 m) ∧ X.cell? ⟨g, 2, none⟩ = some (.int .i64 d) ∧ X.cell? ⟨g, 3, none⟩ = some (.int .i64 hh) ∧ X.cell? ⟨g, 4, none⟩ = some (.int .i64 hm) ∧ X.cell? ⟨g, 5, none⟩ = some (.int .i64 hs)) : Below W0.heap.size W0 Y ∧ Y.cell? ⟨g, 0, none⟩ = some (.int .i64 y) ∧ Y.cell? ⟨g, 1, none⟩ = some (.int .i64 m) ∧ Y.cell? ⟨g, 2, none⟩ = some (.int .i64 d) ∧ Y.cell? ⟨g, 3, none⟩ = some (.int .i64 hh) ∧ Y.cell? ⟨g, 4, none⟩ = some (.int .i64 hm) ∧ Y.cell? ⟨g, 5, none⟩ = some (.int .i64 hs) :=
  (St.keep hg hb ⟨H.1, H.2.1, H.2.2.1, H.2.2.2.1, H.2.2.2.2.1, H.2.2.2.2.2.1, H.2.2.2.2.2.2⟩).conj
end Go.Proofs.Ytknomegdfaicnaa
