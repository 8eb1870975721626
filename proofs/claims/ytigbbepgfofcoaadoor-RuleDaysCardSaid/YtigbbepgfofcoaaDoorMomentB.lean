/- Contracts of tod.below, tod.Parts, moment.Stamp and moment.written (layers 7, 8). -/
import Derived.Test.YtigbbepgfofcoaaDoorMoment
import Derived.Test.YtigbbepgfofcoaaDoorRefCivil
import Derived.Lib.ConvBytes
import Derived.Lib.AtoiErrMem
import Derived.Laws.BytesArg
namespace Go.Proofs.YtigbbepgfofcoaaDoor
open Go.RowKit Civ

theorem below_yes (n k : Int) (w : World) (h1 : 0 ≤ n) (h2 : n < k) : Calls Tryd.prog 105 #[.int .i64 n, .int .i64 k] w fun e w' => e = .returned (.bool true) ∧ w = w' := by
  go_enter Tryd.func105, Tryd.ntmps105
  go_wp2
  go_ret
  exact ⟨rfl, rfl⟩
theorem parts_yes (s : Int) (w : World) (h1 : 0 ≤ s) (h2 : s < 86400) : Calls Tryd.prog 100 #[.int .i64 s] w fun e w' => e = .returned (.tuple #[.int .i64 (s / 3600), .int .i64 (s / 60 % 60), .int .i64 (s % 60), .bool true]) ∧ w = w' := by
  go_enter Tryd.func100, Tryd.ntmps100
  go_wp2_with (go_at_call 105; refine (below_yes _ _ _ h1 h2).mono ?_; rintro e w' ⟨rfl, rfl⟩)
  exact bodyPost_ret (v := .tuple #[.int .i64 (s / 3600), .int .i64 (s / 60 % 60), .int .i64 (s % 60), .bool true]) (by simp [results, Tryd.results100, go_sem]) rfl ⟨rfl, rfl⟩
def stampV (y m d t : Int) : Value := .agg #[.int .i64 y, .int .i64 m, .int .i64 d, .int .i64 (t % 86400 / 3600), .int .i64 (t % 86400 / 60 % 60), .int .i64 (t % 60)]
theorem stamp_yes (t y m d : Int) (w : World) (h1 : 0 ≤ t) (h2 : t < 12622780800) (hd : IsDate (t / 86400) y m d) (hy : 0 ≤ y) (hy2 : y ≤ 9999) :
    Calls Tryd.prog 92 #[.int .i64 t] w fun e w' => e = .returned (.tuple #[stampV y m d t, .bool true]) ∧ Below w.heap.size w w' := by
  unfold stampV
  go_enter Tryd.func92, Tryd.ntmps92
  go_wp2_with (first | (go_at_call 69; refine (split_yes _ _ h1 h2).mono ?_; rintro e w' ⟨rfl, rfl⟩) | (go_at_call 99; refine (date_ok _ _ _ _ _ hd (by omega) (by omega)).mono ?_; rintro e w' ⟨rfl, rfl⟩) | (go_at_call 100; refine (parts_yes _ _ (by omega) (by omega)).mono ?_; rintro e w' ⟨rfl, rfl⟩))
  refine bodyPost_ret (v := .tuple #[.agg #[.int .i64 y, .int .i64 m, .int .i64 d, .int .i64 (t % 86400 / 3600), .int .i64 (t % 86400 / 60 % 60), .int .i64 (t % 60)], .bool true]) (by simp [results, Tryd.results92, go_sem]) rfl ⟨rfl, ?_⟩
  exact below_a1 _ _

/-- the bytes of a form -/
def formB (form : ByteArray) : List Int := form.data.toList.map fun b => (b.toNat : Int)
theorem bytesWorld_is (w : World) (form : ByteArray) : BytesIs (Lib.bytesWorld w 5 form) w.heap.size (formB form) := by
  have hz : (formB form).length = form.size := by unfold formB; rw [List.length_map, Array.length_toList]; rfl
  refine ⟨by rw [Lib.bytesWorld_size]; omega, fun j hj => ⟨?_, ?_⟩⟩
  · rw [Lib.bytesWorld_cell w 5 form j (by omega)]
    have hj' : j < form.data.toList.length := by simpa [formB] using hj
    simp [formB, List.getD, List.getElem?_eq_getElem hj']
  · have hs : form.size ≤ (Lib.bytesCells w 5 form).size := by simp [Lib.bytesCells]
    simp [World.frozen?, Lib.bytesWorld_at_new]
    omega
def putAll (form : ByteArray) (y m d hh hm hs : Int) : List Int :=
  let l := form.data.toList
  let z := form.size
  putG l 115 z hs (putG l 109 z hm (putG l 104 z hh (putG l 100 z d (putG l 110 z m (putG l 121 z y (formB form))))))
theorem formB_length (form : ByteArray) : (formB form).length = form.size := by unfold formB; rw [List.length_map, Array.length_toList]; rfl
/-- what holds in a world between the puts: the form's box, the stamp's box, the slice's box and its bytes -/
structure Wr (w X : World) (g cp : Nat) (form : ByteArray) (y m d hh hm hs : Int) (cs : List Int) : Prop where
  b : Below w.heap.size w X
  gf : X.cell? ⟨w.heap.size, 0, none⟩ = some (.string form)
  go : X.cell? ⟨g + 1 + 1, 0, none⟩ = some (.slice (some ⟨g + 1, 0, none⟩) form.size cp)
  g0 : X.cell? ⟨g, 0, none⟩ = some (.int .i64 y)
  g1 : X.cell? ⟨g, 1, none⟩ = some (.int .i64 m)
  g2 : X.cell? ⟨g, 2, none⟩ = some (.int .i64 d)
  g3 : X.cell? ⟨g, 3, none⟩ = some (.int .i64 hh)
  g4 : X.cell? ⟨g, 4, none⟩ = some (.int .i64 hm)
  g5 : X.cell? ⟨g, 5, none⟩ = some (.int .i64 hs)
  bs : BytesIs X (g + 1) cs
  len : cs.length = form.size
theorem Wr.put {w X X' : World} {g cp : Nat} {form : ByteArray} {y m d hh hm hs : Int} {cs : List Int} (H : Wr w X g cp form y m d hh hm hs cs) (hz : w.heap.size < g) (hg : X.grownBy X' (some (g + 1))) (c : Nat) (n : Int)
    (hb : BytesIs X' (g + 1) (putG form.data.toList c form.size n cs)) : Wr w X' g cp form y m d hh hm hs (putG form.data.toList c form.size n cs) := by
  obtain ⟨a1, a2, a3, a4, a5, a6, a7, a8, a9, a10, a11⟩ := H
  refine ⟨?_, hg.cell a2 (by simp; omega), hg.cell a3 (by simp), hg.cell a4 (by simp), hg.cell a5 (by simp), hg.cell a6 (by simp), hg.cell a7 (by simp), hg.cell a8 (by simp), hg.cell a9 (by simp), hb, by rw [putG_length]; exact a11⟩
  exact a1.grown hg a1.size (fun k e => by cases e; omega)
end Go.Proofs.YtigbbepgfofcoaaDoor
