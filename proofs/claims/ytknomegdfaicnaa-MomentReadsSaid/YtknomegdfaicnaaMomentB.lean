/- Contracts of tod.below, tod.Parts, moment.Stamp and moment.written (layers 7, 8). -/
import Derived.Test.YtknomegdfaicnaaMoment
import Derived.Test.YtknomegdfaicnaaRefCivil
import Derived.Lib.ConvBytes
import Derived.Lib.AtoiErrMem
import Derived.Laws.BytesArg
namespace Go.Proofs.Ytknomegdfaicnaa
open Go.RowKit Civ

theorem below_yes (n k : Int) (w : World) (h1 : 0 ≤ n) (h2 : n < k) : Calls Try.prog 78 #[.int .i64 n, .int .i64 k] w fun e w' => e = .returned (.bool true) ∧ w = w' := by
  go_enter Try.func78, Try.ntmps78
  go_wp2
  go_ret
  exact ⟨rfl, rfl⟩
theorem parts_yes (s : Int) (w : World) (h1 : 0 ≤ s) (h2 : s < 86400) : Calls Try.prog 55 #[.int .i64 s] w fun e w' => e = .returned (.tuple #[.int .i64 (s / 3600), .int .i64 (s / 60 % 60), .int .i64 (s % 60), .bool true]) ∧ w = w' := by
  go_enter Try.func55, Try.ntmps55
  go_wp2_with (go_at_call 78; refine (below_yes _ _ _ h1 h2).mono ?_; rintro e w' ⟨rfl, rfl⟩)
  exact bodyPost_ret (v := .tuple #[.int .i64 (s / 3600), .int .i64 (s / 60 % 60), .int .i64 (s % 60), .bool true]) (by simp [results, Try.results55, go_sem]) rfl ⟨rfl, rfl⟩
def stampV (y m d t : Int) : Value := .agg #[.int .i64 y, .int .i64 m, .int .i64 d, .int .i64 (t % 86400 / 3600), .int .i64 (t % 86400 / 60 % 60), .int .i64 (t % 60)]
theorem stamp_yes (t y m d : Int) (w : World) (h1 : 0 ≤ t) (h2 : t < 12622780800) (hd : IsDate (t / 86400) y m d) (hy : 0 ≤ y) (hy2 : y ≤ 9999) :
    Calls Try.prog 19 #[.int .i64 t] w fun e w' => e = .returned (.tuple #[stampV y m d t, .bool true]) ∧ Below w.heap.size w w' := by
  unfold stampV
  go_enter Try.func19, Try.ntmps19
  go_wp2_with (first | (go_at_call 17; refine (split_yes _ _ h1 h2).mono ?_; rintro e w' ⟨rfl, rfl⟩) | (go_at_call 37; refine (date_ok _ _ _ _ _ hd (by omega) (by omega)).mono ?_; rintro e w' ⟨rfl, rfl⟩) | (go_at_call 55; refine (parts_yes _ _ (by omega) (by omega)).mono ?_; rintro e w' ⟨rfl, rfl⟩))
  refine bodyPost_ret (v := .tuple #[.agg #[.int .i64 y, .int .i64 m, .int .i64 d, .int .i64 (t % 86400 / 3600), .int .i64 (t % 86400 / 60 % 60), .int .i64 (t % 60)], .bool true]) (by simp [results, Try.results19, go_sem]) rfl ⟨rfl, ?_⟩
  exact below_a1 _ _

/-- the bytes of a form -/
def formB (form : ByteArray) : List Int := form.data.toList.map fun b => (b.toNat : Int)
theorem bytesWorld_is (w : World) (form : ByteArray) : BytesIs (Lib.bytesWorld w 5 form) w.heap.size (formB form) := by
  have hz : (formB form).length = form.size := by unfold formB; rw [List.length_map, Array.length_toList]; rfl
  refine ⟨by rw [Lib.bytesWorld_size]; omega, fun j hj => ⟨?_, ?_⟩⟩
  · rw [Lib.bytesWorld_cell w 5 form j (by omega)]
    have hj' : j < form.data.toList.length := by simpa [formB] using hj
    simp [formB, List.getD, List.getElem?_eq_getElem hj']
  · have hs : form.size ≤ (Lib.bytesCells w 5 form).size := by simp [Lib.bytesCells]
    simp [World.frozen?, Lib.bytesWorld_at_new]
    omega
def putAll (form : ByteArray) (y m d hh hm hs : Int) : List Int :=
  let l := form.data.toList
  let z := form.size
  putG l 115 z hs (putG l 109 z hm (putG l 104 z hh (putG l 100 z d (putG l 110 z m (putG l 121 z y (formB form))))))
theorem formB_length (form : ByteArray) : (formB form).length = form.size := by unfold formB; rw [List.length_map, Array.length_toList]; rfl
/-- what holds in a world between the puts: the form's box, the stamp's box, the slice's box and its bytes -/
structure Wr (w X : World) (g cp : Nat) (form : ByteArray) (y m d hh hm hs : Int) (cs : List Int) : Prop where
  b : Below w.heap.size w X
  gf : X.cell? ⟨w.heap.size, 0, none⟩ = some (.string form)
  go : X.cell? ⟨g + 1 + 1, 0, none⟩ = some (.slice (some ⟨g + 1, 0, none⟩) form.size cp)
  g0 : X.cell? ⟨g, 0, none⟩ = some (.int .i64 y)
  g1 : X.cell? ⟨g, 1, none⟩ = some (.int .i64 m)
  g2 : X.cell? ⟨g, 2, none⟩ = some (.int .i64 d)
  g3 : X.cell? ⟨g, 3, none⟩ = some (.int .i64 hh)
  g4 : X.cell? ⟨g, 4, none⟩ = some (.int .i64 hm)
  g5 : X.cell? ⟨g, 5, none⟩ = some (.int .i64 hs)
  bs : BytesIs X (g + 1) cs
  len : cs.length = form.size
theorem Wr.put {w X X' : World} {g cp : Nat} {form : ByteArray} {y m d hh hm hs : Int} {cs : List Int} (H : Wr w X g cp form y m d hh hm hs cs) (hz : w.heap.size < g) (hg : X.grownBy X' (some (g + 1))) (c : Nat) (n : Int)
    (hb : BytesIs X' (g + 1) (putG form.data.toList c form.size n cs)) : Wr w X' g cp form y m d hh hm hs (putG form.data.toList c form.size n cs) := by
  obtain ⟨a1, a2, a3, a4, a5, a6, a7, a8, a9, a10, a11⟩ := H
  refine ⟨?_, hg.cell a2 (by simp; omega), hg.cell a3 (by simp), hg.cell a4 (by simp), hg.cell a5 (by simp), hg.cell a6 (by simp), hg.cell a7 (by simp), hg.cell a8 (by simp), hg.cell a9 (by simp), hb, by rw [putG_length]; exact a11⟩
  exact a1.grown hg a1.size (fun k e => by cases e; omega)
set_option maxHeartbeats 1600000 in
set_option maxRecDepth 100000 in
theorem written_any (form : ByteArray) (t y m d hh hm hs : Int) (w : World) (h1 : 0 ≤ t) (h2 : t < 12622780800) (hd : IsDate (t / 86400) y m d) (hy : 0 ≤ y) (hy2 : y ≤ 9999) (hl : form.size ≤ 100)
    (eh : t % 86400 / 3600 = hh) (em : t % 86400 / 60 % 60 = hm) (es : t % 60 = hs) :
    Calls Try.prog 58 #[.int .i64 t, .string form] w fun e w' => e = .returned (.string (strOfNums (putAll form y m d hh hm hs))) ∧ Below w.heap.size w w' := by
  have hst := fun w => stamp_yes t y m d w h1 h2 hd hy hy2
  unfold stampV at hst
  rw [eh, em, es] at hst
  have b1 : 0 ≤ m ∧ m ≤ 9999 := by have := hd.1; have := hd.2.1; omega
  have b2 : 0 ≤ d ∧ d ≤ 9999 := by have := hd.2.2.1; have := hd.2.2.2.1; have := len_bd y m hd.1 hd.2.1; omega
  have b3 : 0 ≤ hh ∧ hh ≤ 9999 := by omega
  have b4 : 0 ≤ hm ∧ hm ≤ 9999 := by omega
  have b5 : 0 ≤ hs ∧ hs ≤ 9999 := by omega
  clear eh em es hd h1 h2
  go_enter Try.func58, Try.ntmps58
  go_wp2_with fail
  refine (hst _).mono ?_
  rintro e w1 ⟨rfl, hb⟩
  have hf : w1.cell? ⟨w.heap.size, 0, none⟩ = some (.string form) := (hb.cell (p := ⟨w.heap.size, 0, none⟩) (by simp)).trans (cell_new w _ 9 0)
  have hz : w.heap.size < w1.heap.size := by have := hb.size; simp at this; omega
  clear hst
  obtain ⟨W, hW⟩ : ∃ W, W = w1.alloc (.cells #[.int .i64 y, .int .i64 m, .int .i64 d, .int .i64 hh, .int .i64 hm, .int .i64 hs] 45) := ⟨_, rfl⟩
  have hWz : W.heap.size = w1.heap.size + 1 := by rw [hW]; simp
  have hcv := Lib.run_convert_string_bytes (P := Try.prog) W 9 63 5 form (u := .string) (by kernel_rfl) (by kernel_rfl) (by kernel_rfl)
  have hbs := bytesWorld_is W form
  have hbz := Lib.bytesWorld_size W 5 form
  have hold := fun a => Lib.bytesWorld_old W 5 form a
  have hbe : Below w.heap.size w (Lib.bytesWorld W 5 form) := by
    have x1 : Below w.heap.size w w1 := ((below_a1 w (.cells #[.string form] 9)).trans (hb.mono (by simp)))
    have x2 : Below w.heap.size w W := by rw [hW]; exact x1.alloc (by omega) _
    exact x2.trans ((Lib.bytesWorld_below W 5 form).mono (by omega))
  rw [hWz] at hcv hbs hbz
  have hcp : ∃ cp, cp = grownCap W form.size 0 5 := ⟨_, rfl⟩
  obtain ⟨cp, ecp⟩ := hcp
  rw [← ecp] at hcv
  clear ecp
  obtain ⟨W2, hW2⟩ : ∃ W2, W2 = Lib.bytesWorld W 5 form := ⟨_, rfl⟩
  rw [← hW2] at hcv hbs hbz hbe
  have g0 : W2.cell? ⟨w1.heap.size, 0, none⟩ = some (.int .i64 y) := by rw [hW2, hold _ (by show w1.heap.size < _; omega), hW]; exact cell_of_row _ _ 0 _ _ _ (heap_alloc_new _ _)
  have g1 : W2.cell? ⟨w1.heap.size, 1, none⟩ = some (.int .i64 m) := by rw [hW2, hold _ (by show w1.heap.size < _; omega), hW]; exact cell_of_row _ _ 1 _ _ _ (heap_alloc_new _ _)
  have g2 : W2.cell? ⟨w1.heap.size, 2, none⟩ = some (.int .i64 d) := by rw [hW2, hold _ (by show w1.heap.size < _; omega), hW]; exact cell_of_row _ _ 2 _ _ _ (heap_alloc_new _ _)
  have g3 : W2.cell? ⟨w1.heap.size, 3, none⟩ = some (.int .i64 hh) := by rw [hW2, hold _ (by show w1.heap.size < _; omega), hW]; exact cell_of_row _ _ 3 _ _ _ (heap_alloc_new _ _)
  have g4 : W2.cell? ⟨w1.heap.size, 4, none⟩ = some (.int .i64 hm) := by rw [hW2, hold _ (by show w1.heap.size < _; omega), hW]; exact cell_of_row _ _ 4 _ _ _ (heap_alloc_new _ _)
  have g5 : W2.cell? ⟨w1.heap.size, 5, none⟩ = some (.int .i64 hs) := by rw [hW2, hold _ (by show w1.heap.size < _; omega), hW]; exact cell_of_row _ _ 5 _ _ _ (heap_alloc_new _ _)
  have gf : W2.cell? ⟨w.heap.size, 0, none⟩ = some (.string form) := by rw [hW2, hold _ (by show w.heap.size < _; omega), hW]; exact (((Below.refl w1.heap.size w1).alloc (Nat.le_refl _) _).cell hz).trans hf
  clear hW2 hold
  rw [hW] at hcv
  clear hW
  go_wp2_with fail
  have H : Wr w (W2.alloc (.cells #[.slice (some ⟨w1.heap.size + 1, 0, none⟩) form.size cp] 63)) w1.heap.size cp form y m d hh hm hs (formB form) := by
    have ha : Below W2.heap.size W2 (W2.alloc (.cells #[.slice (some ⟨w1.heap.size + 1, 0, none⟩) form.size cp] 63)) := below_a1 _ _
    refine ⟨hbe.trans (ha.mono hbe.size), (ha.cell (p := ⟨w.heap.size, 0, none⟩) (by simp; omega)).trans gf, ?_, (ha.cell (p := ⟨w1.heap.size, 0, none⟩) (by simp; omega)).trans g0, (ha.cell (p := ⟨w1.heap.size, 1, none⟩) (by simp; omega)).trans g1, (ha.cell (p := ⟨w1.heap.size, 2, none⟩) (by simp; omega)).trans g2, (ha.cell (p := ⟨w1.heap.size, 3, none⟩) (by simp; omega)).trans g3, (ha.cell (p := ⟨w1.heap.size, 4, none⟩) (by simp; omega)).trans g4, (ha.cell (p := ⟨w1.heap.size, 5, none⟩) (by simp; omega)).trans g5, ?_, formB_length form⟩
    · have := heap_alloc_new W2 (.cells #[.slice (some ⟨w1.heap.size + 1, 0, none⟩) form.size cp] 63)
      rw [hbz] at this
      exact cell_of_row _ _ 0 _ _ _ this
    · obtain ⟨x1, x2⟩ := hbs
      refine ⟨by simp; omega, fun j hj => ⟨(ha.cell (p := ⟨w1.heap.size + 1, j, none⟩) (by simp; omega)).trans (x2 j hj).1, (ha.frozen (p := ⟨w1.heap.size + 1, j, none⟩) (by simp; omega)).trans (x2 j hj).2⟩⟩
  clear hcv gf g0 g1 g2 g3 g4 g5 hbs hbz hbe hf hb hWz
  refine (put_any 121 y _ _ _ cp form _ _ H.go H.gf (by omega) (by omega) H.bs H.len hl hy hy2).mono ?_
  rintro e X1 ⟨rfl, hg1, hb1⟩
  replace H := H.put hz hg1 _ _ hb1
  clear hg1 hb1
  have q1 := H.g1
  go_wp2_with fail
  refine (put_any 110 m _ _ _ cp form _ _ H.go H.gf (by omega) (by omega) H.bs H.len hl b1.1 b1.2).mono ?_
  clear q1
  rintro e X2 ⟨rfl, hg1, hb1⟩
  replace H := H.put hz hg1 _ _ hb1
  clear hg1 hb1
  have q1 := H.g2
  go_wp2_with fail
  refine (put_any 100 d _ _ _ cp form _ _ H.go H.gf (by omega) (by omega) H.bs H.len hl b2.1 b2.2).mono ?_
  clear q1
  rintro e X3 ⟨rfl, hg1, hb1⟩
  replace H := H.put hz hg1 _ _ hb1
  clear hg1 hb1
  have q1 := H.g3
  go_wp2_with fail
  refine (put_any 104 hh _ _ _ cp form _ _ H.go H.gf (by omega) (by omega) H.bs H.len hl b3.1 b3.2).mono ?_
  clear q1
  rintro e X4 ⟨rfl, hg1, hb1⟩
  replace H := H.put hz hg1 _ _ hb1
  clear hg1 hb1
  have q1 := H.g4
  go_wp2_with fail
  refine (put_any 109 hm _ _ _ cp form _ _ H.go H.gf (by omega) (by omega) H.bs H.len hl b4.1 b4.2).mono ?_
  clear q1
  rintro e X5 ⟨rfl, hg1, hb1⟩
  replace H := H.put hz hg1 _ _ hb1
  clear hg1 hb1
  have q1 := H.g5
  go_wp2_with fail
  refine (put_any 115 hs _ _ _ cp form _ _ H.go H.gf (by omega) (by omega) H.bs H.len hl b5.1 b5.2).mono ?_
  clear q1
  rintro e X6 ⟨rfl, hg1, hb1⟩
  replace H := H.put hz hg1 _ _ hb1
  clear hg1 hb1
  have q1 := H.go
  have hback := run_convert_bytes_arg (P := Try.prog) X6 63 5 (by kernel_rfl) (by kernel_rfl) (w1.heap.size + 1) 0 form.size cp (putAll form y m d hh hm hs) H.len (fun i hi => by rw [Nat.zero_add, (H.bs.2 i (by rw [H.len]; exact hi)).1]; simp [List.getD]; rfl) 9 (by kernel_rfl)
  go_wp2
  go_ret
  exact ⟨rfl, H.b⟩
end Go.Proofs.Ytknomegdfaicnaa
