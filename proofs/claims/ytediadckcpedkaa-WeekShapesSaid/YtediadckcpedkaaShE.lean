/- What week.Days' iterator tells to the law's own function (layer 6). -/
import Derived.Test.YtediadckcpedkaaShD
namespace Go.Proofs.Ytediadckcpedkaa
open Go.RowKit Civ
set_option linter.unusedVariables false

theorem World_size_le {w : World} {o : Obj} {k : Nat} (h : k < w.heap.size) : k < (w.alloc o).heap.size := by simp; omega
/-- how far the loop has gone: n is the day at hand -/
def Goes (F A T S M PF PT g gA gL : Nat) (n0 to' top many : Int) (w : World) (wr : World) : Prop := ∃ n y m d : Int, n0 ≤ n ∧ n ≤ top ∧ IsDate n y m d ∧ n - n0 ≤ many ∧ Vars F A T S M n to' (n - n0) many wr ∧ Knows gA gL y m d wr ∧ (∃ a1 a2 a3 a4 a5 a6 a7 a8 a9 : Int, shapeV n y m d = .agg #[.int .i64 n, .int .i64 a1, .int .i64 a2, .int .i64 a3, .int .i64 a4, .int .i64 a5, .int .i64 a6, .int .i64 a7, .int .i64 a8, .int .i64 a9] ∧
  wr.heap[g]? = some (.cells #[.int .i64 n, .int .i64 a1, .int .i64 a2, .int .i64 a3, .int .i64 a4, .int .i64 a5, .int .i64 a6, .int .i64 a7, .int .i64 a8, .int .i64 a9] 23 (0, 0))) ∧
  wr.heap[PT]? = some (.cells #[.int .i64 top] 2 (0, 0)) ∧ But (fun k => k = F ∨ k = A ∨ k = S ∨ w.heap.size ≤ k) w wr
/-- the end: so many have been told -/
def Told (F A T S M : Nat) (n0 to' top many : Int) (w' : World) : Prop := ∃ n : Int, n0 ≤ n ∧ n ≤ top + 1 ∧ n - n0 ≤ many + 1 ∧ (n = top + 1 ∨ n - n0 = many + 1) ∧ Vars F A T S M n to' (n - n0) many w'
theorem but_out {F A S B : Nat} {w wr w3 : World} (h : But (fun k => k = F ∨ k = A ∨ k = S ∨ B ≤ k) w wr) (h3 : But (fun k => k = F ∨ k = A ∨ k = S) wr w3) : But (fun k => k = F ∨ k = A ∨ k = S ∨ B ≤ k) w w3 := h.trans (h3.mono fun k _ hk => by
  rcases hk with h | h | h
  · exact .inl h
  · exact .inr (.inl h)
  · exact .inr (.inr (.inl h)))
theorem but_high {F A S B : Nat} {w wr w3 : World} {X : Nat → Prop} (h : But (fun k => k = F ∨ k = A ∨ k = S ∨ B ≤ k) w wr) (h3 : But X wr w3) (hX : ∀ k, X k → B ≤ k) : But (fun k => k = F ∨ k = A ∨ k = S ∨ B ≤ k) w w3 := h.trans (h3.mono fun k _ hk => .inr (.inr (.inr (hX k hk))))
theorem but_in {F A S : Nat} {w w3 : World} (h : But (fun k => k = F ∨ k = A ∨ k = S ∨ w.heap.size ≤ k) w w3) : But (fun k => k = F ∨ k = A ∨ k = S) w w3 := h.mono fun k hk hx => by
  rcases hx with h | h | h | h
  · exact .inl h
  · exact .inr (.inl h)
  · exact .inr (.inr h)
  · omega
theorem vars_but {F A T S M : Nat} {a t s m : Int} {w w' : World} {X : Nat → Prop} (h : Vars F A T S M a t s m w) (hb : But X w w') (h1 : ¬ X F) (h2 : ¬ X A) (h3 : ¬ X T) (h4 : ¬ X S) (h5 : ¬ X M) : Vars F A T S M a t s m w' := ⟨hb.blk h.1 h1, hb.blk h.2.1 h2, hb.blk h.2.2.1 h3, hb.blk h.2.2.2.1 h4, hb.blk h.2.2.2.2 h5⟩
theorem lt_meas {w w' : World} {p : Addr} {a b : Int} (h : w.cell? p = some (.int .i64 a)) (h' : w'.cell? p = some (.int .i64 b)) (hl : a < b) (hb : a < 300) : (300 - intOf ((w'.cell? p).getD (.int .i64 0))).toNat < (300 - intOf ((w.cell? p).getD (.int .i64 0))).toNat := by
  rw [h, h']
  show (300 - b).toNat < (300 - a).toNat
  omega
theorem put10 {w : World} {g : Nat} {u0 u1 u2 u3 u4 u5 u6 u7 u8 u9 b0 b1 b2 b3 b4 b5 b6 b7 b8 b9 : Value} {t : TypeId} (h : w.heap[g]? = some (.cells #[u0, u1, u2, u3, u4, u5, u6, u7, u8, u9] t (0, 0))) :
    ((((((((((w.setCell ⟨g, 0, none⟩ b0).setCell ⟨g, 1, none⟩ b1).setCell ⟨g, 2, none⟩ b2).setCell ⟨g, 3, none⟩ b3).setCell ⟨g, 4, none⟩ b4).setCell ⟨g, 5, none⟩ b5).setCell ⟨g, 6, none⟩ b6).setCell ⟨g, 7, none⟩ b7).setCell ⟨g, 8, none⟩ b8).setCell ⟨g, 9, none⟩ b9).heap[g]? = some (.cells #[b0, b1, b2, b3, b4, b5, b6, b7, b8, b9] t (0, 0)) ∧ But (fun k => k = g) w ((((((((((w.setCell ⟨g, 0, none⟩ b0).setCell ⟨g, 1, none⟩ b1).setCell ⟨g, 2, none⟩ b2).setCell ⟨g, 3, none⟩ b3).setCell ⟨g, 4, none⟩ b4).setCell ⟨g, 5, none⟩ b5).setCell ⟨g, 6, none⟩ b6).setCell ⟨g, 7, none⟩ b7).setCell ⟨g, 8, none⟩ b8).setCell ⟨g, 9, none⟩ b9) := by
  have h0 : (w.setCell ⟨g, 0, none⟩ b0).heap[g]? = some (.cells #[b0, u1, u2, u3, u4, u5, u6, u7, u8, u9] t (0, 0)) := by
    have q := blk_put h 0 b0
    simpa using q
  have h1 : ((w.setCell ⟨g, 0, none⟩ b0).setCell ⟨g, 1, none⟩ b1).heap[g]? = some (.cells #[b0, b1, u2, u3, u4, u5, u6, u7, u8, u9] t (0, 0)) := by
    have q := blk_put h0 1 b1
    simpa using q
  have h2 : (((w.setCell ⟨g, 0, none⟩ b0).setCell ⟨g, 1, none⟩ b1).setCell ⟨g, 2, none⟩ b2).heap[g]? = some (.cells #[b0, b1, b2, u3, u4, u5, u6, u7, u8, u9] t (0, 0)) := by
    have q := blk_put h1 2 b2
    simpa using q
  have h3 : ((((w.setCell ⟨g, 0, none⟩ b0).setCell ⟨g, 1, none⟩ b1).setCell ⟨g, 2, none⟩ b2).setCell ⟨g, 3, none⟩ b3).heap[g]? = some (.cells #[b0, b1, b2, b3, u4, u5, u6, u7, u8, u9] t (0, 0)) := by
    have q := blk_put h2 3 b3
    simpa using q
  have h4 : (((((w.setCell ⟨g, 0, none⟩ b0).setCell ⟨g, 1, none⟩ b1).setCell ⟨g, 2, none⟩ b2).setCell ⟨g, 3, none⟩ b3).setCell ⟨g, 4, none⟩ b4).heap[g]? = some (.cells #[b0, b1, b2, b3, b4, u5, u6, u7, u8, u9] t (0, 0)) := by
    have q := blk_put h3 4 b4
    simpa using q
  have h5 : ((((((w.setCell ⟨g, 0, none⟩ b0).setCell ⟨g, 1, none⟩ b1).setCell ⟨g, 2, none⟩ b2).setCell ⟨g, 3, none⟩ b3).setCell ⟨g, 4, none⟩ b4).setCell ⟨g, 5, none⟩ b5).heap[g]? = some (.cells #[b0, b1, b2, b3, b4, b5, u6, u7, u8, u9] t (0, 0)) := by
    have q := blk_put h4 5 b5
    simpa using q
  have h6 : (((((((w.setCell ⟨g, 0, none⟩ b0).setCell ⟨g, 1, none⟩ b1).setCell ⟨g, 2, none⟩ b2).setCell ⟨g, 3, none⟩ b3).setCell ⟨g, 4, none⟩ b4).setCell ⟨g, 5, none⟩ b5).setCell ⟨g, 6, none⟩ b6).heap[g]? = some (.cells #[b0, b1, b2, b3, b4, b5, b6, u7, u8, u9] t (0, 0)) := by
    have q := blk_put h5 6 b6
    simpa using q
  have h7 : ((((((((w.setCell ⟨g, 0, none⟩ b0).setCell ⟨g, 1, none⟩ b1).setCell ⟨g, 2, none⟩ b2).setCell ⟨g, 3, none⟩ b3).setCell ⟨g, 4, none⟩ b4).setCell ⟨g, 5, none⟩ b5).setCell ⟨g, 6, none⟩ b6).setCell ⟨g, 7, none⟩ b7).heap[g]? = some (.cells #[b0, b1, b2, b3, b4, b5, b6, b7, u8, u9] t (0, 0)) := by
    have q := blk_put h6 7 b7
    simpa using q
  have h8 : (((((((((w.setCell ⟨g, 0, none⟩ b0).setCell ⟨g, 1, none⟩ b1).setCell ⟨g, 2, none⟩ b2).setCell ⟨g, 3, none⟩ b3).setCell ⟨g, 4, none⟩ b4).setCell ⟨g, 5, none⟩ b5).setCell ⟨g, 6, none⟩ b6).setCell ⟨g, 7, none⟩ b7).setCell ⟨g, 8, none⟩ b8).heap[g]? = some (.cells #[b0, b1, b2, b3, b4, b5, b6, b7, b8, u9] t (0, 0)) := by
    have q := blk_put h7 8 b8
    simpa using q
  have h9 : ((((((((((w.setCell ⟨g, 0, none⟩ b0).setCell ⟨g, 1, none⟩ b1).setCell ⟨g, 2, none⟩ b2).setCell ⟨g, 3, none⟩ b3).setCell ⟨g, 4, none⟩ b4).setCell ⟨g, 5, none⟩ b5).setCell ⟨g, 6, none⟩ b6).setCell ⟨g, 7, none⟩ b7).setCell ⟨g, 8, none⟩ b8).setCell ⟨g, 9, none⟩ b9).heap[g]? = some (.cells #[b0, b1, b2, b3, b4, b5, b6, b7, b8, b9] t (0, 0)) := by
    have q := blk_put h8 9 b9
    simpa using q
  have c0 : But (fun k => k = g) w (w.setCell ⟨g, 0, none⟩ b0) := (But.refl (fun k => k = g) w).setCell (.inr rfl) _
  have c1 : But (fun k => k = g) w ((w.setCell ⟨g, 0, none⟩ b0).setCell ⟨g, 1, none⟩ b1) := (c0).setCell (.inr rfl) _
  have c2 : But (fun k => k = g) w (((w.setCell ⟨g, 0, none⟩ b0).setCell ⟨g, 1, none⟩ b1).setCell ⟨g, 2, none⟩ b2) := (c1).setCell (.inr rfl) _
  have c3 : But (fun k => k = g) w ((((w.setCell ⟨g, 0, none⟩ b0).setCell ⟨g, 1, none⟩ b1).setCell ⟨g, 2, none⟩ b2).setCell ⟨g, 3, none⟩ b3) := (c2).setCell (.inr rfl) _
  have c4 : But (fun k => k = g) w (((((w.setCell ⟨g, 0, none⟩ b0).setCell ⟨g, 1, none⟩ b1).setCell ⟨g, 2, none⟩ b2).setCell ⟨g, 3, none⟩ b3).setCell ⟨g, 4, none⟩ b4) := (c3).setCell (.inr rfl) _
  have c5 : But (fun k => k = g) w ((((((w.setCell ⟨g, 0, none⟩ b0).setCell ⟨g, 1, none⟩ b1).setCell ⟨g, 2, none⟩ b2).setCell ⟨g, 3, none⟩ b3).setCell ⟨g, 4, none⟩ b4).setCell ⟨g, 5, none⟩ b5) := (c4).setCell (.inr rfl) _
  have c6 : But (fun k => k = g) w (((((((w.setCell ⟨g, 0, none⟩ b0).setCell ⟨g, 1, none⟩ b1).setCell ⟨g, 2, none⟩ b2).setCell ⟨g, 3, none⟩ b3).setCell ⟨g, 4, none⟩ b4).setCell ⟨g, 5, none⟩ b5).setCell ⟨g, 6, none⟩ b6) := (c5).setCell (.inr rfl) _
  have c7 : But (fun k => k = g) w ((((((((w.setCell ⟨g, 0, none⟩ b0).setCell ⟨g, 1, none⟩ b1).setCell ⟨g, 2, none⟩ b2).setCell ⟨g, 3, none⟩ b3).setCell ⟨g, 4, none⟩ b4).setCell ⟨g, 5, none⟩ b5).setCell ⟨g, 6, none⟩ b6).setCell ⟨g, 7, none⟩ b7) := (c6).setCell (.inr rfl) _
  have c8 : But (fun k => k = g) w (((((((((w.setCell ⟨g, 0, none⟩ b0).setCell ⟨g, 1, none⟩ b1).setCell ⟨g, 2, none⟩ b2).setCell ⟨g, 3, none⟩ b3).setCell ⟨g, 4, none⟩ b4).setCell ⟨g, 5, none⟩ b5).setCell ⟨g, 6, none⟩ b6).setCell ⟨g, 7, none⟩ b7).setCell ⟨g, 8, none⟩ b8) := (c7).setCell (.inr rfl) _
  have c9 : But (fun k => k = g) w ((((((((((w.setCell ⟨g, 0, none⟩ b0).setCell ⟨g, 1, none⟩ b1).setCell ⟨g, 2, none⟩ b2).setCell ⟨g, 3, none⟩ b3).setCell ⟨g, 4, none⟩ b4).setCell ⟨g, 5, none⟩ b5).setCell ⟨g, 6, none⟩ b6).setCell ⟨g, 7, none⟩ b7).setCell ⟨g, 8, none⟩ b8).setCell ⟨g, 9, none⟩ b9) := (c8).setCell (.inr rfl) _
  exact ⟨h9, c9⟩
set_option maxHeartbeats 3200000 in
set_option maxRecDepth 20000 in
theorem days1_any (F A T S M PF PT : Nat) (hd : F ≠ A ∧ F ≠ T ∧ F ≠ S ∧ F ≠ M ∧ A ≠ T ∧ A ≠ S ∧ A ≠ M ∧ T ≠ S ∧ T ≠ M ∧ S ≠ M) (hpf : PF ≠ F ∧ PF ≠ A ∧ PF ≠ S) (hpt : PT ≠ F ∧ PT ≠ A ∧ PT ≠ S) (n0 to' top many : Int) (h0 : 0 ≤ n0) (htop : top < 146097) (htt : top ≤ to') (hle : n0 ≤ top) (hmn : 0 ≤ many ∧ many ≤ 255)
    (w : World) (hv : Vars F A T S M n0 to' 0 many w) (hf : w.heap[PF]? = some (.cells #[.int .i64 n0] 2 (0, 0))) (ht : w.heap[PT]? = some (.cells #[.int .i64 top] 2 (0, 0))) :
    Calls Try.prog 21 #[.func (.func 7) #[] #[.pointer (some ⟨F, 0, none⟩), .pointer (some ⟨A, 0, none⟩), .pointer (some ⟨T, 0, none⟩), .pointer (some ⟨S, 0, none⟩), .pointer (some ⟨M, 0, none⟩)], .pointer (some ⟨PF, 0, none⟩), .pointer (some ⟨PT, 0, none⟩)] w fun e w' =>
      (∃ v, e = .returned v) ∧ Told F A T S M n0 to' top many w' ∧ But (fun k => k = F ∨ k = A ∨ k = S) w w' := by
  obtain ⟨y, m, d, hdt⟩ := exists_date n0
  have KS := fun W => shape_ok n0 y m d W hdt h0 (by omega)
  have KF := fun W => follow_any n0 y m d W hdt h0 (by omega)
  have c1 : w.cell? ⟨PF, 0, none⟩ = some (.int .i64 n0) := blk_cell hf 0
  have c2 : w.cell? ⟨PT, 0, none⟩ = some (.int .i64 top) := blk_cell ht 0
  have d1 : decide (top < n0) = false := decide_eq_false (by omega)
  obtain ⟨a1, a2, a3, a4, a5, a6, a7, a8, a9, hsv⟩ : ∃ a1 a2 a3 a4 a5 a6 a7 a8 a9 : Int, shapeV n0 y m d = .agg #[.int .i64 n0, .int .i64 a1, .int .i64 a2, .int .i64 a3, .int .i64 a4, .int .i64 a5, .int .i64 a6, .int .i64 a7, .int .i64 a8, .int .i64 a9] := ⟨_, _, _, _, _, _, _, _, _, rfl⟩
  rw [hsv] at KS KF
  have HSV := Lib.hid hsv
  have HV := Lib.hid hv
  have HF := Lib.hid hf
  have HT := Lib.hid ht
  clear hsv hv hf ht
  go_enter Try.func21, Try.ntmps21
  go_wp2_with fail
  refine (KS _).mono ?_
  rintro e w1 ⟨rfl, hb1⟩
  go_wp2_with fail
  refine (KF _).mono ?_
  rintro e w2 ⟨gA, gL, rfl, hK, hgA, hgL, hb2⟩
  rw [size_alloc'] at hgA hgL
  have hs1 := hb1.size
  have lF := lt_of_block HV.out.1
  have lA := lt_of_block HV.out.2.1
  have lS := lt_of_block HV.out.2.2.2.1
  have lPT := lt_of_block HT.out
  have lT := lt_of_block HV.out.2.2.1
  have lM := lt_of_block HV.out.2.2.2.2
  have hb12 := (hb1.alloc hb1.size (.cells #[.int .i64 n0, .int .i64 a1, .int .i64 a2, .int .i64 a3, .int .i64 a4, .int .i64 a5, .int .i64 a6, .int .i64 a7, .int .i64 a8, .int .i64 a9] 23)).trans (hb2.mono (by simp; omega))
  have hg0 := blk_new w1 (.cells #[.int .i64 n0, .int .i64 a1, .int .i64 a2, .int .i64 a3, .int .i64 a4, .int .i64 a5, .int .i64 a6, .int .i64 a7, .int .i64 a8, .int .i64 a9] 23)
  have hg1 := (hb2.block _ (lt_of_block hg0)).trans hg0
  obtain ⟨v1, v2, v3, v4, v5⟩ := HV.out
  have vb : ∀ k o, w.heap[k]? = some o → w2.heap[k]? = some o := fun k o h => (hb12.block _ (lt_of_block h)).trans h
  generalize hgg : w1.heap.size = g at hg1 hgA hgL hs1 ⊢
  have HG0 : Goes F A T S M PF PT g gA gL n0 to' top many w w2 := ⟨n0, y, m, d, Int.le_refl _, hle, hdt, by omega, by rw [Int.sub_self]; exact ⟨vb _ _ v1, vb _ _ v2, vb _ _ v3, vb _ _ v4, vb _ _ v5⟩, hK, ⟨a1, a2, a3, a4, a5, a6, a7, a8, a9, HSV.out, hg1⟩, vb _ _ HT.out, But.of_below hb12⟩
  have HG := Lib.hid HG0
  have HD := Lib.hid hd
  have HPT := Lib.hid hpt
  clear hd HG0 vb v1 v2 v3 v4 v5 hg0 hg1 hb12 hb1 hb2 hK hgg KS KF hdt HSV c1 c2
  go_wp2
  go_loopw [] (fun wr => Goes F A T S M PF PT g gA gL n0 to' top many w wr) (fun wr => (300 - intOf ((wr.cell? ⟨S, 0, none⟩).getD (.int .i64 0))).toNat)
  case atStart => exact HG.out
  case round =>
    obtain ⟨n, y, m, d, hn0, hnt, hdt, hnm, hV, hK, ⟨a1, a2, a3, a4, a5, a6, a7, a8, a9, hsv, hg⟩, hPT, hB⟩ := hrel
    have K1 := own_any F A T S M HD.out n y m d to' (n - n0) many hdt (by omega) (by omega) (by omega) ⟨by omega, by omega⟩ hmn wr hV
    obtain ⟨y', m', d', hdt', hMk⟩ := makes_next n y m d hdt (by omega) (by omega)
    have K2 := hMk gA gL
    unfold Makes at K2
    obtain ⟨b1, b2, b3, b4, b5, b6, b7, b8, b9, hsv2⟩ : ∃ b1 b2 b3 b4 b5 b6 b7 b8 b9 : Int, shapeV (n + 1) y' m' d' = .agg #[.int .i64 (n + 1), .int .i64 b1, .int .i64 b2, .int .i64 b3, .int .i64 b4, .int .i64 b5, .int .i64 b6, .int .i64 b7, .int .i64 b8, .int .i64 b9] := ⟨_, _, _, _, _, _, _, _, _, rfl⟩
    rw [hsv] at K1 K2
    rw [hsv2] at K2
    have HSV2 := Lib.hid hsv2
    clear hsv2
    have x0 : wr.cell? ⟨g, 0, none⟩ = some (.int .i64 n) := blk_cell hg 0
    have x1 : wr.cell? ⟨g, 1, none⟩ = some (.int .i64 a1) := blk_cell hg 1
    have x2 : wr.cell? ⟨g, 2, none⟩ = some (.int .i64 a2) := blk_cell hg 2
    have x3 : wr.cell? ⟨g, 3, none⟩ = some (.int .i64 a3) := blk_cell hg 3
    have x4 : wr.cell? ⟨g, 4, none⟩ = some (.int .i64 a4) := blk_cell hg 4
    have x5 : wr.cell? ⟨g, 5, none⟩ = some (.int .i64 a5) := blk_cell hg 5
    have x6 : wr.cell? ⟨g, 6, none⟩ = some (.int .i64 a6) := blk_cell hg 6
    have x7 : wr.cell? ⟨g, 7, none⟩ = some (.int .i64 a7) := blk_cell hg 7
    have x8 : wr.cell? ⟨g, 8, none⟩ = some (.int .i64 a8) := blk_cell hg 8
    have x9 : wr.cell? ⟨g, 9, none⟩ = some (.int .i64 a9) := blk_cell hg 9
    have HGg := Lib.hid hg
    have HV1 := Lib.hid hV
    have HK := Lib.hid hK
    have HP := Lib.hid hPT
    have HB := Lib.hid hB
    have HDT := Lib.hid hdt'
    have cS0 : wr.cell? ⟨S, 0, none⟩ = some (.int .i64 (n - n0)) := blk_cell hV.2.2.2.1 0
    have HCS := Lib.hid cS0
    clear hV hK hPT hB hdt hdt' hMk hg hsv cS0
    by_cases hmo : n - n0 + 1 ≤ many
    · rw [decide_eq_true hmo] at K1
      go_wp2_with fail
      refine K1.mono ?_
      rintro e w3 ⟨rfl, hV3, hB3⟩
      have HV3 := Lib.hid hV3
      have HB3 := Lib.hid hB3
      have hgl : w.heap.size ≤ g := by omega
      obtain ⟨p1, p2, p3⟩ := HPT.out
      have hne : ∀ k, w.heap.size ≤ k → ¬ (k = F ∨ k = A ∨ k = S) := fun k hk h => by rcases h with h | h | h <;> omega
      have hg3 := HB3.out.blk HGg.out (hne g hgl)
      have hp3 := HB3.out.blk HP.out (show ¬ (PT = F ∨ PT = A ∨ PT = S) from fun h => by rcases h with h | h | h <;> omega)
      have hK3 : Knows gA gL y m d w3 := ⟨HK.out.1, HB3.out.blk HK.out.2.1 (hne gA (by omega)), HB3.out.blk HK.out.2.2 (hne gL (by omega))⟩
      have xPT : w3.cell? ⟨PT, 0, none⟩ = some (.int .i64 top) := blk_cell hp3 0
      have y0 : w3.cell? ⟨g, 0, none⟩ = some (.int .i64 n) := blk_cell hg3 0
      have y1 : w3.cell? ⟨g, 1, none⟩ = some (.int .i64 a1) := blk_cell hg3 1
      have y2 : w3.cell? ⟨g, 2, none⟩ = some (.int .i64 a2) := blk_cell hg3 2
      have y3 : w3.cell? ⟨g, 3, none⟩ = some (.int .i64 a3) := blk_cell hg3 3
      have y4 : w3.cell? ⟨g, 4, none⟩ = some (.int .i64 a4) := blk_cell hg3 4
      have y5 : w3.cell? ⟨g, 5, none⟩ = some (.int .i64 a5) := blk_cell hg3 5
      have y6 : w3.cell? ⟨g, 6, none⟩ = some (.int .i64 a6) := blk_cell hg3 6
      have y7 : w3.cell? ⟨g, 7, none⟩ = some (.int .i64 a7) := blk_cell hg3 7
      have y8 : w3.cell? ⟨g, 8, none⟩ = some (.int .i64 a8) := blk_cell hg3 8
      have y9 : w3.cell? ⟨g, 9, none⟩ = some (.int .i64 a9) := blk_cell hg3 9
      have HG3 := Lib.hid hg3
      have HP3 := Lib.hid hp3
      have HK3 := Lib.hid hK3
      clear hV3 hB3 x0 x1 x2 x3 x4 x5 x6 x7 x8 x9 hg3 hp3 hK3 hne
      by_cases hlt : n < top
      · have dl : decide (n < top) = true := decide_eq_true hlt
        go_wp2_with fail
        refine (K2 w3 HK3.out).mono ?_
        rintro e w4 ⟨rfl, hK4, hB4⟩
        have HB4 := Lib.hid hB4
        have hg4 := HB4.out.blk HG3.out (show ¬ (g = gA ∨ g = gL) by omega)
        have HV4 := Lib.hid (vars_but HV3.out HB4.out (by omega) (by omega) (show ¬ (T = gA ∨ T = gL) by omega) (by omega) (show ¬ (M = gA ∨ M = gL) by omega))
        have HP4 := Lib.hid (HB4.out.blk HP3.out (show ¬ (PT = gA ∨ PT = gL) by omega))
        have HK4 := Lib.hid hK4
        have z0 : w4.cell? ⟨g, 0, none⟩ = some (.int .i64 n) := blk_cell hg4 0
        have z1 : w4.cell? ⟨g, 1, none⟩ = some (.int .i64 a1) := blk_cell hg4 1
        have z2 : w4.cell? ⟨g, 2, none⟩ = some (.int .i64 a2) := blk_cell hg4 2
        have z3 : w4.cell? ⟨g, 3, none⟩ = some (.int .i64 a3) := blk_cell hg4 3
        have z4 : w4.cell? ⟨g, 4, none⟩ = some (.int .i64 a4) := blk_cell hg4 4
        have z5 : w4.cell? ⟨g, 5, none⟩ = some (.int .i64 a5) := blk_cell hg4 5
        have z6 : w4.cell? ⟨g, 6, none⟩ = some (.int .i64 a6) := blk_cell hg4 6
        have z7 : w4.cell? ⟨g, 7, none⟩ = some (.int .i64 a7) := blk_cell hg4 7
        have z8 : w4.cell? ⟨g, 8, none⟩ = some (.int .i64 a8) := blk_cell hg4 8
        have z9 : w4.cell? ⟨g, 9, none⟩ = some (.int .i64 a9) := blk_cell hg4 9
        have f0 : w4.frozen? ⟨g, 0, none⟩ = false := blk_free hg4 0
        have f1 : w4.frozen? ⟨g, 1, none⟩ = false := blk_free hg4 1
        have f2 : w4.frozen? ⟨g, 2, none⟩ = false := blk_free hg4 2
        have f3 : w4.frozen? ⟨g, 3, none⟩ = false := blk_free hg4 3
        have f4 : w4.frozen? ⟨g, 4, none⟩ = false := blk_free hg4 4
        have f5 : w4.frozen? ⟨g, 5, none⟩ = false := blk_free hg4 5
        have f6 : w4.frozen? ⟨g, 6, none⟩ = false := blk_free hg4 6
        have f7 : w4.frozen? ⟨g, 7, none⟩ = false := blk_free hg4 7
        have f8 : w4.frozen? ⟨g, 8, none⟩ = false := blk_free hg4 8
        have f9 : w4.frozen? ⟨g, 9, none⟩ = false := blk_free hg4 9
        have HG4 := Lib.hid (put10 (b0 := .int .i64 (n + 1)) (b1 := .int .i64 b1) (b2 := .int .i64 b2) (b3 := .int .i64 b3) (b4 := .int .i64 b4) (b5 := .int .i64 b5) (b6 := .int .i64 b6) (b7 := .int .i64 b7) (b8 := .int .i64 b8) (b9 := .int .i64 b9) hg4)
        clear hK4 hB4 hg4 y0 y1 y2 y3 y4 y5 y6 y7 y8 y9
        go_wp2
        clear z0 z1 z2 z3 z4 z5 z6 z7 z8 z9 f0 f1 f2 f3 f4 f5 f6 f7 f8 f9
        go_roundw
        case rel =>
          refine ⟨n + 1, y', m', d', by omega, by omega, HDT.out, by omega, ?_, ?_, ⟨b1, b2, b3, b4, b5, b6, b7, b8, b9, HSV2.out, HG4.out.1⟩, ?_, ?_⟩
          · rw [show n + 1 - n0 = n - n0 + 1 by omega]
            exact vars_but HV4.out HG4.out.2 (by omega) (by omega) (by omega) (by omega) (by omega)
          · exact ⟨HK4.out.1, HG4.out.2.blk HK4.out.2.1 (by omega), HG4.out.2.blk HK4.out.2.2 (by omega)⟩
          · exact HG4.out.2.blk HP4.out (by omega)
          · exact but_high (but_high (but_out HB.out HB3.out) HB4.out (fun k hk => by rcases hk with h | h <;> omega)) HG4.out.2 (fun k hk => by omega)
        case measure => exact lt_meas HCS.out (blk_cell (vars_but HV4.out HG4.out.2 (by omega) (by omega) (by omega) (by omega) (by omega)).2.2.2.1 0) (by omega) (by omega)
      · have dl : decide (n < top) = false := decide_eq_false hlt
        go_wp2
        have he : n + 1 - n0 = n - n0 + 1 := by omega
        go_end0
        refine ⟨⟨_, rfl⟩, ⟨n + 1, by omega, by omega, by omega, .inl (by omega), by rw [he]; exact HV3.out⟩, ?_⟩
        exact but_in (but_out HB.out HB3.out)
    · rw [decide_eq_false hmo] at K1
      go_wp2_with fail
      refine K1.mono ?_
      rintro e w3 ⟨rfl, hV3, hB3⟩
      have HV3 := Lib.hid hV3
      have HB3 := Lib.hid hB3
      clear hV3 hB3 x0 x1 x2 x3 x4 x5 x6 x7 x8 x9
      go_wp2
      have he : n + 1 - n0 = n - n0 + 1 := by omega
      go_end0
      refine ⟨⟨_, rfl⟩, ⟨n + 1, by omega, by omega, by omega, .inr (by omega), by rw [he]; exact HV3.out⟩, ?_⟩
      exact but_in (but_out HB.out HB3.out)
end Go.Proofs.Ytediadckcpedkaa
