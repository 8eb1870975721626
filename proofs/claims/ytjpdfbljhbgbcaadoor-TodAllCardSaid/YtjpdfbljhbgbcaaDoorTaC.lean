/- tod.All, and what its iterator does with the function of TodAll (layer 7). -/
import Derived.Test.YtjpdfbljhbgbcaaDoorTaB
import Derived.Test.YtjpdfbljhbgbcaaDoorWdN
namespace Go.Proofs.YtjpdfbljhbgbcaaDoor
open Go.RowKit Go.Shelf
set_option linter.unusedVariables false
attribute [local go_sem] Oper.semAt_some

set_option maxHeartbeats 1600000 in
set_option maxRecDepth 20000 in
theorem tall_any (H M S : Nat) (hH : H < 18446744073709551616) (hM : M < 18446744073709551616) (hS : S < 18446744073709551616) (w : World) : Calls Tryd.prog 10 #[.int .u64 (H : Nat), .int .u64 (M : Nat), .int .u64 (S : Nat)] w fun e w' => e = .returned (.func (.func 35) #[] #[.pointer (some ⟨w.heap.size, 0, none⟩), .pointer (some ⟨w.heap.size + 1, 0, none⟩), .pointer (some ⟨w.heap.size + 2, 0, none⟩)]) ∧
    w'.heap[w.heap.size]? = some (.cells #[.int .u64 (hd H : Nat)] 22 (0, 0)) ∧ w'.heap[w.heap.size + 1]? = some (.cells #[.int .u64 (hm M : Nat)] 22 (0, 0)) ∧ w'.heap[w.heap.size + 2]? = some (.cells #[.int .u64 (hm S : Nat)] 22 (0, 0)) ∧ Below w.heap.size w w' := by
  have K := fun W => held_any H M S hH hM hS W
  clear hH hM hS
  go_enter Tryd.func10, Tryd.ntmps10
  go_wp2_with fail
  refine (K _).mono ?_
  rintro e w1 ⟨rfl, rfl⟩
  go_wp2
  go_ret
  refine ⟨rfl, ?_, ?_, ?_, ?_⟩
  · exact blk_more (blk_more (blk_new w _) _) _
  · have q := blk_more (blk_new (w.alloc (.cells #[.int .u64 (hd H : Nat)] 22)) (.cells #[.int .u64 (hm M : Nat)] 22)) (.cells #[.int .u64 (hm S : Nat)] 22)
    rw [World.size_alloc] at q
    exact q
  · have q := blk_new ((w.alloc (.cells #[.int .u64 (hd H : Nat)] 22)).alloc (.cells #[.int .u64 (hm M : Nat)] 22)) (.cells #[.int .u64 (hm S : Nat)] 22)
    rw [World.size_alloc, World.size_alloc] at q
    exact q
  · exact (((Below.refl _ _).alloc (Nat.le_refl _) _).alloc (by simp) _).alloc (by simp; omega) _
/-- what holds while the iterator runs; what holds where it has been told to stop -/
def Rn (Fv : Value) (w : World) (F N : Nat) (l : List Int) (mo : Nat) (told : List Int) (W : World) : Prop := Ta F N l told W ∧ Boxed W w.heap.size 31 Fv ∧ But (fun k => k = F ∨ k = N) w W ∧ (mo = 0 ∨ told.length < mo) ∧ told.length < 90000
def Rx (w : World) (F N : Nat) (l : List Int) (mo : Nat) (told : List Int) (W : World) : Prop := Ta F N l told W ∧ But (fun k => k = F ∨ k = N) w W ∧ ((mo ≠ 0 ∧ told.length = mo) ∨ 90000 ≤ told.length)
theorem Ta.kept {F N : Nat} {l told : List Int} {W W' : World} {row : Option Nat} (h : Ta F N l told W) (hg : W.grownBy W' row) (hr : ∀ r, row = some r → ∃ o : Obj, W.heap[r]? = some o ∧ o.isCells = false) : Ta F N l told W' := ⟨cells_kept h.1 hg hr, cells_kept h.2 hg hr⟩
theorem but_kept {X : Nat → Prop} {w W W' : World} {row : Option Nat} {B : Nat} (h : But X w W) (hB : w.heap.size ≤ B) (hg : W.grownBy W' row) (hr : ∀ r, row = some r → B ≤ r) : But X w W' :=
  ⟨hg.os.trans h.os, hg.tape.trans h.tape, hg.output.trans h.output, Nat.le_trans h.size hg.size, fun k hk hx => (hg.block k (Nat.lt_of_lt_of_le hk h.size) (fun e => by have := hr k e.symm; omega)).trans (h.block k hk hx)⟩
theorem Rn.own {Fv : Value} {w : World} {F N : Nat} {l : List Int} {mo : Nat} {B : Nat} (hB : w.heap.size ≤ B) (f : List Int → List Int) : OwnFrom B (fun pre W => Rn Fv w F N l mo (f pre) W) := fun pre W W' row h hg hr => by
  have hr' := fun r e => (hr r e).2
  exact ⟨h.1.kept hg hr', cells_kept h.2.1 hg hr', but_kept h.2.2.1 hB hg (fun r e => (hr r e).1), h.2.2.2⟩
theorem Rx.own {c : Code} {w : World} {F N : Nat} {l : List Int} {mo : Nat} {B : Nat} (hB : w.heap.size ≤ B) (f : List Int → List Int) : OwnFrom B (fun pre W => c = Code.exit 0 ∧ ∃ told, told <+: f pre ∧ Rx w F N l mo told W) := fun pre W W' row h hg hr => by
  obtain ⟨h1, told, h2, h3⟩ := h
  have hr' := fun r e => (hr r e).2
  exact ⟨h1, told, h2, h3.1.kept hg hr', but_kept h3.2.1 hB hg (fun r e => (hr r e).1), h3.2.2⟩
theorem Rn.grown {Fv : Value} {w : World} {F N : Nat} {l : List Int} {mo : Nat} {told : List Int} {W W' : World} (h : Rn Fv w F N l mo told W) (hb : Below W.heap.size W W') : Rn Fv w F N l mo told W' :=
  Rn.own (Nat.le_refl _) (fun _ => told) [] W W' none h ⟨hb.os, hb.tape, hb.output, hb.size, fun k hk _ => hb.block k hk⟩ (fun r e => by cases e)
theorem KeepsFrom.up {B B' : Nat} {W W' : World} (h : KeepsFrom B W W') (hB : B ≤ B') : KeepsFrom B' W W' := ⟨h.size, fun k o hk => h.same k o (Nat.le_trans hB hk)⟩
theorem keeps_below {B : Nat} {W W' : World} (h : Below W.heap.size W W') : KeepsFrom B W W' := ⟨h.size, fun k o _ hk _ => (h.block k (lt_of_block hk)).trans hk⟩
theorem keeps_but {B F N : Nat} {l told : List Int} {W W' : World} (h : But (fun k => k = F ∨ k = N) W W') (hT : Ta F N l told W) : KeepsFrom B W W' := ⟨h.size, fun k o _ hk hc => (h.block k (lt_of_block hk) (fun e => by
  rcases e with rfl | rfl
  · rw [hT.1] at hk; cases hk; cases hc
  · rw [hT.2] at hk; cases hk; cases hc)).trans hk⟩
theorem below_but {F N : Nat} (hNF : N < F) {W W' : World} (h : But (fun k => k = F ∨ k = N) W W') (hs : N ≤ W.heap.size) : Below N W W' := ⟨h.os, h.tape, h.output, h.size, fun k hk => h.block k (by omega) (by omega)⟩
theorem mins_snoc (ys C : List Int) (y x : Int) : mins (ys ++ [y]) C x = mins ys C x ++ C.map (jW x y) := by unfold mins; rw [List.flatMap_append]; simp
theorem hours_snoc (xs B C : List Int) (x : Int) : hours (xs ++ [x]) B C = hours xs B C ++ mins B C x := by unfold hours; rw [List.flatMap_append]; simp
theorem mins_pre {ys B : List Int} (C : List Int) (x : Int) (h : ys <+: B) : mins ys C x <+: mins B C x := by
  obtain ⟨t, rfl⟩ := h
  unfold mins
  rw [List.flatMap_append]
  exact ⟨_, rfl⟩
theorem hours_pre {xs A : List Int} (B C : List Int) (h : xs <+: A) : hours xs B C <+: hours A B C := by
  obtain ⟨t, rfl⟩ := h
  unfold hours
  rw [List.flatMap_append]
  exact ⟨_, rfl⟩
theorem map_pre {zs C : List Int} (f : Int → Int) (h : zs <+: C) : zs.map f <+: C.map f := by
  obtain ⟨t, rfl⟩ := h
  rw [List.map_append]
  exact ⟨_, rfl⟩
theorem pre_in {a b c : List Int} (h : b <+: c) : a ++ b <+: a ++ c := by
  obtain ⟨t, rfl⟩ := h
  exact ⟨t, by simp⟩
/-- what has been told, at the end -/
def FinT (w : World) (F N : Nat) (l : List Int) (mo : Nat) (T : List Int) (W : World) : Prop := ∃ told, Ta F N l told W ∧ But (fun k => k = F ∨ k = N) w W ∧ ((told = T ∧ (mo = 0 ∨ told.length < mo)) ∨ (told <+: T ∧ ((mo ≠ 0 ∧ told.length = mo) ∨ 90000 ≤ told.length)))
theorem FinT.put {w : World} {F N : Nat} {l : List Int} {mo : Nat} {T : List Int} {W : World} {D : Nat} (h : FinT w F N l mo T W) (hD : w.heap.size ≤ D) (hd : W.heap[D]? = some (.deferred (some []))) : FinT w F N l mo T (W.putObj D (.deferred none)) := by
  obtain ⟨told, h1, h2, h3⟩ := h
  have hg := grownBy_putObj' W D (.deferred none)
  exact ⟨told, h1.kept hg (fun r e => by cases e; exact ⟨_, hd, rfl⟩), but_kept h2 hD hg (fun r e => by cases e; exact Nat.le_refl _), h3⟩
set_option maxHeartbeats 3200000 in
set_option maxRecDepth 100000 in
theorem titer_in (n : Nat) (hn : 12 ≤ n) (x1 x2 x3 MH MM MS F N L Q : Nat) (w : World) (A0 : Option Addr) (c0 : Nat) (l : List Int) (mo : Nat) (h1 : w.heap[x1]? = some (.cells #[.int .u64 (MH : Nat)] 22 (0, 0))) (h2 : w.heap[x2]? = some (.cells #[.int .u64 (MM : Nat)] 22 (0, 0))) (h3 : w.heap[x3]? = some (.cells #[.int .u64 (MS : Nat)] 22 (0, 0)))
    (b1 : MH < 18446744073709551616) (b2 : MM < 18446744073709551616) (b3 : MS < 18446744073709551616) (hTa : Ta F N l [] w) (hL : w.cell? ⟨L, 0, none⟩ = some (.slice A0 l.length c0)) (hQ : w.cell? ⟨Q, 0, none⟩ = some (.int .u16 mo)) (hi : Ints .i64 w A0 l) (hll : l.length ≤ 86400) (hmo : mo ≤ 65535)
    (hNF : N < F) (hx1 : x1 < N) (hx2 : x2 < N) (hx3 : x3 < N) (hLN : L < N) (hQN : Q < N) (hA : ∀ b o, 0 < l.length → A0 = some ⟨b, o, none⟩ → b < N) (hT : Tab w) (hTg : 1 < N) :
    CallsIn Fence.wide n Tryd.prog 35 #[.func (.func 11) #[] #[.pointer (some ⟨F, 0, none⟩), .pointer (some ⟨N, 0, none⟩), .pointer (some ⟨L, 0, none⟩), .pointer (some ⟨Q, 0, none⟩)], .pointer (some ⟨x1, 0, none⟩), .pointer (some ⟨x2, 0, none⟩), .pointer (some ⟨x3, 0, none⟩)] w fun e W' => (∃ v, e = .returned v) ∧ FinT w F N l mo (hours (numsP MH.testBit 64) (numsP MM.testBit 64) (numsP MS.testBit 64)) W' := by
  refine callsIn_of_wp_marks Tryd.func35 rfl trivial ?_ rfl
  simp only [Tryd.ntmps35, List.size_toArray, List.length_cons, List.length_nil, Nat.reduceAdd, Nat.reduceSub, Array.replicate_succ, Array.replicate_zero, List.push_toArray, List.append_toArray, List.nil_append, List.cons_append]
  have hFw := lt_of_block hTa.1
  have hNw := lt_of_block hTa.2
  have hmix : Tryd.prog.follows .mixedOrders = true := by kernel_rfl
  obtain ⟨Fv, hFv⟩ : ∃ Fv, Fv = Value.func (.func 11) #[] #[.pointer (some ⟨F, 0, none⟩), .pointer (some ⟨N, 0, none⟩), .pointer (some ⟨L, 0, none⟩), .pointer (some ⟨Q, 0, none⟩)] := ⟨_, rfl⟩
  have HR0 := Lib.hid (show Rn Fv w F N l mo [] ((w.alloc (.cells #[Fv] 31)).alloc (.cells #[.int .u64 (MH : Nat)] 22)) from ⟨⟨blk_more (blk_more hTa.1 _) _, blk_more (blk_more hTa.2 _) _⟩, blk_more (blk_new w _) _, ((But.refl _ w).alloc _).alloc _, by show mo = 0 ∨ 0 < mo; omega, by show 0 < 90000; omega⟩)
  have HG0 := Lib.hid (show ((w.alloc (.cells #[Fv] 31)).alloc (.cells #[.int .u64 (MH : Nat)] 22)).heap[w.heap.size + 1]? = some (.cells #[.int .u64 (MH : Nat)] 22 (0, 0)) by
    have q := blk_new (w.alloc (.cells #[Fv] 31)) (.cells #[.int .u64 (MH : Nat)] 22)
    rwa [World.size_alloc] at q)
  have c1 : (w.alloc (.cells #[Fv] 31)).cell? ⟨x1, 0, none⟩ = some (.int .u64 (MH : Nat)) := blk_cell (blk_more h1 _) 0
  have HX2 := Lib.hid h2
  have HX3 := Lib.hid h3
  have HL := Lib.hid hL
  have HQ := Lib.hid hQ
  have HI := Lib.hid hi
  have HT := Lib.hid hT
  have HLL := Lib.hid hll
  have hLw := World.block_lt_of_cell? w _ hL
  have hQw := World.block_lt_of_cell? w _ hQ
  clear h1 h2 h3 hTa hL hQ hi hT hll
  rw [← hFv]
  have HF := Lib.hid hFv
  clear hFv
  have HS0 := Lib.hid (show ((w.alloc (.cells #[Fv] 31)).alloc (.cells #[.int .u64 (MH : Nat)] 22)).heap.size = w.heap.size + 2 by simp)
  gi_wp2
  refine wpIn_scope_wide ?_
  refine wpIn_seq (wpIn_label ?_)
  obtain ⟨W0, hW0⟩ : ∃ W0, (w.alloc (.cells #[Fv] 31)).alloc (.cells #[.int .u64 (MH : Nat)] 22) = W0 := ⟨_, rfl⟩
  rw [hW0] at HR0 HG0 HS0
  have HM1 := Lib.hid (mask_one MH (w.heap.size + 1) W0 b1 HG0.out)
  gi_wp2_with fail
  try rw [hW0]
  refine ⟨trivial, fun h => by omega, (callsIn_wide.2 HM1.out).mono ?_⟩
  clear hW0 c1
  rintro e w1 ⟨rfl, hbx, hb1⟩
  rw [HS0.out] at hbx ⊢
  have hs1 := hb1.size
  rw [HS0.out] at hs1
  have hbx1 := lt_of_block hbx
  have HBX := Lib.hid hbx
  have HR1 := Lib.hid (HR0.out.grown hb1)
  clear hbx hb1
  gi_wp2
  refine wpIn_rangeFunc_ownH rfl (by omega) (gf := 57) (lb := #[.pointer (some ⟨w.heap.size + 2, 0, none⟩)]) rfl trivial (enters_of Tryd.func57 (by kernel_rfl) rfl)
    (mseq_stops (n - 1) (by omega) (fun i => MH.testBit i) (w.heap.size + 2) N w1 hbx1 (by omega) (by rw [mk_self MH b1, blk_cell HBX.out]; rfl) (HT.out.but HR1.out.2.2.1 (by omega)) hTg) belowK_t (belowK_b (by omega)) (Below.refl _ _) (fun _ => rfl)
    (fun pre X => Rn Fv w F N l mo (hours pre (numsP MM.testBit 64) (numsP MS.testBit 64)) X)
    (fun c pre X => c = Code.exit 0 ∧ ∃ told, told <+: hours pre (numsP MM.testBit 64) (numsP MS.testBit 64) ∧ Rx w F N l mo told X)
    (Rn.own (by omega) _) (fun c => Rx.own (by omega) _) HR1.out
    (fun x a' X => ∃ hb, w.heap.size < hb ∧ Boxed X hb 3 (.int .i64 x) ∧ a' = { tmps := #[Fv, .pointer (some ⟨x1, 0, none⟩), .pointer (some ⟨x2, 0, none⟩), .pointer (some ⟨x3, 0, none⟩), .pointer (some ⟨w.heap.size, 0, none⟩), .pointer (some ⟨hb, 0, none⟩), undef, undef, .int .u64 (MH : Nat), .slice (some ⟨w.heap.size + 1, 0, none⟩) 1 1, .func (.func 57) #[] #[.pointer (some ⟨w.heap.size + 2, 0, none⟩)], .int .i64 x, undef, undef, undef, undef, undef, undef, undef, undef, undef, undef, undef, undef, undef, undef, undef], defers := [] })
    (fun x a' _ X Y row hs hg hr => by obtain ⟨hb, h1, h2, h3⟩ := hs; exact ⟨hb, h1, cells_kept h2 hg (fun r e => (hr r e).2), h3⟩)
    ?assign ?body ?done ?stop
  case assign =>
    rintro l1 pre x X K hI hK
    have hXs := hI.2.2.1.size
    gi_wp2
    exact hK _ _ ((KeepsOthers.alloc _ _).from _) ((Below.refl N X).alloc (by omega) _) (hI.grown ((Below.refl _ _).alloc (Nat.le_refl _) _)) ⟨X.heap.size, lt_of_block hI.2.1, Boxed.new X 3 _, rfl⟩
  case done =>
    rintro D xs X hD rfl hI hd
    have HI9 := Lib.hid hI
    have HD := Lib.hid hd
    clear hI hd
    gi_wp2
    exact leaves_marks (lo := w.heap.size) (FinT w F N l mo _) (fun W D h h1 h2 => h.put h1 h2) (fun W h => ⟨_, results_none rfl _ _ _, ⟨_, rfl⟩, h⟩) ({ target := .collected D, args := #[] } :: []) (D + 1) X ⟨D, rfl, by omega, by omega, HD.out, trivial⟩ ⟨_, HI9.out.1, HI9.out.2.2.1, .inl ⟨rfl, HI9.out.2.2.2.1⟩⟩
  case stop =>
    rintro D c pre X hD hpre ⟨rfl, told, hp, hx⟩ hd
    refine wpIn_exit ?_
    exact leaves_marks (lo := w.heap.size) (FinT w F N l mo _) (fun W D h h1 h2 => h.put h1 h2) (fun W h => ⟨_, results_none rfl _ _ _, ⟨_, rfl⟩, h⟩) ({ target := .collected D, args := #[] } :: []) (D + 1) X ⟨D, rfl, by omega, by omega, hd, trivial⟩ ⟨told, hx.1, hx.2.1, .inr ⟨hp.trans (hours_pre _ _ hpre), hx.2.2⟩⟩
  case body =>
    rintro l1 pre x a' W hl ⟨r, hr⟩ hI ⟨hb, hhb, bH, rfl⟩ hlt
    have hWs := hI.2.2.1.size
    have c2 := blk_cell (hI.2.2.1.blk HX2.out (by omega)) 0
    have HM2 := Lib.hid (mask_one MM W.heap.size (W.alloc (.cells #[.int .u64 (MM : Nat)] 22)) b2 (blk_new W _))
    have HI1 := Lib.hid hI
    have HRL := Lib.hid hr
    have hls := lt_of_block hr
    have HBH := Lib.hid bH
    have HSW : Hid ((W.alloc (.cells #[.int .u64 (MM : Nat)] 22)).heap.size = W.heap.size + 1) := Lib.hid (by simp)
    have HBA := Lib.hid (show Below W.heap.size W (W.alloc (.cells #[.int .u64 (MM : Nat)] 22)) from (Below.refl _ _).alloc (Nat.le_refl _) _)
    obtain ⟨W1, hW1⟩ : ∃ W1, W.alloc (.cells #[.int .u64 (MM : Nat)] 22) = W1 := ⟨_, rfl⟩
    rw [hW1] at HM2 HSW HBA
    clear hI hr bH
    gi_wp2_with fail
    try rw [hW1]
    refine ⟨trivial, fun h => by omega, ((callsIn_wide.2 HM2.out).inRound l1).mono ?_⟩
    clear hW1 c2
    rintro e w2 ⟨rfl, hbx2, hb2⟩
    rw [HSW.out] at hbx2 ⊢
    have hs2 := lt_of_block hbx2
    have HBX2 := Lib.hid hbx2
    have HBW := Lib.hid (HBA.out.trans (hb2.mono (by have := HSW.out; omega)))
    have HR2 := Lib.hid (HI1.out.grown HBW.out)
    have hr2 := (HBW.out.block _ hls).trans HRL.out
    have HBH2 := Lib.hid ((HBW.out.block _ (lt_of_block HBH.out)).trans HBH.out)
    clear hbx2 hb2
    gi_wp2
    refine wpIn_rangeFunc_ownN (l₀ := l1) (r₀ := r) rfl hr2 (by omega) (gf := 57) (lb := #[.pointer (some ⟨W.heap.size + 1, 0, none⟩)]) rfl trivial (enters_of Tryd.func57 (by kernel_rfl) rfl)
      ((mseq_stops (n - 1 - 1 - 1) (by omega) (fun i => MM.testBit i) (W.heap.size + 1) N w2 hs2 (by omega) (by rw [mk_self MM b2, blk_cell HBX2.out]; rfl) (HT.out.but HR2.out.2.2.1 (by omega)) hTg).inRound l1) belowK_t (belowK_b (by omega)) (Below.refl _ _) (fun _ => rfl)
      (fun pre' X => (Rn Fv w F N l mo (hours pre (numsP MM.testBit 64) (numsP MS.testBit 64) ++ mins pre' (numsP MS.testBit 64) x) X ∧ Boxed X hb 3 (.int .i64 x)) ∧ (Below N W X ∧ KeepsFrom w1.heap.size W X))
      (fun c pre' X => (c = Code.exit 0 ∧ ∃ told, told <+: hours pre (numsP MM.testBit 64) (numsP MS.testBit 64) ++ mins pre' (numsP MS.testBit 64) x ∧ Rx w F N l mo told X) ∧ KeepsFrom w1.heap.size W X)
      (OwnFrom.and (OwnFrom.and (Rn.own (by omega) (fun pre' => hours pre (numsP MM.testBit 64) (numsP MS.testBit 64) ++ mins pre' (numsP MS.testBit 64) x)) (Own.from (boxed_own hb 3 (fun _ => Value.int .i64 x)) _)) (OwnFrom.and (ownFrom_below (by omega) (by omega)) (ownFrom_keepsFrom (by omega))))
      (fun c => OwnFrom.and (Rx.own (by omega) (fun pre' => hours pre (numsP MM.testBit 64) (numsP MS.testBit 64) ++ mins pre' (numsP MS.testBit 64) x)) (ownFrom_keepsFrom (by omega)))
      ⟨⟨by simpa [mins] using HR2.out, HBH2.out⟩, HBW.out.mono (by omega), keeps_below HBW.out⟩
      (fun y a'' X => ∃ mb, w.heap.size < mb ∧ Boxed X mb 3 (.int .i64 y) ∧ a'' = { tmps := #[Fv, .pointer (some ⟨x1, 0, none⟩), .pointer (some ⟨x2, 0, none⟩), .pointer (some ⟨x3, 0, none⟩), .pointer (some ⟨w.heap.size, 0, none⟩), .pointer (some ⟨hb, 0, none⟩), .pointer (some ⟨mb, 0, none⟩), undef, .int .u64 (MH : Nat), .slice (some ⟨w.heap.size + 1, 0, none⟩) 1 1, .func (.func 57) #[] #[.pointer (some ⟨w.heap.size + 2, 0, none⟩)], .int .i64 x, .int .u64 (MM : Nat), .slice (some ⟨W.heap.size, 0, none⟩) 1 1, .func (.func 57) #[] #[.pointer (some ⟨W.heap.size + 1, 0, none⟩)], .int .i64 y, undef, undef, undef, undef, undef, undef, undef, undef, undef, undef, undef], defers := [] })
      (fun y a'' _ X Y row hs hg hr => by obtain ⟨mb, h1, h2, h3⟩ := hs; exact ⟨mb, h1, cells_kept h2 hg (fun r e => (hr r e).2), h3⟩)
      ?assign2 ?body2 ?done2 ?stop2
    case assign2 =>
      rintro l2 pre' y X K ⟨⟨hI2, bH2⟩, hBN, hKF⟩ hK
      have hXs := hI2.2.2.1.size
      have lH := lt_of_block bH2
      gi_wp2
      exact hK _ _ ((KeepsOthers.alloc _ _).from _) ((Below.refl N X).alloc (by omega) _) ⟨⟨hI2.grown ((Below.refl _ _).alloc (Nat.le_refl _) _), bH2.alloc _⟩, hBN.alloc (by omega) _, hKF.trans ((KeepsOthers.alloc _ _).from _)⟩ ⟨X.heap.size, lt_of_block hI2.2.1, Boxed.new X 3 _, rfl⟩
    case done2 =>
      rintro ys X rfl ⟨⟨hI2, bH2⟩, hBN, hKF⟩
      have HX1 := Lib.hid hI2
      have HX2' := Lib.hid hBN
      have HX3' := Lib.hid hKF
      clear hI2 bH2 hBN hKF
      gi_wp2
      exact ⟨HX3'.out, HX2'.out, by show Rn Fv w F N l mo (hours (pre ++ [x]) (numsP MM.testBit 64) (numsP MS.testBit 64)) X; rw [hours_snoc]; exact HX1.out⟩
    case stop2 =>
      rintro c pre' X hpre ⟨⟨rfl, told, hp, hx⟩, hKF⟩
      refine wpIn_exit ?_
      exact ⟨hKF, rfl, told, by rw [hours_snoc]; exact hp.trans (pre_in (mins_pre _ _ hpre)), hx⟩
    case body2 =>
      rintro l2 pre' y a'' W' hl2 ⟨r2, hr2'⟩ ⟨⟨hI2, bH2⟩, hBN, hKF⟩ ⟨mb, hmb, bM, rfl⟩ hlt2
      have hWs' := hI2.2.2.1.size
      have c3 := blk_cell (hI2.2.2.1.blk HX3.out (by omega)) 0
      have HM3 := Lib.hid (mask_one MS W'.heap.size (W'.alloc (.cells #[.int .u64 (MS : Nat)] 22)) b3 (blk_new W' _))
      have HI2' := Lib.hid hI2
      have HRL2 := Lib.hid hr2'
      have hls2 := lt_of_block hr2'
      have HBHa := Lib.hid bH2
      have HBMa := Lib.hid bM
      have HBNa := Lib.hid hBN
      have HKFa := Lib.hid hKF
      have hw12 : w1.heap.size ≤ w2.heap.size := by omega
      have hw2W : w2.heap.size ≤ W'.heap.size := by omega
      have HSW' : Hid ((W'.alloc (.cells #[.int .u64 (MS : Nat)] 22)).heap.size = W'.heap.size + 1) := Lib.hid (by simp)
      have HBA' := Lib.hid (show Below W'.heap.size W' (W'.alloc (.cells #[.int .u64 (MS : Nat)] 22)) from (Below.refl _ _).alloc (Nat.le_refl _) _)
      obtain ⟨W2, hW2⟩ : ∃ W2, W'.alloc (.cells #[.int .u64 (MS : Nat)] 22) = W2 := ⟨_, rfl⟩
      rw [hW2] at HM3 HSW' HBA'
      clear hI2 hr2' bH2 bM hBN hKF
      gi_wp2_with fail
      try rw [hW2]
      refine ⟨trivial, fun h => by omega, (((callsIn_wide.2 HM3.out).inRound l1).inRound l2).mono ?_⟩
      clear hW2 c3
      rintro e w3 ⟨rfl, hbx3, hb3⟩
      rw [HSW'.out] at hbx3 ⊢
      have hs3 := lt_of_block hbx3
      have HBX3 := Lib.hid hbx3
      have HBW' := Lib.hid (HBA'.out.trans (hb3.mono (by have := HSW'.out; omega)))
      have HR3 := Lib.hid (HI2'.out.grown HBW'.out)
      have hr3 := (HBW'.out.block _ hls2).trans HRL2.out
      have HBH3 := Lib.hid ((HBW'.out.block _ (lt_of_block HBHa.out)).trans HBHa.out)
      have HBM3 := Lib.hid ((HBW'.out.block _ (lt_of_block HBMa.out)).trans HBMa.out)
      clear hbx3 hb3
      gi_wp2
      refine wpIn_rangeFunc_ownN (l₀ := l2) (r₀ := r2) rfl hr3 (by omega) (gf := 57) (lb := #[.pointer (some ⟨W'.heap.size + 1, 0, none⟩)]) rfl trivial (enters_of Tryd.func57 (by kernel_rfl) rfl)
        (((mseq_stops (n - 1 - 1 - 1 - 1 - 1) (by omega) (fun i => MS.testBit i) (W'.heap.size + 1) N w3 hs3 (by omega) (by rw [mk_self MS b3, blk_cell HBX3.out]; rfl) (HT.out.but HR3.out.2.2.1 (by omega)) hTg).inRound l1).inRound l2) belowK_t (belowK_b (by omega)) (Below.refl _ _) (fun _ => rfl)
        (fun pre'' X => ((Rn Fv w F N l mo (hours pre (numsP MM.testBit 64) (numsP MS.testBit 64) ++ mins pre' (numsP MS.testBit 64) x ++ pre''.map (jW x y)) X ∧ Boxed X hb 3 (.int .i64 x)) ∧ Boxed X mb 3 (.int .i64 y)) ∧ (Below N W' X ∧ KeepsFrom w1.heap.size W' X))
        (fun c pre'' X => (c = Code.exit 0 ∧ ∃ told, told <+: hours pre (numsP MM.testBit 64) (numsP MS.testBit 64) ++ mins pre' (numsP MS.testBit 64) x ++ pre''.map (jW x y) ∧ Rx w F N l mo told X) ∧ KeepsFrom w1.heap.size W' X)
        (OwnFrom.and (OwnFrom.and (OwnFrom.and (Rn.own (by omega) (fun pre'' => hours pre (numsP MM.testBit 64) (numsP MS.testBit 64) ++ mins pre' (numsP MS.testBit 64) x ++ pre''.map (jW x y))) (Own.from (boxed_own hb 3 (fun _ => Value.int .i64 x)) _)) (Own.from (boxed_own mb 3 (fun _ => Value.int .i64 y)) _)) (OwnFrom.and (ownFrom_below (by omega) (by omega)) (ownFrom_keepsFrom (by omega))))
        (fun c => OwnFrom.and (Rx.own (by omega) (fun pre'' => hours pre (numsP MM.testBit 64) (numsP MS.testBit 64) ++ mins pre' (numsP MS.testBit 64) x ++ pre''.map (jW x y))) (ownFrom_keepsFrom (by omega)))
        ⟨⟨⟨by simpa using HR3.out, HBH3.out⟩, HBM3.out⟩, HBW'.out.mono (by omega), keeps_below HBW'.out⟩
        (fun z a3 _ => a3 = { tmps := #[Fv, .pointer (some ⟨x1, 0, none⟩), .pointer (some ⟨x2, 0, none⟩), .pointer (some ⟨x3, 0, none⟩), .pointer (some ⟨w.heap.size, 0, none⟩), .pointer (some ⟨hb, 0, none⟩), .pointer (some ⟨mb, 0, none⟩), .int .i64 z, .int .u64 (MH : Nat), .slice (some ⟨w.heap.size + 1, 0, none⟩) 1 1, .func (.func 57) #[] #[.pointer (some ⟨w.heap.size + 2, 0, none⟩)], .int .i64 x, .int .u64 (MM : Nat), .slice (some ⟨W.heap.size, 0, none⟩) 1 1, .func (.func 57) #[] #[.pointer (some ⟨W.heap.size + 1, 0, none⟩)], .int .i64 y, .int .u64 (MS : Nat), .slice (some ⟨W'.heap.size, 0, none⟩) 1 1, .func (.func 57) #[] #[.pointer (some ⟨W'.heap.size + 1, 0, none⟩)], .int .i64 z, undef, undef, undef, undef, undef, undef, undef], defers := [] })
        (fun _ _ _ _ _ _ hs _ _ => hs)
        ?assign3 ?body3 ?done3 ?stop3
      case assign3 =>
        intro l3 pre'' z X K hI3 hK
        gi_wp2
        exact hK _ _ (KeepsFrom.refl _ _) (Below.refl _ _) hI3 rfl
      case done3 =>
        rintro zs X rfl ⟨⟨⟨hI3, bH3⟩, bM3⟩, hB3, hK3⟩
        have HY1 := Lib.hid hI3
        have HY2 := Lib.hid bH3
        have HY3 := Lib.hid hB3
        have HY4 := Lib.hid hK3
        clear hI3 bH3 bM3 hB3 hK3
        gi_wp2
        exact ⟨KeepsFrom.up HY4.out hw12, HY3.out, ⟨by show Rn Fv w F N l mo (hours pre (numsP MM.testBit 64) (numsP MS.testBit 64) ++ mins (pre' ++ [y]) (numsP MS.testBit 64) x) X; rw [mins_snoc, ← List.append_assoc]; exact HY1.out, HY2.out⟩, HBNa.out.trans HY3.out, HKFa.out.trans HY4.out⟩
      case stop3 =>
        rintro c pre'' X hpre ⟨⟨rfl, told, hp, hx⟩, hK3⟩
        refine wpIn_exit ?_
        exact ⟨KeepsFrom.up hK3 hw12, ⟨rfl, told, by rw [mins_snoc, ← List.append_assoc]; exact hp.trans (pre_in (map_pre _ hpre)), hx⟩, HKFa.out.trans hK3⟩
      case body3 =>
        rintro l3 pre'' z a3 X hl3 _ ⟨⟨⟨hI3, bH3⟩, bM3⟩, hB3, hK3⟩ rfl hlt3
        have hF := HF.out
        subst hF
        have cY := blk_cell (show X.heap[w.heap.size]? = some (.cells #[_] 31 (0, 0)) from hI3.2.1) 0
        have cH := blk_cell (show X.heap[hb]? = some (.cells #[_] 3 (0, 0)) from bH3) 0
        have cM := blk_cell (show X.heap[mb]? = some (.cells #[_] 3 (0, 0)) from bM3) 0
        obtain ⟨hTa3, hY3, hBut3, hgo3, hlen3⟩ := hI3
        have hXsz := hBut3.size
        have cL : X.drew.cell? ⟨L, 0, none⟩ = some (.slice A0 l.length c0) := (World.cell?_of_block (hBut3.block L hLw (by omega))).trans HL.out
        have cQ : X.drew.cell? ⟨Q, 0, none⟩ = some (.int .u16 mo) := (World.cell?_of_block (hBut3.block Q hQw (by omega))).trans HQ.out
        have hiX : Ints .i64 X.drew A0 l := fun j hj => by
          obtain ⟨b, off, e1, e2, e3⟩ := HI.out j hj
          have := hA b off (by omega) e1
          exact ⟨b, off, e1, Nat.lt_of_lt_of_le e2 hBut3.size, (World.cell?_of_block (hBut3.block b e2 (by omega))).trans e3⟩
        have HCL := Lib.hid (cl7_any F N L Q A0 c0 l _ mo (jW x y z) X.drew hTa3 cL cQ hiX HLL.out hlen3 hmo (by omega) (by omega) (by omega) (by omega) (by omega))
        have HJ := Lib.hid (join_gen x y z X.drew)
        have HTE := Lib.hid (show hours pre (numsP MM.testBit 64) (numsP MS.testBit 64) ++ mins pre' (numsP MS.testBit 64) x ++ (pre'' ++ [z]).map (jW x y) = (hours pre (numsP MM.testBit 64) (numsP MS.testBit 64) ++ mins pre' (numsP MS.testBit 64) x ++ pre''.map (jW x y)) ++ [jW x y z] by simp)
        generalize htd : hours pre (numsP MM.testBit 64) (numsP MS.testBit 64) ++ mins pre' (numsP MS.testBit 64) x ++ pre''.map (jW x y) = td at HCL HTE hTa3 hgo3 hlen3
        have HTD := Lib.hid htd
        have HTA := Lib.hid hTa3
        have HYB := Lib.hid hY3
        have HBT := Lib.hid hBut3
        have HHB := Lib.hid bH3
        have HMB := Lib.hid bM3
        have HGO := Lib.hid hgo3
        have HL3 := Lib.hid hlen3
        have HB3 := Lib.hid hB3
        have HK3 := Lib.hid hK3
        clear htd hTa3 hY3 hBut3 hgo3 hlen3 hB3 hK3 bH3 bM3 cL cQ hiX
        obtain ⟨cb, hcb⟩ : ∃ cb, contB mo (td.length + 1) = cb := ⟨_, rfl⟩
        rw [hcb] at HCL
        have HCB := Lib.hid hcb
        clear hcb
        refine wpIn_block (wpIn_seq (wpIn_mono (Q := fun e a X' => e = .normal ∧ a = { tmps := #[.func (.func 11) #[] #[.pointer (some ⟨F, 0, none⟩), .pointer (some ⟨N, 0, none⟩), .pointer (some ⟨L, 0, none⟩), .pointer (some ⟨Q, 0, none⟩)], .pointer (some ⟨x1, 0, none⟩), .pointer (some ⟨x2, 0, none⟩), .pointer (some ⟨x3, 0, none⟩), .pointer (some ⟨w.heap.size, 0, none⟩), .pointer (some ⟨hb, 0, none⟩), .pointer (some ⟨mb, 0, none⟩), .int .i64 z, .int .u64 (MH : Nat), .slice (some ⟨w.heap.size + 1, 0, none⟩) 1 1, .func (.func 57) #[] #[.pointer (some ⟨w.heap.size + 2, 0, none⟩)], .int .i64 x, .int .u64 (MM : Nat), .slice (some ⟨W.heap.size, 0, none⟩) 1 1, .func (.func 57) #[] #[.pointer (some ⟨W.heap.size + 1, 0, none⟩)], .int .i64 y, .int .u64 (MS : Nat), .slice (some ⟨W'.heap.size, 0, none⟩) 1 1, .func (.func 57) #[] #[.pointer (some ⟨W'.heap.size + 1, 0, none⟩)], .int .i64 z, .func (.func 11) #[] #[.pointer (some ⟨F, 0, none⟩), .pointer (some ⟨N, 0, none⟩), .pointer (some ⟨L, 0, none⟩), .pointer (some ⟨Q, 0, none⟩)], .int .i64 x, .int .i64 y, .int .i64 z, .int .i64 (jW x y z), .bool cb, .bool (!cb)], defers := [] } ∧ Ta F N l (td ++ [jW x y z]) X' ∧ But (fun k => k = F ∨ k = N) X.drew X') ?reg ?rest))
        case reg =>
          gi_region_with_o (first | (refine ⟨trivial, fun h => by omega, ((((callsIn_wide.2 HJ.out).inRound l1).inRound l2).inRound l3).mono ?_⟩; rintro e w' ⟨rfl, rfl⟩) | (refine ⟨trivial, fun h => by omega, ((((callsIn_wide.2 HCL.out).inRound l1).inRound l2).inRound l3).mono ?_⟩; rintro e X' ⟨rfl, hta, hbt⟩))
          all_goals exact ⟨rfl, rfl, hta, hbt⟩
        case rest =>
          rintro e a X' ⟨rfl, rfl, hta, hbt0⟩
          have hbt : But (fun k => k = F ∨ k = N) X X' := ⟨hbt0.os, hbt0.tape, hbt0.output, hbt0.size, hbt0.block⟩
          have HKF := Lib.hid (keeps_but (B := w1.heap.size) hbt HTA.out)
          have HBN := Lib.hid (below_but hNF hbt (by omega))
          have HH2 := Lib.hid (show Boxed X' hb 3 (.int .i64 x) from hbt.blk HHB.out (by omega))
          have HM2' := Lib.hid (show Boxed X' mb 3 (.int .i64 y) from hbt.blk HMB.out (by omega))
          have HY2 := Lib.hid (show Boxed X' w.heap.size 31 _ from hbt.blk HYB.out (by omega))
          have HTL := Lib.hid hta
          have HB2 := Lib.hid (HBT.out.trans hbt)
          have hlen : (td ++ [jW x y z]).length = td.length + 1 := by simp
          have hcb := HCB.out
          unfold contB at hcb
          have hgo := HGO.out
          have hl3' := HL3.out
          have hsize := hbt.size
          clear hta hbt0 hbt
          show Code.wpIn _ _ _ _ _ _ _
          cases cb
          · have hst : (mo ≠ 0 ∧ (td ++ [jW x y z]).length = mo) ∨ 90000 ≤ (td ++ [jW x y z]).length := by
              rw [hlen]
              rw [Bool.and_eq_false_iff] at hcb
              rcases hcb with h | h
              · left
                have : td.length + 1 = mo := by simpa using h
                omega
              · right
                have : ¬ td.length + 1 < 90000 := by simpa using h
                omega
            clear hcb hgo hlen
            gi_wp2
            exact ⟨KeepsFrom.up HKF.out (by omega), ⟨rfl, _, by rw [← List.append_assoc, HTE.out]; exact List.prefix_refl _, HTL.out, HB2.out, hst⟩, HK3.out.trans HKF.out⟩
          · have hst : (mo = 0 ∨ (td ++ [jW x y z]).length < mo) ∧ (td ++ [jW x y z]).length < 90000 := by
              rw [hlen]
              rw [Bool.and_eq_true] at hcb
              have h1 : ¬ td.length + 1 = mo := by simpa using hcb.1
              have h2 : td.length + 1 < 90000 := by simpa using hcb.2
              omega
            clear hcb hgo hlen
            gi_wp2
            exact ⟨KeepsFrom.up HKF.out (by omega), HBN.out, ⟨⟨by rw [← List.append_assoc, HTE.out]; exact ⟨HTL.out, HY2.out, HB2.out, hst⟩, HH2.out⟩, HM2'.out⟩, HB3.out.trans HBN.out, HK3.out.trans HKF.out⟩
end Go.Proofs.YtjpdfbljhbgbcaaDoor
