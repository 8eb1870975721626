/- Whether a day is one of an Ord's weekdays (layer 13). The function that tells whether a day may have instants on a step (layers 10 and 13). Whether a day has a clause: the function that clause.Days makes (layer 13). clause.Days and clause.Day (layer 13). clause.Day (layer 13). -/
import Derived.Test.YtbfndcogieiejaaDoorCmE
import Derived.Test.YtbfndcogieiejaaDoorRow
import Derived.Test.YtbfndcogieiejaaDoorUnB
import Derived.BigQuiet
import Derived.Deep.RegionHeld3
namespace Go.Proofs.YtbfndcogieiejaaDoor
open Go.RowKit
set_option linter.unusedVariables false

/-- a day's shape: ten numbers -/
structure Sp where
  (n y m d bk wk im om iy oy : Int)
def spC (s : Sp) : Array Value := #[.int .i64 s.n, .int .i64 s.y, .int .i64 s.m, .int .i64 s.d, .int .i64 s.bk, .int .i64 s.wk, .int .i64 s.im, .int .i64 s.om, .int .i64 s.iy, .int .i64 s.oy]
def spV (s : Sp) : Value := .agg (spC s)
theorem size_allocD (w : World) (o : Obj) : (w.alloc o).heap.size = w.heap.size + 1 := by simp
/-- has a day an Ord? -/
def ordS (n : Int) (b : Bool) (D : Nat → Nat) (s : Sp) : Bool :=
  if n = 0 then true else if s.wk < 1 ∨ 7 < s.wk then false else inM (D s.wk.toNat) (if n = 1 then (if b then s.om else s.im) else (if b then s.oy else s.iy))
set_option maxHeartbeats 1600000 in
set_option maxRecDepth 20000 in
theorem ordered_any (n : Int) (b : Bool) (D : Nat → Nat) (hD : ∀ i, D i < 18446744073709551616) (s : Sp) (w : World) : Calls Tryd.prog 52 #[ordV n b D, spV s] w fun e w' => e = .returned (.bool (ordS n b D s)) ∧ Below w.heap.size w w' := by
  have HB0 := Lib.hid (show Below w.heap.size w ((w.alloc (.cells (ordC n b D) 25)).alloc (.cells (spC s) 40)) from ((Below.refl _ _).alloc (Nat.le_refl _) _).alloc (by simp) _)
  have HG0 := Lib.hid (blk_more (blk_new w (.cells (ordC n b D) 25)) (.cells (spC s) 40))
  have HS0 := Lib.hid (blk_new (w.alloc (.cells (ordC n b D) 25)) (.cells (spC s) 40))
  rw [size_allocD] at HS0
  have HE := Lib.hid (show ordS n b D s = if n = 0 then true else if s.wk < 1 ∨ 7 < s.wk then false else inM (D s.wk.toNat) (if n = 1 then (if b then s.om else s.im) else (if b then s.oy else s.iy)) from rfl)
  generalize ordS n b D s = bb at HE ⊢
  have KH := Lib.hid (fun (k : Nat) (i : Int) (W : World) => has_any (D k) i W (hD k))
  have x0 := blk_cell HG0.out 0
  have x1 := blk_cell HG0.out 1
  have HX := Lib.hid (fun (j : Nat) (hj : j < 8) => (blk_cell HG0.out (2 + j)).trans (ordC_get n b D j hj))
  rw [show (ordC n b D)[0]? = some (.int .i64 n) from rfl] at x0
  rw [show (ordC n b D)[1]? = some (.bool b) from rfl] at x1
  have y5 := blk_cell HS0.out 5
  have y6 := blk_cell HS0.out 6
  have y7 := blk_cell HS0.out 7
  have y8 := blk_cell HS0.out 8
  have y9 := blk_cell HS0.out 9
  rw [show (spC s)[5]? = some (.int .i64 s.wk) from rfl] at y5
  rw [show (spC s)[6]? = some (.int .i64 s.im) from rfl] at y6
  rw [show (spC s)[7]? = some (.int .i64 s.om) from rfl] at y7
  rw [show (spC s)[8]? = some (.int .i64 s.iy) from rfl] at y8
  rw [show (spC s)[9]? = some (.int .i64 s.oy) from rfl] at y9
  clear hD HG0 HS0
  obtain ⟨W0, hW0⟩ : ∃ W0, (w.alloc (.cells (ordC n b D) 25)).alloc (.cells (spC s) 40) = W0 := ⟨_, rfl⟩
  rw [hW0] at HB0 x0 x1 HX y5 y6 y7 y8 y9
  unfold ordV ordC spV spC
  unfold ordC spC at hW0
  by_cases h0 : n = 0
  · have HE1 := Lib.hid (show bb = true by rw [HE.out, if_pos h0])
    have e0 : (n == 0) = true := by rw [beq_iff_eq]; exact h0
    clear HE h0 KH HX
    go_enter Tryd.func52, Tryd.ntmps52
    go_wp2
    go_ret
    exact ⟨by rw [HE1.out]; rfl, HB0.out⟩
  · have e0 : (n == 0) = false := by rw [beq_eq_false_iff_ne]; exact h0
    by_cases h1 : s.wk < 1
    · have HE1 := Lib.hid (show bb = false by rw [HE.out, if_neg h0, if_pos (.inl h1)])
      have d1 : decide (s.wk < 1) = true := dec_t h1
      clear HE h0 h1 KH HX
      go_enter Tryd.func52, Tryd.ntmps52
      go_wp2
      go_ret
      exact ⟨by rw [HE1.out]; rfl, HB0.out⟩
    · have d1 : decide (s.wk < 1) = false := dec_n h1
      by_cases h2 : 7 < s.wk
      · have HE1 := Lib.hid (show bb = false by rw [HE.out, if_neg h0, if_pos (.inr h2)])
        have d2 : decide (7 < s.wk) = true := dec_t h2
        clear HE h0 h1 h2 KH HX
        go_enter Tryd.func52, Tryd.ntmps52
        go_wp2
        go_ret
        exact ⟨by rw [HE1.out]; rfl, HB0.out⟩
      · have d2 : decide (7 < s.wk) = false := dec_n h2
        obtain ⟨k, hk⟩ := Int.eq_ofNat_of_zero_le (show 0 ≤ s.wk by omega)
        have HE1 := Lib.hid (show bb = inM (D k) (if n = 1 then (if b then s.om else s.im) else (if b then s.oy else s.iy)) by rw [HE.out, if_neg h0, if_neg (by omega), hk]; rfl)
        have hk8 : k < 8 := by omega
        have d3 : decide ((k : Int) < 0) = false := dec_n (by omega)
        have d4 : decide ((k : Int) < 8) = true := dec_t (by omega)
        have xk := HX.out k hk8
        generalize s.wk = wk at *
        subst hk
        clear HE h0 h1 h2 HX
        by_cases h3 : n = 1
        · have e1 : (n == 1) = true := by rw [beq_iff_eq]; exact h3
          rw [if_pos h3] at HE1
          clear h3
          cases b
          · have K := KH.out k s.im
            clear KH
            go_enter Tryd.func52, Tryd.ntmps52
            go_wp2_with fail
            refine (K _).mono ?_
            rintro e w' ⟨rfl, rfl⟩
            go_wp2
            go_ret
            exact ⟨by rw [HE1.out]; rfl, HB0.out⟩
          · have K := KH.out k s.om
            clear KH
            go_enter Tryd.func52, Tryd.ntmps52
            go_wp2_with fail
            refine (K _).mono ?_
            rintro e w' ⟨rfl, rfl⟩
            go_wp2
            go_ret
            exact ⟨by rw [HE1.out]; rfl, HB0.out⟩
        · have e1 : (n == 1) = false := by rw [beq_eq_false_iff_ne]; exact h3
          rw [if_neg h3] at HE1
          clear h3
          cases b
          · have K := KH.out k s.iy
            clear KH
            go_enter Tryd.func52, Tryd.ntmps52
            go_wp2_with fail
            refine (K _).mono ?_
            rintro e w' ⟨rfl, rfl⟩
            go_wp2
            go_ret
            exact ⟨by rw [HE1.out]; rfl, HB0.out⟩
          · have K := KH.out k s.oy
            clear KH
            go_enter Tryd.func52, Tryd.ntmps52
            go_wp2_with fail
            refine (K _).mono ?_
            rintro e w' ⟨rfl, rfl⟩
            go_wp2
            go_ret
            exact ⟨by rw [HE1.out]; rfl, HB0.out⟩
end Go.Proofs.YtbfndcogieiejaaDoor
namespace Go.Proofs.YtbfndcogieiejaaDoor
open Go.RowKit Civ
set_option linter.unusedVariables false

set_option maxHeartbeats 800000 in
set_option maxRecDepth 20000 in
theorem udays_lo (u st an A : Int) (hu1 : 0 ≤ u) (hu2 : u < 3) (hst : 1 ≤ st) (hW : Both u an A) (w : World) : Calls Tryd.prog 48 #[.int .i64 u, .int .i64 st, .int .i64 an] w fun e w' => ∃ g, e = .returned (.func (.func 74) #[] #[.pointer (some ⟨g, 0, none⟩)]) ∧ w'.heap[g]? = some (.cells #[.bool true] 4 (0, 0)) ∧ w.heap.size ≤ g ∧ Below w.heap.size w w' := by
  have K := hW.1
  have d1 : decide (1 ≤ st) = true := dec_t hst
  have d2 : decide (u < 3) = true := dec_t hu2
  have HB0 := Lib.hid (show Below w.heap.size w ((w.alloc (.cells #[.int .i64 u] 3)).alloc (.cells #[.int .i64 st] 2)) from ((Below.refl _ _).alloc (Nat.le_refl _) _).alloc (by simp) _)
  have HG0 := Lib.hid (blk_more (blk_new w (.cells #[.int .i64 u] 3)) (.cells #[.int .i64 st] 2))
  have HS0 := Lib.hid (blk_new (w.alloc (.cells #[.int .i64 u] 3)) (.cells #[.int .i64 st] 2))
  rw [size_allocD] at HS0
  have a0 := blk_cell HG0.out 0
  rw [show (#[Value.int .i64 u] : Array Value)[0]? = some (.int .i64 u) from rfl] at a0
  generalize hX : (w.alloc (.cells #[.int .i64 u] 3)).alloc (.cells #[.int .i64 st] 2) = W0 at HB0 HG0 HS0 a0
  clear hu1 hu2 hst hW
  go_enter Tryd.func48, Tryd.ntmps48
  go_wp2_with fail
  try rw [hX]
  clear hX
  refine (K _).mono ?_
  rintro e w1 ⟨rfl, hb⟩
  have x0 : w1.cell? ⟨w.heap.size, 0, none⟩ = some (.int .i64 u) := blk_cell ((hb.block _ (lt_of_block HG0.out)).trans HG0.out) 0
  have x1 : w1.cell? ⟨w.heap.size + 1, 0, none⟩ = some (.int .i64 st) := blk_cell ((hb.block _ (lt_of_block HS0.out)).trans HS0.out) 0
  have l0 : w.heap.size < w1.heap.size := Nat.lt_of_lt_of_le (lt_of_block HG0.out) hb.size
  have l1 : w.heap.size + 1 < w1.heap.size := Nat.lt_of_lt_of_le (lt_of_block HS0.out) hb.size
  have HB := Lib.hid (HB0.out.trans (hb.mono HB0.out.size))
  clear hb K HG0 HS0 HB0
  go_wp2
  go_ret
  refine ⟨w1.heap.size + 1, rfl, ?_, ?_, ?_⟩
  · have q := blk_new (w1.alloc (.cells #[.int .i64 A] 2)) (.cells #[.bool true] 4)
    rw [size_allocD] at q
    exact q
  · have := HB.out.size; omega
  · exact (HB.out.alloc HB.out.size _).alloc (by have := HB.out.size; simp; omega) _
set_option maxRecDepth 20000 in
theorem udays1_any (s : Sp) (g : Nat) (b : Bool) (w : World) (h : w.heap[g]? = some (.cells #[.bool b] 4 (0, 0))) : Calls Tryd.prog 74 #[spV s, .pointer (some ⟨g, 0, none⟩)] w fun e w' => e = .returned (.bool b) ∧ Below w.heap.size w w' := by
  have HB0 := Lib.hid (show Below w.heap.size w (w.alloc (.cells (spC s) 40)) from (Below.refl _ _).alloc (Nat.le_refl _) _)
  have x0 : (w.alloc (.cells (spC s) 40)).cell? ⟨g, 0, none⟩ = some (.bool b) := blk_cell (blk_more h _) 0
  generalize hX : w.alloc (.cells (spC s) 40) = W0 at HB0 x0
  unfold spV spC
  unfold spC at hX
  go_enter Tryd.func74, Tryd.ntmps74
  go_wp2
  go_ret
  exact ⟨rfl, HB0.out⟩
end Go.Proofs.YtbfndcogieiejaaDoor
namespace Go.Proofs.YtbfndcogieiejaaDoor
open Go.RowKit Civ
set_option linter.unusedVariables false

/-- has a day a clause, but for its step? -/
def dateB (c : Cl) (s : Sp) : Bool := inM c.mo s.m && (inM c.e s.bk && (hasW c.P (s.y - 1970) && (((inM c.d s.d && inM c.wk s.wk) || (c.orr && (inM c.d s.d || inM c.wk s.wk))) && ordS c.n c.b c.D s)))
/-- the cells of a clause that its day's test reads -/
def Reads (g : Nat) (c : Cl) (X : World) : Prop := X.cell? ⟨g, 3, none⟩ = some (.int .u64 (c.mo : Nat)) ∧ X.cell? ⟨g, 4, none⟩ = some (.int .u64 (c.d : Nat)) ∧ X.cell? ⟨g, 5, none⟩ = some (.int .u64 (c.e : Nat)) ∧ X.cell? ⟨g, 6, none⟩ = some (.int .u64 (c.wk : Nat)) ∧ X.cell? ⟨g, 7, none⟩ = some (.bool c.orr) ∧ X.cell? ⟨g, 8, none⟩ = some (.int .i64 c.n) ∧ X.cell? ⟨g, 9, none⟩ = some (.bool c.b) ∧ X.cell? ⟨g, 10, none⟩ = some (.int .u64 (c.D 0 : Nat)) ∧ X.cell? ⟨g, 11, none⟩ = some (.int .u64 (c.D 1 : Nat)) ∧ X.cell? ⟨g, 12, none⟩ = some (.int .u64 (c.D 2 : Nat)) ∧ X.cell? ⟨g, 13, none⟩ = some (.int .u64 (c.D 3 : Nat)) ∧ X.cell? ⟨g, 14, none⟩ = some (.int .u64 (c.D 4 : Nat)) ∧ X.cell? ⟨g, 15, none⟩ = some (.int .u64 (c.D 5 : Nat)) ∧ X.cell? ⟨g, 16, none⟩ = some (.int .u64 (c.D 6 : Nat)) ∧ X.cell? ⟨g, 17, none⟩ = some (.int .u64 (c.D 7 : Nat)) ∧ X.cell? ⟨g, 18, none⟩ = some (.int .u64 (wv c.P 0 : Nat)) ∧ X.cell? ⟨g, 19, none⟩ = some (.int .u64 (wv c.P 1 : Nat)) ∧ X.cell? ⟨g, 20, none⟩ = some (.int .u64 (wv c.P 2 : Nat)) ∧ X.cell? ⟨g, 21, none⟩ = some (.int .u64 (wv c.P 3 : Nat)) ∧ X.cell? ⟨g, 22, none⟩ = some (.int .u64 (wv c.P 4 : Nat)) ∧ X.cell? ⟨g, 23, none⟩ = some (.int .u64 (wv c.P 5 : Nat)) ∧ X.cell? ⟨g, 24, none⟩ = some (.int .u64 (wv c.P 6 : Nat))
theorem ClAt.reads {X : World} {g : Nat} {c : Cl} (h : ClAt X g c) : Reads g c X := ⟨blk_cell h 3, blk_cell h 4, blk_cell h 5, blk_cell h 6, blk_cell h 7, blk_cell h 8, blk_cell h 9, blk_cell h 10, blk_cell h 11, blk_cell h 12, blk_cell h 13, blk_cell h 14, blk_cell h 15, blk_cell h 16, blk_cell h 17, blk_cell h 18, blk_cell h 19, blk_cell h 20, blk_cell h 21, blk_cell h 22, blk_cell h 23, blk_cell h 24⟩
def SpAt (X : World) (g : Nat) (s : Sp) : Prop := X.heap[g]? = some (.cells (spC s) 40 (0, 0))
theorem SpAt.reads {X : World} {g : Nat} {s : Sp} (h : SpAt X g s) : X.cell? ⟨g, 0, none⟩ = some (.int .i64 s.n) ∧ X.cell? ⟨g, 1, none⟩ = some (.int .i64 s.y) ∧ X.cell? ⟨g, 2, none⟩ = some (.int .i64 s.m) ∧ X.cell? ⟨g, 3, none⟩ = some (.int .i64 s.d) ∧ X.cell? ⟨g, 4, none⟩ = some (.int .i64 s.bk) ∧ X.cell? ⟨g, 5, none⟩ = some (.int .i64 s.wk) ∧ X.cell? ⟨g, 6, none⟩ = some (.int .i64 s.im) ∧ X.cell? ⟨g, 7, none⟩ = some (.int .i64 s.om) ∧ X.cell? ⟨g, 8, none⟩ = some (.int .i64 s.iy) ∧ X.cell? ⟨g, 9, none⟩ = some (.int .i64 s.oy) := ⟨blk_cell h 0, blk_cell h 1, blk_cell h 2, blk_cell h 3, blk_cell h 4, blk_cell h 5, blk_cell h 6, blk_cell h 7, blk_cell h 8, blk_cell h 9⟩
theorem SpAt.below {W W' : World} {g : Nat} {s : Sp} (h : SpAt W g s) (hb : Below W.heap.size W W') : SpAt W' g s := (hb.block _ (lt_of_block h)).trans h
/-- a function that tells of a day whether it is on a step -/
def Steps1 (w : World) (F : Nat) (caps : Array Value) (s : Sp) (sb : Bool) : Prop := ∀ W, Below w.heap.size w W → Calls Tryd.prog F (#[spV s] ++ caps) W fun e w' => e = .returned (.bool sb) ∧ Below W.heap.size W w'

set_option maxHeartbeats 3200000 in
set_option maxRecDepth 20000 in
theorem cday2_any (c : Cl) (hc : ClIn c) (s : Sp) (hy1 : 0 ≤ s.y) (hy2 : s.y < 1000000) (gC gS F : Nat) (caps : Array Value) (sb : Bool) (w : World) (hC : ClAt w gC c) (hS : w.cell? ⟨gS, 0, none⟩ = some (.func (.func F) #[] caps))
    (hF : ∀ (args : Array Value) (w : World), Sem.run Tryd.prog (callFunc F args) w = .ok (.enter F args) w) (hst : Steps1 w F caps s sb) :
    Calls Tryd.prog 49 #[spV s, .pointer (some ⟨gC, 0, none⟩), .pointer (some ⟨gS, 0, none⟩)] w fun e w' => e = .returned (.bool (dateB c s && sb)) ∧ Below w.heap.size w w' := by
  obtain ⟨h1, h2, h3, h4, h5, h6, h7, hD⟩ := hc
  have HB0 := Lib.hid (show Below w.heap.size w (w.alloc (.cells (spC s) 40)) from (Below.refl _ _).alloc (Nat.le_refl _) _)
  have HC0 := Lib.hid (show ClAt (w.alloc (.cells (spC s) 40)) gC c from blk_more hC _)
  have HP0 := Lib.hid (show SpAt (w.alloc (.cells (spC s) 40)) w.heap.size s from blk_new w _)
  have HT := Lib.hid hst
  have f0 := (HB0.out.cell (p := ⟨gS, 0, none⟩) (ucell_lt hS)).trans hS
  have lS := ucell_lt hS
  have wy : IntKind.i64.wrap (s.y - 1970) = s.y - 1970 := IntWalk.i64_in _ ⟨by omega, by omega⟩
  have K1 := fun W => has_any c.mo s.m W h4
  have K2 := fun W => has_any c.e s.bk W h6
  have K3 := fun W => whas_any c.P (s.y - 1970) W
  have K4 := fun W => (has_any c.d s.d W h5).mono fun _ _ h => (⟨h.1, h.2.symm⟩ : _ ∧ _)
  have K5 := fun W => (has_any c.wk s.wk W h7).mono fun _ _ h => (⟨h.1, h.2.symm⟩ : _ ∧ _)
  have K6 := fun W => ordered_any c.n c.b c.D hD s W
  unfold S7 c7 at K3
  unfold ordV ordC spV spC at K6
  have HE0 := Lib.hid (show (dateB c s && sb) = (inM c.mo s.m && (inM c.e s.bk && (hasW c.P (s.y - 1970) && (((inM c.d s.d && inM c.wk s.wk) || (c.orr && (inM c.d s.d || inM c.wk s.wk))) && ordS c.n c.b c.D s))) && sb) from rfl)
  generalize (dateB c s && sb) = bb at HE0 ⊢
  generalize inM c.mo s.m = q1 at K1 HE0
  generalize inM c.e s.bk = q2 at K2 HE0
  generalize hasW c.P (s.y - 1970) = q3 at K3 HE0
  generalize inM c.d s.d = q4 at K4 HE0
  generalize inM c.wk s.wk = q5 at K5 HE0
  generalize ordS c.n c.b c.D s = q6 at K6 HE0
  clear h1 h2 h3 h4 h5 h6 h7 hD hy1 hy2 hC hS hst
  obtain ⟨W0, hW0⟩ : ∃ W0, w.alloc (.cells (spC s) 40) = W0 := ⟨_, rfl⟩
  rw [hW0] at HB0 HC0 HP0 f0
  obtain ⟨r3, r4, r5, r6, r7, r8, r9, r10, r11, r12, r13, r14, r15, r16, r17, r18, r19, r20, r21, r22, r23, r24⟩ := HC0.out.reads
  obtain ⟨y0, y1, y2, y3, y4, y5, y6, y7, y8, y9⟩ := HP0.out.reads
  unfold spV spC
  unfold spC at hW0
  go_enter Tryd.func49, Tryd.ntmps49
  go_wp2_with fail
  refine (K1 _).mono ?_
  clear K1
  rintro e w1 ⟨rfl, rfl⟩
  cases q1
  · have HE := Lib.hid (show bb = false by rw [HE0.out]; rfl)
    clear HE0

    go_wp2
    go_ret
    exact ⟨by rw [HE.out]; rfl, HB0.out⟩
  · go_wp2_with fail
    refine (K2 _).mono ?_
    clear K2
    rintro e w1 ⟨rfl, rfl⟩
    cases q2
    · have HE := Lib.hid (show bb = false by rw [HE0.out]; rfl)
      clear HE0
      go_wp2
      go_ret
      exact ⟨by rw [HE.out]; rfl, HB0.out⟩
    · go_wp2_with fail
      refine (K3 _).mono ?_
      clear K3
      rintro e w1 ⟨rfl, hb1⟩
      have HB1 := Lib.hid (HB0.out.trans (hb1.mono HB0.out.size))
      have HC1 := Lib.hid (HC0.out.below hb1)
      have HP1 := Lib.hid (HP0.out.below hb1)
      have f1 := (hb1.cell (p := ⟨gS, 0, none⟩) (ucell_lt f0)).trans f0
      clear hb1 r3 r4 r5 r6 r7 r8 r9 r10 r11 r12 r13 r14 r15 r16 r17 r18 r19 r20 r21 r22 r23 r24 y0 y1 y2 y3 y4 y5 y6 y7 y8 y9 HB0 HC0 HP0 f0 hW0
      obtain ⟨r3, r4, r5, r6, r7, r8, r9, r10, r11, r12, r13, r14, r15, r16, r17, r18, r19, r20, r21, r22, r23, r24⟩ := HC1.out.reads
      obtain ⟨y0, y1, y2, y3, y4, y5, y6, y7, y8, y9⟩ := HP1.out.reads
      cases q3
      · have HE := Lib.hid (show bb = false by rw [HE0.out]; rfl)
        clear HE0
        go_wp2
        go_ret
        exact ⟨by rw [HE.out]; rfl, HB1.out⟩
      · go_wp2
        go_quiet (first | (go_at_call 50; with_reducible exact Calls.quiet_of_same (K4 _)) | (go_at_call 50; with_reducible exact Calls.quiet_of_same (K5 _)))
        clear K4 K5
        have HQ := Lib.hid (show (bb = false ∧ ((q4 && q5) || (c.orr && (q4 || q5))) = false) ∨ (bb = (q6 && sb) ∧ ((q4 && q5) || (c.orr && (q4 || q5))) = true) by
          rw [HE0.out]
          cases ((q4 && q5) || (c.orr && (q4 || q5)))
          · exact .inl ⟨rfl, rfl⟩
          · exact .inr ⟨rfl, rfl⟩)
        clear HE0
        have HB2 := Lib.hid (Below.but HB1.out ((But.refl (fun _ => False) w1).drewN nq) (fun _ _ h => h))
        have HC2 := Lib.hid (show ClAt (w1.drewN nq) gC c from HC1.out)
        have HP2 := Lib.hid (show SpAt (w1.drewN nq) w.heap.size s from HP1.out)
        have f2 : (w1.drewN nq).cell? ⟨gS, 0, none⟩ = some (.func (.func F) #[] caps) := f1
        clear r3 r4 r5 r6 r7 r8 r9 r10 r11 r12 r13 r14 r15 r16 r17 r18 r19 r20 r21 r22 r23 r24 y0 y1 y2 y3 y4 y5 y6 y7 y8 y9 HB1 HC1 HP1 f1
        generalize w1.drewN nq = w2 at *
        obtain ⟨r3, r4, r5, r6, r7, r8, r9, r10, r11, r12, r13, r14, r15, r16, r17, r18, r19, r20, r21, r22, r23, r24⟩ := HC2.out.reads
        obtain ⟨y0, y1, y2, y3, y4, y5, y6, y7, y8, y9⟩ := HP2.out.reads
        clear r3 r4 r5 r6
        generalize c.orr = orr at r7 HQ
        rcases HQ.out with ⟨hE, hq⟩ | ⟨hE, hq⟩
        · have HE := Lib.hid hE
          clear hE HQ
          cases orr <;> cases q4 <;> cases q5 <;> first | (exfalso; revert hq; decide) | skip
          all_goals
            clear hq
            go_wp2
            go_ret
            exact ⟨by rw [HE.out]; rfl, HB2.out⟩
        · have HE0 := Lib.hid hE
          clear hE HQ
          cases orr <;> cases q4 <;> cases q5 <;> first | (exfalso; revert hq; decide) | skip
          all_goals
            clear hq
            go_wp2_with fail
            refine (K6 _).mono ?_
            rintro e w3 ⟨rfl, hb3⟩
            have HB3 := Lib.hid (HB2.out.trans (hb3.mono HB2.out.size))
            have HP3 := Lib.hid (HP2.out.below hb3)
            have f3 := (hb3.cell (p := ⟨gS, 0, none⟩) (ucell_lt f2)).trans f2
            have K7 := HT.out w3 HB3.out
            unfold spV spC at K7
            clear hb3 r7 r8 r9 r10 r11 r12 r13 r14 r15 r16 r17 r18 r19 r20 r21 r22 r23 r24 y0 y1 y2 y3 y4 y5 y6 y7 y8 y9 HB2 HC2 HP2 f2 K6
            obtain ⟨y0, y1, y2, y3, y4, y5, y6, y7, y8, y9⟩ := HP3.out.reads
            cases q6
            · have HE := Lib.hid (show bb = false by rw [HE0.out]; rfl)
              clear HE0 K7
              go_wp2
              go_ret
              exact ⟨by rw [HE.out]; rfl, HB3.out⟩
            · have HE := Lib.hid (show bb = sb by rw [HE0.out]; rfl)
              clear HE0
              go_wp2_with fail
              refine K7.mono ?_
              rintro e w4 ⟨rfl, hb4⟩
              have HB4 := Lib.hid (HB3.out.trans (hb4.mono HB3.out.size))
              clear hb4 K7 y0 y1 y2 y3 y4 y5 y6 y7 y8 y9 f3
              go_wp2
              go_ret
              exact ⟨by rw [HE.out]; rfl, HB4.out⟩

end Go.Proofs.YtbfndcogieiejaaDoor
namespace Go.Proofs.YtbfndcogieiejaaDoor
open Go.RowKit Civ
set_option linter.unusedVariables false

theorem ClAt.all {X : World} {g : Nat} {c : Cl} (h : ClAt X g c) : X.cell? ⟨g, 0, none⟩ = some (.int .u64 (c.s : Nat)) ∧ X.cell? ⟨g, 1, none⟩ = some (.int .u64 (c.m : Nat)) ∧ X.cell? ⟨g, 2, none⟩ = some (.int .u64 (c.h : Nat)) ∧ X.cell? ⟨g, 3, none⟩ = some (.int .u64 (c.mo : Nat)) ∧ X.cell? ⟨g, 4, none⟩ = some (.int .u64 (c.d : Nat)) ∧ X.cell? ⟨g, 5, none⟩ = some (.int .u64 (c.e : Nat)) ∧ X.cell? ⟨g, 6, none⟩ = some (.int .u64 (c.wk : Nat)) ∧ X.cell? ⟨g, 7, none⟩ = some (.bool c.orr) ∧ X.cell? ⟨g, 8, none⟩ = some (.int .i64 c.n) ∧ X.cell? ⟨g, 9, none⟩ = some (.bool c.b) ∧ X.cell? ⟨g, 10, none⟩ = some (.int .u64 (c.D 0 : Nat)) ∧ X.cell? ⟨g, 11, none⟩ = some (.int .u64 (c.D 1 : Nat)) ∧ X.cell? ⟨g, 12, none⟩ = some (.int .u64 (c.D 2 : Nat)) ∧ X.cell? ⟨g, 13, none⟩ = some (.int .u64 (c.D 3 : Nat)) ∧ X.cell? ⟨g, 14, none⟩ = some (.int .u64 (c.D 4 : Nat)) ∧ X.cell? ⟨g, 15, none⟩ = some (.int .u64 (c.D 5 : Nat)) ∧ X.cell? ⟨g, 16, none⟩ = some (.int .u64 (c.D 6 : Nat)) ∧ X.cell? ⟨g, 17, none⟩ = some (.int .u64 (c.D 7 : Nat)) ∧ X.cell? ⟨g, 18, none⟩ = some (.int .u64 (wv c.P 0 : Nat)) ∧ X.cell? ⟨g, 19, none⟩ = some (.int .u64 (wv c.P 1 : Nat)) ∧ X.cell? ⟨g, 20, none⟩ = some (.int .u64 (wv c.P 2 : Nat)) ∧ X.cell? ⟨g, 21, none⟩ = some (.int .u64 (wv c.P 3 : Nat)) ∧ X.cell? ⟨g, 22, none⟩ = some (.int .u64 (wv c.P 4 : Nat)) ∧ X.cell? ⟨g, 23, none⟩ = some (.int .u64 (wv c.P 5 : Nat)) ∧ X.cell? ⟨g, 24, none⟩ = some (.int .u64 (wv c.P 6 : Nat)) ∧ X.cell? ⟨g, 25, none⟩ = some (.int .i64 c.u) ∧ X.cell? ⟨g, 26, none⟩ = some (.int .i64 c.st) ∧ X.cell? ⟨g, 27, none⟩ = some (.int .i64 c.an) ∧ X.cell? ⟨g, 28, none⟩ = some (.int .i64 c.fr) ∧ X.cell? ⟨g, 29, none⟩ = some (.int .i64 c.un) := ⟨blk_cell h 0, blk_cell h 1, blk_cell h 2, blk_cell h 3, blk_cell h 4, blk_cell h 5, blk_cell h 6, blk_cell h 7, blk_cell h 8, blk_cell h 9, blk_cell h 10, blk_cell h 11, blk_cell h 12, blk_cell h 13, blk_cell h 14, blk_cell h 15, blk_cell h 16, blk_cell h 17, blk_cell h 18, blk_cell h 19, blk_cell h 20, blk_cell h 21, blk_cell h 22, blk_cell h 23, blk_cell h 24, blk_cell h 25, blk_cell h 26, blk_cell h 27, blk_cell h 28, blk_cell h 29⟩
theorem TabUn.bel2 {w w' : World} (h : TabUn w) (hb : Below w.heap.size w w') : TabUn w' := h.bel hb
/-- what unit.Days makes: a function that tells of a day whether it is on a step -/
def MakesStep (c : Cl) (s : Sp) (sb : Bool) : Prop := ∀ W, Calls Tryd.prog 48 #[.int .i64 c.u, .int .i64 c.st, .int .i64 c.an] W fun e W' => ∃ F caps, e = .returned (.func (.func F) #[] caps) ∧ (∀ (args : Array Value) (w : World), Sem.run Tryd.prog (callFunc F args) w = .ok (.enter F args) w) ∧ Steps1 W' F caps s sb ∧ Below W.heap.size W W'

set_option maxHeartbeats 1600000 in
set_option maxRecDepth 20000 in
theorem cdays_any (c : Cl) (hc : ClIn c) (s : Sp) (hy1 : 0 ≤ s.y) (hy2 : s.y < 1000000) (sb : Bool) (hm : mayB c = true) (hU : MakesStep c s sb) (w : World) (hT : TabUn w) :
    Calls Tryd.prog 17 #[clV c] w fun e w' => ∃ gC gS, e = .returned (.func (.func 49) #[] #[.pointer (some ⟨gC, 0, none⟩), .pointer (some ⟨gS, 0, none⟩)]) ∧ (∀ Z, Below w'.heap.size w' Z → Calls Tryd.prog 49 #[.agg #[.int .i64 s.n, .int .i64 s.y, .int .i64 s.m, .int .i64 s.d, .int .i64 s.bk, .int .i64 s.wk, .int .i64 s.im, .int .i64 s.om, .int .i64 s.iy, .int .i64 s.oy], .pointer (some ⟨gC, 0, none⟩), .pointer (some ⟨gS, 0, none⟩)] Z fun e' Z' => e' = .returned (.bool (dateB c s && sb)) ∧ Below Z.heap.size Z Z') ∧ Below w.heap.size w w' := by
  have HB0 := Lib.hid (show Below w.heap.size w (w.alloc (.cells (clC c) 28)) from (Below.refl _ _).alloc (Nat.le_refl _) _)
  have HC0 := Lib.hid (show ClAt (w.alloc (.cells (clC c) 28)) w.heap.size c from blk_new w _)
  have KM := fun W h => cmay_any c hc W h
  rw [hm] at KM
  have HU := Lib.hid hU
  have HD := Lib.hid (fun gC gS F caps W hC hS hF hst => cday2_any c hc s hy1 hy2 gC gS F caps sb W hC hS hF hst)
  generalize hbv : (dateB c s && sb) = bv at HD ⊢
  clear hbv hc hm hU hy1 hy2
  obtain ⟨W0, hW0⟩ : ∃ W0, w.alloc (.cells (clC c) 28) = W0 := ⟨_, rfl⟩
  rw [hW0] at HB0 HC0
  have K := KM W0 (hT.bel HB0.out)
  clear KM hT
  unfold clV clC at K
  unfold clV clC
  unfold clC at hW0
  unfold spV spC at HD
  go_enter Tryd.func17, Tryd.ntmps17
  go_wp2_with (refine wpList_loadRow HC0.out rfl _ _ rfl rfl _ Tryd.underlying28 rfl (by unfold clC; kernel_rfl) ?_)
  refine K.mono ?_
  clear K
  rintro e w1 ⟨rfl, hb1⟩
  have HB1 := Lib.hid (HB0.out.trans (hb1.mono HB0.out.size))
  have HC1 := Lib.hid (HC0.out.below hb1)
  clear hb1 HB0 HC0 hW0
  obtain ⟨r25, r26, r27⟩ := HC1.out.rest
  have KU := HU.out
  unfold MakesStep at KU
  clear HU
  go_wp2_with fail
  refine (KU _).mono ?_
  clear KU
  rintro e w2 ⟨F, caps, rfl, hF, hst, hb2⟩
  have HB2 := Lib.hid (HB1.out.trans (hb2.mono HB1.out.size))
  have HC2 := Lib.hid (HC1.out.below hb2)
  have HF := Lib.hid hF
  have HS := Lib.hid hst
  clear hb2 HB1 HC1 hF hst r25 r26 r27
  have hstore := fun (g : Nat) (W : World) => run_store Tryd.prog W ⟨g, 0, none⟩ (.func (.func F) #[] caps) .plain rfl
  go_wp2
  go_ret
  refine ⟨w.heap.size, w2.heap.size, rfl, fun Z hZ => ?_, HB2.out.alloc HB2.out.size _⟩
  have hB3 : Below w2.heap.size w2 (w2.alloc (.cells #[.func (.func F) #[] caps] 42)) := (Below.refl _ _).alloc (Nat.le_refl _) _
  have hg : (w2.alloc (.cells #[.func (.func F) #[] caps] 42)).cell? ⟨w2.heap.size, 0, none⟩ = some (.func (.func F) #[] caps) := blk_cell (blk_new w2 _) 0
  have hZ2 : Below w2.heap.size w2 Z := hB3.trans (hZ.mono hB3.size)
  exact HD.out _ _ F caps Z (HC2.out.below hZ2) ((hZ.cell (p := ⟨w2.heap.size, 0, none⟩) (ucell_lt hg)).trans hg) HF.out (fun Y hY => HS.out Y (hZ2.trans (hY.mono hZ2.size)))

end Go.Proofs.YtbfndcogieiejaaDoor
namespace Go.Proofs.YtbfndcogieiejaaDoor
open Go.RowKit Civ
set_option linter.unusedVariables false

/-- a clause and a shape in their blocks -/
def CS (W0 : World) (g h : Nat) (c : Cl) (s : Sp) (X : World) : Prop := Below W0.heap.size W0 X ∧ X.heap[g]? = some (.cells (clC c) 28 (0, 0)) ∧ X.heap[h]? = some (.cells (spC s) 40 (0, 0))
theorem CS.to {W0 X : World} {g h : Nat} {c : Cl} {s : Sp} (H : CS W0 g h c s X) {Y : World} (hb : Below X.heap.size X Y) : CS W0 g h c s Y := ⟨H.1.trans (hb.mono H.1.size), (hb.block _ (lt_of_block H.2.1)).trans H.2.1, (hb.block _ (lt_of_block H.2.2)).trans H.2.2⟩
theorem CS.drew {W0 X : World} {g h : Nat} {c : Cl} {s : Sp} (H : CS W0 g h c s X) : CS W0 g h c s X.drew := H.to (Below.refl _ _).drew

set_option maxHeartbeats 1600000 in
set_option maxRecDepth 20000 in
theorem cday_any (c : Cl) (hc : ClIn c) (s : Sp) (hy1 : 0 ≤ s.y) (hy2 : s.y < 1000000) (sb : Bool) (hm : mayB c = true) (hU : MakesStep c s sb) (w : World) (hT : TabUn w) :
    Calls Tryd.prog 19 #[clV c, spV s] w fun e w' => e = .returned (.bool (dateB c s && sb)) ∧ Below w.heap.size w w' := by
  have HB0 := Lib.hid (show Below w.heap.size w ((w.alloc (.cells (clC c) 28)).alloc (.cells (spC s) 40)) from ((Below.refl _ _).alloc (Nat.le_refl _) _).alloc (by simp) _)
  have HC0 := Lib.hid (blk_more (blk_new w (.cells (clC c) 28)) (.cells (spC s) 40))
  have HP0 := Lib.hid (blk_new (w.alloc (.cells (clC c) 28)) (.cells (spC s) 40))
  rw [size_allocD] at HP0
  have KD := fun W h => cdays_any c hc s hy1 hy2 sb hm hU W h
  generalize hbv : (dateB c s && sb) = bv at KD ⊢
  clear hbv hc hm hU hy1 hy2
  obtain ⟨W0, hW0⟩ : ∃ W0, (w.alloc (.cells (clC c) 28)).alloc (.cells (spC s) 40) = W0 := ⟨_, rfl⟩
  rw [hW0] at HB0 HC0 HP0
  have HS0 := Lib.hid (show CS W0 w.heap.size (w.heap.size + 1) c s W0 from ⟨Below.refl _ _, HC0.out, HP0.out⟩)
  have HT := Lib.hid (hT.bel HB0.out)
  have HK := Lib.hid KD
  clear KD hT HC0 HP0
  unfold clV clC spV spC
  unfold clC spC at hW0
  go_enter Tryd.func19, Tryd.ntmps19
  go_wp2_with fail
  try rw [hW0]
  clear hW0
  refine wp_region_held_drew (S := CS W0 w.heap.size (w.heap.size + 1) c s) (by kernel_rfl) HS0.out.drew (fun hHeld => ?_)
  refine heldVal 0 rfl rfl (by kernel_rfl) (by kernel_rfl) (by kernel_rfl) (fun _ _ _ h => h) (by rfl) (fun w hSw => exec_loadRow hSw.2.1 rfl rfl Tryd.underlying28 rfl (by unfold clC; kernel_rfl)) (by assumption) ?_
  try simp only [Act.put, List.setIfInBounds_toArray, List.set_cons_zero, List.set_cons_succ]
  refine heldVal 2 rfl rfl (by kernel_rfl) (by kernel_rfl) (by kernel_rfl) (fun _ _ _ h => h) (by rfl) (fun w hSw => exec_loadRow hSw.2.2 rfl rfl Tryd.underlying40 rfl (by unfold spC; kernel_rfl)) (by assumption) ?_
  try simp only [Act.put, List.setIfInBounds_toArray, List.set_cons_zero, List.set_cons_succ]
  refine heldCall 1 rfl rfl (by kernel_rfl) (by rfl) (fun K hK => ?_)
  go_simp
  have K := HK.out W0.drew (HT.out.bel (Below.refl _ _).drew)
  unfold clV at K
  refine K.mono ?_
  clear K HK HT
  rintro e w1 ⟨gC, gS, rfl, HZ, hb⟩
  have hS1 : CS W0 w.heap.size (w.heap.size + 1) c s w1 := hHeld.to hb
  have HZ1 := HZ w1 (Below.refl _ _)
  go_wp2_with fail
  refine hK.out _ _ ?hS (fun hHeld => ?_)
  case hS => (exact hS1)
  clear hK K
  try simp only [Act.put, List.setIfInBounds_toArray, List.set_cons_zero, List.set_cons_succ]
  refine heldCall 3 rfl rfl (by kernel_rfl) (by rfl) (fun K hK => ?_)
  go_simp
  refine HZ1.mono ?_
  rintro e w2 ⟨rfl, hb2⟩
  have hS2 : CS W0 w.heap.size (w.heap.size + 1) c s w2 := hS1.to hb2
  go_wp2_with fail
  refine hK.out _ _ ?hS (fun hHeld => ?_)
  case hS => (exact hS2)
  clear hK K
  try simp only [Act.put, List.setIfInBounds_toArray, List.set_cons_zero, List.set_cons_succ]
  refine heldVal (v := ?v) 4 rfl rfl (by kernel_rfl) (by kernel_rfl) (by kernel_rfl) (fun _ _ _ h => h) (by rfl) (fun w hSw => ?hy) (by assumption) ?_
  case hy => ((try dsimp only at hSw); go_simp; (try with_reducible rfl))
  try simp only [Act.put, List.setIfInBounds_toArray, List.set_cons_zero, List.set_cons_succ]
  refine wpAnyH_done (by kernel_rfl) ?_ _
  have HB2 := Lib.hid (HB0.out.trans (hS2.1.mono HB0.out.size))
  go_wp2
  go_ret
  exact ⟨rfl, HB2.out⟩
end Go.Proofs.YtbfndcogieiejaaDoor
