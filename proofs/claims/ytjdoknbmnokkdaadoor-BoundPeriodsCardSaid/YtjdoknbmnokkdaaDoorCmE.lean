/- Whether a clause may be (layer 13). -/
import Derived.Test.YtjdoknbmnokkdaaDoorCm0
import Derived.Test.YtjdoknbmnokkdaaDoorWdE
import Derived.Test.YtjdoknbmnokkdaaDoorUnA
namespace Go.Proofs.YtjdoknbmnokkdaaDoor
open Go.RowKit
set_option linter.unusedVariables false

structure Cl where
  (s m h mo d e wk : Nat) (orr : Bool) (n : Int) (b : Bool) (D : Nat → Nat) (P : Nat → Bool) (u st an fr un : Int)
/-- the thirty cells of a clause -/
def clC (c : Cl) : Array Value := #[.int .u64 (c.s : Nat), .int .u64 (c.m : Nat), .int .u64 (c.h : Nat), .int .u64 (c.mo : Nat), .int .u64 (c.d : Nat), .int .u64 (c.e : Nat), .int .u64 (c.wk : Nat), .bool c.orr, .int .i64 c.n, .bool c.b, .int .u64 (c.D 0 : Nat), .int .u64 (c.D 1 : Nat), .int .u64 (c.D 2 : Nat), .int .u64 (c.D 3 : Nat), .int .u64 (c.D 4 : Nat), .int .u64 (c.D 5 : Nat), .int .u64 (c.D 6 : Nat), .int .u64 (c.D 7 : Nat),
  .int .u64 (wv c.P 0 : Nat), .int .u64 (wv c.P 1 : Nat), .int .u64 (wv c.P 2 : Nat), .int .u64 (wv c.P 3 : Nat), .int .u64 (wv c.P 4 : Nat), .int .u64 (wv c.P 5 : Nat), .int .u64 (wv c.P 6 : Nat), .int .i64 c.u, .int .i64 c.st, .int .i64 c.an, .int .i64 c.fr, .int .i64 c.un]
def clV (c : Cl) : Value := .agg (clC c)
def ClIn (c : Cl) : Prop := c.s < 18446744073709551616 ∧ c.m < 18446744073709551616 ∧ c.h < 18446744073709551616 ∧ c.mo < 18446744073709551616 ∧ c.d < 18446744073709551616 ∧ c.e < 18446744073709551616 ∧ c.wk < 18446744073709551616 ∧ ∀ i, c.D i < 18446744073709551616
/-- a block with a clause -/
def ClAt (W : World) (g : Nat) (c : Cl) : Prop := W.heap[g]? = some (.cells (clC c) 70 (0, 0))
theorem ClAt.masks {W : World} {g : Nat} {c : Cl} (h : ClAt W g c) : W.cell? ⟨g, 0, none⟩ = some (.int .u64 (c.s : Nat)) ∧ W.cell? ⟨g, 1, none⟩ = some (.int .u64 (c.m : Nat)) ∧ W.cell? ⟨g, 2, none⟩ = some (.int .u64 (c.h : Nat)) ∧ W.cell? ⟨g, 3, none⟩ = some (.int .u64 (c.mo : Nat)) ∧ W.cell? ⟨g, 4, none⟩ = some (.int .u64 (c.d : Nat)) ∧ W.cell? ⟨g, 5, none⟩ = some (.int .u64 (c.e : Nat)) ∧ W.cell? ⟨g, 6, none⟩ = some (.int .u64 (c.wk : Nat)) := ⟨blk_cell h 0, blk_cell h 1, blk_cell h 2, blk_cell h 3, blk_cell h 4, blk_cell h 5, blk_cell h 6⟩
theorem ClAt.ord {W : World} {g : Nat} {c : Cl} (h : ClAt W g c) : W.cell? ⟨g, 8, none⟩ = some (.int .i64 c.n) ∧ W.cell? ⟨g, 9, none⟩ = some (.bool c.b) ∧ W.cell? ⟨g, 10, none⟩ = some (.int .u64 (c.D 0 : Nat)) ∧ W.cell? ⟨g, 11, none⟩ = some (.int .u64 (c.D 1 : Nat)) ∧ W.cell? ⟨g, 12, none⟩ = some (.int .u64 (c.D 2 : Nat)) ∧ W.cell? ⟨g, 13, none⟩ = some (.int .u64 (c.D 3 : Nat)) ∧ W.cell? ⟨g, 14, none⟩ = some (.int .u64 (c.D 4 : Nat)) ∧ W.cell? ⟨g, 15, none⟩ = some (.int .u64 (c.D 5 : Nat)) ∧ W.cell? ⟨g, 16, none⟩ = some (.int .u64 (c.D 6 : Nat)) ∧ W.cell? ⟨g, 17, none⟩ = some (.int .u64 (c.D 7 : Nat)) := ⟨blk_cell h 8, blk_cell h 9, blk_cell h 10, blk_cell h 11, blk_cell h 12, blk_cell h 13, blk_cell h 14, blk_cell h 15, blk_cell h 16, blk_cell h 17⟩
theorem ClAt.years {W : World} {g : Nat} {c : Cl} (h : ClAt W g c) : W.cell? ⟨g, 18, none⟩ = some (.int .u64 (wv c.P 0 : Nat)) ∧ W.cell? ⟨g, 19, none⟩ = some (.int .u64 (wv c.P 1 : Nat)) ∧ W.cell? ⟨g, 20, none⟩ = some (.int .u64 (wv c.P 2 : Nat)) ∧ W.cell? ⟨g, 21, none⟩ = some (.int .u64 (wv c.P 3 : Nat)) ∧ W.cell? ⟨g, 22, none⟩ = some (.int .u64 (wv c.P 4 : Nat)) ∧ W.cell? ⟨g, 23, none⟩ = some (.int .u64 (wv c.P 5 : Nat)) ∧ W.cell? ⟨g, 24, none⟩ = some (.int .u64 (wv c.P 6 : Nat)) := ⟨blk_cell h 18, blk_cell h 19, blk_cell h 20, blk_cell h 21, blk_cell h 22, blk_cell h 23, blk_cell h 24⟩
theorem ClAt.rest {W : World} {g : Nat} {c : Cl} (h : ClAt W g c) : W.cell? ⟨g, 25, none⟩ = some (.int .i64 c.u) ∧ W.cell? ⟨g, 26, none⟩ = some (.int .i64 c.st) ∧ W.cell? ⟨g, 27, none⟩ = some (.int .i64 c.an) := ⟨blk_cell h 25, blk_cell h 26, blk_cell h 27⟩
theorem ClAt.below {W W' : World} {g : Nat} {c : Cl} (h : ClAt W g c) (hb : Below W.heap.size W W') : ClAt W' g c := (hb.block _ (lt_of_block h)).trans h
def masksB (c : Cl) : Bool := masks7 c.s c.m c.h c.mo c.d c.e c.wk
/-- may a clause be? -/
def mayB (c : Cl) : Bool := masksB c && (ordB c.n c.b c.D && (same7 c.P (clip c.P) && (decide (0 ≤ c.u ∧ c.u < 7) && (decide (1 ≤ c.st) && decide (0 ≤ c.an ∧ c.an < 12622780800)))))
theorem nmU_some : ∀ i, i < 7 → nmU i ≠ ⟨#[]⟩ := by
  intro i hi h
  have q := congrArg (fun a : ByteArray => a.size) h
  match i, hi with
  | 0, _ => revert q; decide
  | 1, _ => revert q; decide
  | 2, _ => revert q; decide
  | 3, _ => revert q; decide
  | 4, _ => revert q; decide
  | 5, _ => revert q; decide
  | 6, _ => revert q; decide
theorem TabUn.bel {w w' : World} (h : TabUn w) (hb : Below w.heap.size w w') : TabUn w' := fun j hj => (hb.cell (p := ⟨1, j, none⟩) (ucell_lt (h j hj))).trans (h j hj)
set_option maxHeartbeats 1600000 in
set_option maxRecDepth 20000 in
theorem cmay_any (c : Cl) (hc : ClIn c) (w : World) (hT : TabUn w) : Calls Tryd.prog 111 #[clV c] w fun e w' => e = .returned (.bool (mayB c)) ∧ Below w.heap.size w w' := by
  obtain ⟨h1, h2, h3, h4, h5, h6, h7, hD⟩ := hc
  have HB0 := Lib.hid (show Below w.heap.size w (w.alloc (.cells (clC c) 70)) from (Below.refl _ _).alloc (Nat.le_refl _) _)
  have HC0 := Lib.hid (show ClAt (w.alloc (.cells (clC c) 70)) w.heap.size c from blk_new w _)
  have KO := Lib.hid (fun W => mayOrd_any c.n c.b c.D hD W)
  have KW := Lib.hid (fun W => wmay_any c.P W)
  have HZ := over7_zero c.s c.m c.h c.mo c.d c.e c.wk h1 h2 h3 h4 h5 h6 h7
  have o1 := or_nat c.s c.m h1 h2
  have l1 : c.s ||| c.m < 18446744073709551616 := Nat.or_lt_two_pow (n := 64) h1 h2
  have o2 : bits BinOp.andNot IntKind.u64 ((c.s ||| c.m : Nat) : Int) 1152921504606846975 = ((ovr (c.s ||| c.m) 1152921504606846975 : Nat) : Int) := ovr_nat _ _ l1 (by decide)
  have l2 := ovr_lt (c.s ||| c.m) 1152921504606846975 l1
  have o3 : bits BinOp.andNot IntKind.u64 ((c.h : Nat) : Int) 16777215 = ((ovr c.h 16777215 : Nat) : Int) := ovr_nat _ _ h3 (by decide)
  have l3 := ovr_lt c.h 16777215 h3
  have o4 := or_nat (ovr (c.s ||| c.m) 1152921504606846975) (ovr c.h 16777215) l2 l3
  have l4 : ovr (c.s ||| c.m) 1152921504606846975 ||| ovr c.h 16777215 < 18446744073709551616 := Nat.or_lt_two_pow (n := 64) l2 l3
  have o5 : bits BinOp.andNot IntKind.u64 ((c.mo : Nat) : Int) 8190 = ((ovr c.mo 8190 : Nat) : Int) := ovr_nat _ _ h4 (by decide)
  have l5 := ovr_lt c.mo 8190 h4
  have o6 := or_nat _ (ovr c.mo 8190) l4 l5
  have l6 : (ovr (c.s ||| c.m) 1152921504606846975 ||| ovr c.h 16777215) ||| ovr c.mo 8190 < 18446744073709551616 := Nat.or_lt_two_pow (n := 64) l4 l5
  have o7 := or_nat c.d c.e h5 h6
  have l7 : c.d ||| c.e < 18446744073709551616 := Nat.or_lt_two_pow (n := 64) h5 h6
  have o8 : bits BinOp.andNot IntKind.u64 ((c.d ||| c.e : Nat) : Int) 4294967294 = ((ovr (c.d ||| c.e) 4294967294 : Nat) : Int) := ovr_nat _ _ l7 (by decide)
  have l8 := ovr_lt (c.d ||| c.e) 4294967294 l7
  have o9 := or_nat _ (ovr (c.d ||| c.e) 4294967294) l6 l8
  have l9 : ((ovr (c.s ||| c.m) 1152921504606846975 ||| ovr c.h 16777215) ||| ovr c.mo 8190) ||| ovr (c.d ||| c.e) 4294967294 < 18446744073709551616 := Nat.or_lt_two_pow (n := 64) l6 l8
  have o10 : bits BinOp.andNot IntKind.u64 ((c.wk : Nat) : Int) 254 = ((ovr c.wk 254 : Nat) : Int) := ovr_nat _ _ h7 (by decide)
  have l10 := ovr_lt c.wk 254 h7
  have o11 := or_nat _ (ovr c.wk 254) l9 l10
  unfold over7 at HZ
  generalize c.s ||| c.m = v1 at *
  generalize c.d ||| c.e = v2 at *
  generalize ovr v1 1152921504606846975 = v3 at *
  generalize ovr c.h 16777215 = v4 at *
  generalize ovr c.mo 8190 = v5 at *
  generalize ovr v2 4294967294 = v6 at *
  generalize ovr c.wk 254 = v7 at *
  generalize v3 ||| v4 = v8 at *
  generalize v8 ||| v5 = v9 at *
  generalize v9 ||| v6 = v10 at *
  generalize v10 ||| v7 = v11 at *
  clear h1 h2 h3 h4 h5 h6 h7 l1 l2 l3 l4 l5 l6 l7 l8 l9 l10 hD
  have HM := Lib.hid (show (v11 = 0 ∧ masksB c = true) ∨ (v11 ≠ 0 ∧ masksB c = false) by
    unfold masksB
    cases hm : masks7 c.s c.m c.h c.mo c.d c.e c.wk
    · exact .inr ⟨fun q => Bool.noConfusion ((HZ.1 q).symm.trans hm), rfl⟩
    · exact .inl ⟨HZ.2 hm, rfl⟩)
  clear HZ
  have HMB := Lib.hid (show mayB c = (masksB c && (ordB c.n c.b c.D && (same7 c.P (clip c.P) && (decide (0 ≤ c.u ∧ c.u < 7) && (decide (1 ≤ c.st) && decide (0 ≤ c.an ∧ c.an < 12622780800)))))) from rfl)
  generalize mayB c = bb at HMB ⊢
  obtain ⟨W0, hW0⟩ : ∃ W0, w.alloc (.cells (clC c) 70) = W0 := ⟨_, rfl⟩
  rw [hW0] at HB0 HC0
  unfold clV clC
  unfold clC at hW0
  obtain ⟨x0, x1, x2, x3, x4, x5, x6⟩ := HC0.out.masks
  rcases HM.out with ⟨rfl, hm⟩ | ⟨hv, hm⟩
  · have HT := Lib.hid hT
    clear HM hT
    obtain ⟨y8, y9, y10, y11, y12, y13, y14, y15, y16, y17⟩ := HC0.out.ord
    have KO1 := KO.out W0
    unfold ordV ordC at KO1
    have hun := HB0.out.size
    cases ho : ordB c.n c.b c.D
    · rw [ho] at KO1
      have HE := Lib.hid (show bb = false by rw [HMB.out, hm, ho]; rfl)
      clear ho hm HMB KO KW hun
      go_enter Tryd.func111, Tryd.ntmps111
      go_wp2_with fail
      try rw [hW0]
      refine KO1.mono ?_
      rintro e w1 ⟨rfl, hb1⟩
      have HB1 := Lib.hid (HB0.out.trans (hb1.mono HB0.out.size))
      clear hb1 x0 x1 x2 x3 x4 x5 x6 y8 y9 y10 y11 y12 y13 y14 y15 y16 y17 hW0
      go_wp2
      go_ret
      exact ⟨by rw [HE.out]; rfl, HB1.out⟩
    · rw [ho] at KO1
      rw [ho, hm] at HMB
      have HMC := Lib.hid (show bb = (same7 c.P (clip c.P) && (decide (0 ≤ c.u ∧ c.u < 7) && (decide (1 ≤ c.st) && decide (0 ≤ c.an ∧ c.an < 12622780800)))) from HMB.out)
      clear ho hm HMB KO hun
      go_enter Tryd.func111, Tryd.ntmps111
      go_wp2_with fail
      try rw [hW0]
      refine KO1.mono ?_
      rintro e w1 ⟨rfl, hb1⟩
      have HB1 := Lib.hid (HB0.out.trans (hb1.mono HB0.out.size))
      have HC1 := Lib.hid (HC0.out.below hb1)
      clear hb1 x0 x1 x2 x3 x4 x5 x6 y8 y9 y10 y11 y12 y13 y14 y15 y16 y17 hW0 KO1 HB0 HC0 o1 o2 o3 o4 o5 o6 o7 o8 o9 o10 o11
      obtain ⟨x0, x1, x2, x3, x4, x5, x6⟩ := HC1.out.years
      have KW1 := KW.out w1
      unfold S7 c7 at KW1
      go_wp2_with fail
      refine KW1.mono ?_
      rintro e w2 ⟨rfl, hb2⟩
      have HB2 := Lib.hid (HB1.out.trans (hb2.mono HB1.out.size))
      have HC2 := Lib.hid (HC1.out.below hb2)
      have HT2 := Lib.hid (HT.out.bel HB2.out)
      clear hb2 x0 x1 x2 x3 x4 x5 x6 KW1 HB1 HC1 KW HT
      obtain ⟨x0, x1, x2⟩ := HC2.out.rest
      cases hs : same7 c.P (clip c.P)
      · have HE := Lib.hid (show bb = false by rw [HMC.out, hs]; rfl)
        clear hs HMC
        go_wp2
        go_ret
        exact ⟨by rw [HE.out]; rfl, HB2.out⟩
      · by_cases hu : 0 ≤ c.u ∧ c.u < 7
        · obtain ⟨i0, hi0⟩ := Int.eq_ofNat_of_zero_le hu.1
          have KU := uname_any i0 (by omega) w2 HT2.out
          rw [← hi0] at KU
          have hne0 := beq_no (nmU_some i0 (by omega))
          have hem : (⟨#[]⟩ : ByteArray).toList = [] := by simp
          have hne1 : ¬ (nmU i0).toList = [] := fun q => by rw [q, hem] at hne0; cases hne0
          have hne2 : (nmU i0).toList.isEmpty = false := by
            cases h : (nmU i0).toList with
            | nil => exact absurd h hne1
            | cons x l => rfl
          clear hne0 hem
          generalize nmU i0 = nm at KU hne1 hne2
          by_cases hst : 1 ≤ c.st
          · have d1 : decide (1 ≤ c.st) = true := dec_t hst
            by_cases han : 0 ≤ c.an ∧ c.an < 12622780800
            · have KA := mIn_yes c.an w2 han.1 han.2
              have HE := Lib.hid (show bb = true by rw [HMC.out, hs, dec_t hu, dec_t hst, dec_t han]; rfl)
              clear hs HMC hu hi0 hst han
              go_wp2_with fail
              refine KU.mono ?_
              rintro e w3 ⟨rfl, rfl⟩
              go_wp2_with fail
              refine KA.mono ?_
              rintro e w3 ⟨rfl, rfl⟩
              go_wp2
              go_ret
              exact ⟨by rw [HE.out]; rfl, HB2.out⟩
            · have KA := mIn_no c.an w2 (by omega)
              have HE := Lib.hid (show bb = false by rw [HMC.out, hs, dec_t hu, dec_t hst, dec_n han]; rfl)
              clear hs HMC hu hi0 hst han
              go_wp2_with fail
              refine KU.mono ?_
              rintro e w3 ⟨rfl, rfl⟩
              go_wp2_with fail
              refine KA.mono ?_
              rintro e w3 ⟨rfl, rfl⟩
              go_wp2
              go_ret
              exact ⟨by rw [HE.out]; rfl, HB2.out⟩
          · have d1 : decide (1 ≤ c.st) = false := dec_n hst
            have HE := Lib.hid (show bb = false by rw [HMC.out, hs, dec_t hu, dec_n hst]; rfl)
            clear hs HMC hu hi0 hst
            go_wp2_with fail
            refine KU.mono ?_
            rintro e w3 ⟨rfl, rfl⟩
            go_wp2
            go_ret
            exact ⟨by rw [HE.out]; rfl, HB2.out⟩
        · have KU := uname_no c.u (by omega) w2
          have HE := Lib.hid (show bb = false by rw [HMC.out, hs, dec_n hu]; rfl)
          clear hs HMC hu
          go_wp2_with fail
          refine KU.mono ?_
          rintro e w3 ⟨rfl, rfl⟩
          go_wp2
          go_ret
          exact ⟨by rw [HE.out]; rfl, HB2.out⟩
  · have e0 : ((v11 : Int) == 0) = false := by rw [beq_eq_false_iff_ne]; omega
    have HE := Lib.hid (show bb = false by rw [HMB.out, hm]; rfl)
    clear hv hm HM HMB KO KW HC0 hT
    go_enter Tryd.func111, Tryd.ntmps111
    go_wp2
    go_ret
    exact ⟨by rw [HE.out]; rfl, HB0.out⟩
end Go.Proofs.YtjdoknbmnokkdaaDoor
