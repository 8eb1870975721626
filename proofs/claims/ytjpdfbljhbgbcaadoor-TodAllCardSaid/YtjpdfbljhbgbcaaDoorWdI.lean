/- wide.Bounds (layer 4). -/
import Derived.Test.YtjpdfbljhbgbcaaDoorWdH
import Derived.Test.YtjpdfbljhbgbcaaDoorTodM
import Derived.Test.YtjpdfbljhbgbcaaDoorShelf
namespace Go.Proofs.YtjpdfbljhbgbcaaDoor
open Go.RowKit
set_option linter.unusedVariables false

/-- the least and the greatest number of a set, of those below n -/
def Bnd (Q : Nat → Bool) (n : Nat) (a b : Int) (ok : Bool) : Prop := (ok = false ∧ a = 0 ∧ b = 0 ∧ ∀ i, i < n → Q i = false) ∨ (ok = true ∧ ∃ x y : Nat, a = x ∧ b = y ∧ x < n ∧ y < n ∧ Q x = true ∧ Q y = true ∧ (∀ i, i < x → Q i = false) ∧ ∀ i, y < i → i < n → Q i = false)
theorem Bnd.none (Q : Nat → Bool) : Bnd Q 0 0 0 false := .inl ⟨rfl, rfl, rfl, fun i h => by omega⟩
theorem word_zero {Q : Nat → Bool} {j : Nat} (h : wv Q j = 0) (i : Nat) (h1 : 64 * j ≤ i) (h2 : i < 64 * j + 64) : Q i = false := by
  have e := wv_test Q j (i - 64 * j)
  rw [h, Nat.zero_testBit, dec_t (by omega), show 64 * j + (i - 64 * j) = i by omega] at e
  simpa using e.symm
theorem Bnd.pass {Q : Nat → Bool} {j : Nat} {a b : Int} {ok : Bool} (h : Bnd Q (64 * j) a b ok) (hz : wv Q j = 0) : Bnd Q (64 * (j + 1)) a b ok := by
  rcases h with ⟨h1, h2, h3, h4⟩ | ⟨h1, x, y, h2, h3, h4, h5, h6, h7, h8, h9⟩
  · exact .inl ⟨h1, h2, h3, fun i hi => by
      by_cases e : i < 64 * j
      · exact h4 i e
      · exact word_zero hz i (by omega) (by omega)⟩
  · exact .inr ⟨h1, x, y, h2, h3, by omega, by omega, h6, h7, h8, fun i hi hl => by
      by_cases e : i < 64 * j
      · exact h9 i hi e
      · exact word_zero hz i (by omega) (by omega)⟩
theorem word_bit {Q : Nat → Bool} {j i : Nat} {v : Bool} (hi : i < 64) (h : (wv Q j).testBit i = v) : Q (64 * j + i) = v := by
  rw [wv_test, dec_t hi, Bool.true_and] at h
  exact h
theorem Bnd.first {Q : Nat → Bool} {j x y : Nat} {a b : Int} (h : Bnd Q (64 * j) a b false) (hx : x < 64) (hy : y < 64) (h1 : (wv Q j).testBit x = true) (h2 : (wv Q j).testBit y = true) (h3 : ∀ i, i < x → (wv Q j).testBit i = false) (h4 : ∀ i, y < i → (wv Q j).testBit i = false) :
    Bnd Q (64 * (j + 1)) ((64 * j + x : Nat) : Int) ((64 * j + y : Nat) : Int) true := by
  rcases h with ⟨_, _, _, h5⟩ | ⟨h, _⟩
  · exact .inr ⟨rfl, _, _, rfl, rfl, by omega, by omega, word_bit hx h1, word_bit hy h2, fun i hi => by
      by_cases e : i < 64 * j
      · exact h5 i e
      · have q := word_bit (j := j) (i := i - 64 * j) (by omega) (h3 (i - 64 * j) (by omega))
        rwa [show 64 * j + (i - 64 * j) = i by omega] at q, fun i hi hl => by
      have q := word_bit (j := j) (i := i - 64 * j) (by omega) (h4 (i - 64 * j) (by omega))
      rwa [show 64 * j + (i - 64 * j) = i by omega] at q⟩
  · cases h
theorem Bnd.more {Q : Nat → Bool} {j y : Nat} {a b : Int} (h : Bnd Q (64 * j) a b true) (hy : y < 64) (h2 : (wv Q j).testBit y = true) (h4 : ∀ i, y < i → (wv Q j).testBit i = false) :
    Bnd Q (64 * (j + 1)) a ((64 * j + y : Nat) : Int) true := by
  rcases h with ⟨h, _⟩ | ⟨_, x, y', g2, g3, g4, g5, g6, g7, g8, g9⟩
  · cases h
  · exact .inr ⟨rfl, x, _, g2, rfl, by omega, by omega, g6, word_bit hy h2, g8, fun i hi hl => by
      have q := word_bit (j := j) (i := i - 64 * j) (by omega) (h4 (i - 64 * j) (by omega))
      rwa [show 64 * j + (i - 64 * j) = i by omega] at q⟩
attribute [local irreducible] Bnd
set_option maxHeartbeats 1600000 in
set_option maxRecDepth 20000 in
theorem wbounds_any (P : Nat → Bool) (w : World) (hT : Tab w) : Calls Tryd.prog 24 #[S7 P] w fun e w' => (∃ a b ok, e = .returned (.tuple #[.int .i64 a, .int .i64 b, .bool ok]) ∧ Bnd (clip P) 448 a b ok) ∧ Below w.heap.size w w' := by
  have HR0 := Lib.hid (Sev.new w (wv P))
  obtain ⟨x0, x1, x2, x3, x4, x5, x6⟩ := HR0.out.cells
  have HB0 := Lib.hid (show Below w.heap.size w (w.alloc (.cells (c7 (wv P)) 34)) from (Below.refl _ _).alloc (Nat.le_refl _) _)
  have KB := fun W => both_one P W
  unfold c7 at KB
  unfold S7
  have HT := Lib.hid hT
  clear hT
  obtain ⟨W0, hW0⟩ : ∃ W0, w.alloc (.cells (c7 (wv P)) 34) = W0 := ⟨_, rfl⟩
  rw [hW0] at HR0 HB0 x0 x1 x2 x3 x4 x5 x6
  have hB0 := HB0.out.size
  have HKB := Lib.hid KB
  clear KB
  go_enter Tryd.func24, Tryd.ntmps24
  go_wp2_with fail
  try rw [hW0]
  clear hW0
  refine (HKB.out _).mono ?_
  rintro e w1 ⟨rfl, hb1⟩
  unfold S7
  have HB1 := Lib.hid (HB0.out.trans (hb1.mono hB0))
  have HG := Lib.hid (fun j (h : j < 7) W => idx7 (wv (clip P)) j h W)
  generalize hL : c7 (wv (clip P)) = L at HG
  generalize hQ : clip P = Q at HG
  have HQ := Lib.hid hQ
  clear hb1 hL x0 x1 x2 x3 x4 x5 x6 HR0 HB0 HKB hQ hB0
  go_wp2
  go_loopw [5, 6, 7, 15] (fun a b o i wr => ∃ (j : Nat) (x y : Int) (ok : Bool), j ≤ 7 ∧ i = .int .i64 j ∧ a = .int .i64 x ∧ b = .int .i64 y ∧ o = .bool ok ∧ Bnd Q (64 * j) x y ok ∧ Below w.heap.size w wr) (fun _ _ _ i _ => 7 - (intOf i).toNat)
  case atStart => exact ⟨0, 0, 0, false, by omega, rfl, rfl, rfl, rfl, Bnd.none Q, HB1.out⟩
  case round =>
    obtain ⟨j, x, y, ok, hj, rfl, rfl, rfl, rfl, hd, hb⟩ := hrel
    have HB := Lib.hid hb
    have HD := Lib.hid hd
    by_cases hjl : j < 7
    · have hg := HG.out j hjl
      have d4 : decide ((j : Int) < 7) = true := decide_eq_true (by omega)
      have hTr := HT.out.below HB.out
      have hlt := wv_lt Q j
      by_cases hz : wv Q j = 0
      · rw [hz] at hg
        have HZ := Lib.hid hz
        have K := fun W => least_no W
        clear hd hb hz hTr hlt
        go_wp2_with fail
        refine (K _).mono ?_
        rintro e w2 ⟨rfl, rfl⟩
        go_wp2
        go_roundw
        case rel => exact ⟨j + 1, x, y, ok, by omega, by go_num, rfl, rfl, rfl, HD.out.pass HZ.out, HB.out⟩
        case measure => simp [intOf]; omega
      · obtain ⟨l1, l2, l3⟩ := lo_spec (wv Q j) hlt hz
        obtain ⟨t, t1, t2, t3⟩ := top_bit (wv Q j) hlt hz
        have tl : t < 64 := by
          rw [wv_test, Bool.and_eq_true, decide_eq_true_eq] at t2
          exact t2.1
        have K := least_yes (wv Q j) wr hlt hz hTr
        have K1 := Tryd.bits_Len64 (wv Q j) wr (by omega) (by omega)
        rw [Int.toNat_natCast, t1] at K1
        have HF := Lib.hid (fun (h : Bnd Q (64 * j) x y false) => h.first l1 tl l2 t2 l3 t3)
        have HM := Lib.hid (fun (h : Bnd Q (64 * j) x y true) => h.more tl t2 t3)
        generalize lo (wv Q j) = l at l1 K HF
        generalize wv Q j = W at hg K K1
        have g1 : ((t + 1 : Nat) : Int) = (t : Int) + 1 := by omega
        rw [g1] at K1
        have HK := Lib.hid K
        have HK1 := Lib.hid K1
        clear hd hb hz hTr hlt l2 l3 t1 t2 t3 K K1 g1
        cases ok
        · go_wp2_with fail
          refine HK.out.mono ?_
          rintro e w2 ⟨rfl, rfl⟩
          go_wp2_with fail
          refine HK1.out.mono ?_
          rintro e w2 ⟨rfl, rfl⟩
          go_wp2
          go_roundw
          case rel => exact ⟨j + 1, _, _, true, by omega, by go_num, by go_num, by go_num, rfl, HF.out HD.out, HB.out⟩
          case measure => simp [intOf]; omega
        · go_wp2_with fail
          refine HK.out.mono ?_
          rintro e w2 ⟨rfl, rfl⟩
          go_wp2_with fail
          refine HK1.out.mono ?_
          rintro e w2 ⟨rfl, rfl⟩
          go_wp2
          go_roundw
          case rel => exact ⟨j + 1, _, _, true, by omega, by go_num, rfl, by go_num, rfl, HM.out HD.out, HB.out⟩
          case measure => simp [intOf]; omega
    · obtain rfl : j = 7 := by omega
      clear hb hd
      go_wp2
      go_ret3
      exact ⟨⟨x, y, ok, rfl, by rw [HQ.out]; exact HD.out⟩, HB.out⟩
end Go.Proofs.YtjpdfbljhbgbcaaDoor
