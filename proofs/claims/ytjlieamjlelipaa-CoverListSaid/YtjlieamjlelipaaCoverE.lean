/- Contract of cover.List (layer 3). -/
import Derived.Test.YtjlieamjlelipaaCoverD
namespace Go.Proofs.Ytjlieamjlelipaa
open Go.RowKit
set_option linter.unusedVariables false

/-- the first n numbers of a piece -/
def valsN (p : P3) (n : Nat) : List Int := (List.range n).map fun i : Nat => p.1 + (i : Int) * p.2.2
theorem valsN_len (p : P3) (n : Nat) : (valsN p n).length = n := by unfold valsN; simp
theorem valsN_succ (p : P3) (n : Nat) : valsN p (n + 1) = valsN p n ++ [p.1 + (n : Int) * p.2.2] := by unfold valsN; rw [List.range_succ, List.map_append]; rfl
def valsOf (p : P3) : List Int := valsN p (lenN p)
def vals : List P3 → List Int
  | [] => []
  | p :: ps => valsOf p ++ vals ps
theorem vals_app : ∀ a b : List P3, vals (a ++ b) = vals a ++ vals b
  | [], b => rfl
  | p :: a, b => by
    show valsOf p ++ vals (a ++ b) = (valsOf p ++ vals a) ++ vals b
    rw [vals_app a b, List.append_assoc]
theorem vals_le : ∀ ps : List P3, (vals ps).length ≤ ps.length * 10000
  | [] => Nat.le_refl _
  | p :: ps => by
    unfold vals valsOf
    have := vals_le ps
    have h := lenN_le p
    rw [List.length_append, List.length_cons, valsN_len]
    omega
theorem take_nth (ps : List P3) (k : Nat) (h : k < ps.length) : ps.take (k + 1) = ps.take k ++ [nthP ps k] := by
  rw [List.take_add_one, List.getElem?_eq_getElem h]
  unfold nthP
  rw [List.getElem?_eq_getElem h]
  rfl
theorem vals_take (ps : List P3) (k : Nat) (h : k < ps.length) : vals (ps.take (k + 1)) = vals (ps.take k) ++ valsOf (nthP ps k) := by
  rw [take_nth ps k h, vals_app]
  show _ ++ (valsOf _ ++ []) = _
  rw [List.append_nil]
theorem in_piece {p : P3} {i : Nat} (h : i < lenN p) : 0 ≤ p.1 ∧ 0 ≤ (i : Int) * p.2.2 ∧ p.1 + (i : Int) * p.2.2 ≤ p.2.1 ∧ p.2.1 ≤ 9999 := by
  by_cases hn : noPiece p
  · rw [lenN_no hn] at h; omega
  · rw [lenN_yes hn] at h
    unfold noPiece at hn
    have hq := quo_bd (a := p.2.1 - p.1) (b := p.2.2) (by omega) (by omega)
    have h2 : (i : Int) * p.2.2 ≤ (p.2.1 - p.1) / p.2.2 * p.2.2 := Int.mul_le_mul_of_nonneg_right (by omega) (by omega)
    have h3 : (p.2.1 - p.1) / p.2.2 * p.2.2 ≤ p.2.1 - p.1 := Int.ediv_mul_le _ (by omega)
    have h4 : 0 ≤ (i : Int) * p.2.2 := Int.mul_nonneg (by omega) (by omega)
    omega
theorem own_not {w : World} {base g : Nat} {v : Value} {zs : List Int} {cs : Array Value} (h : OwnI w base v zs) (hg : w.heap[g]? = some (.cells cs 28 (0, 0))) : v.ownBlock ≠ some g := by
  rcases h.2 with ⟨hv, hn⟩ | ⟨g', cap, cur, hv, _, hh, _⟩
  · rw [hv]; intro e; cases e
  · rw [hv]
    intro e
    cases e
    rw [hg] at hh
    cases hh
def P64 (p : P3) : Prop := I64 p.1 ∧ I64 p.2.1 ∧ I64 p.2.2
def LAt (ps : List P3) (w : World) (v i : Value) (wr : World) : Prop := ∃ k : Nat, k ≤ ps.length ∧ i = .int .i64 k ∧ OwnI wr w.heap.size v (vals (ps.take k)) ∧ Below w.heap.size w wr
def LIn (zs : List Int) (p : P3) (g : Nat) (w : World) (v i : Value) (wr : World) : Prop := ∃ k : Nat, k ≤ lenN p ∧ i = .int .i64 k ∧ OwnI wr w.heap.size v (zs ++ valsN p k) ∧ Below w.heap.size w wr ∧
  wr.heap[g]? = some (.cells #[.int .i64 p.1, .int .i64 p.2.1, .int .i64 p.2.2] 28 (0, 0))
set_option maxHeartbeats 1600000 in
set_option maxRecDepth 20000 in
theorem list_any (A : Option Addr) (c : Nat) (ps : List P3) (w : World) (hl : ps.length ≤ 100000) (hc : PiecesAt w A ps) (hI : ∀ k, k < ps.length → P64 (nthP ps k)) :
    Calls Try.prog 9 #[.slice A ps.length c] w (Gives (vals ps) w) := by
  obtain ⟨i0, hi, hz0, hz1, hz2⟩ := info_parts info_int
  have HC := Lib.hid hc
  have H6 := Lib.hid hI
  clear hc hI
  go_enter Try.func9, Try.ntmps9
  go_wp2
  go_loopw [3, 9] (fun v i wr => LAt ps w v i wr) (fun _ i _ => ps.length - (intOf i).toNat)
  case atStart => exact ⟨0, Nat.zero_le _, rfl, OwnI.nil _ _, Below.refl _ _⟩
  case round =>
    obtain ⟨k, hk, rfl, hown, hb⟩ := hrel
    have HO := Lib.hid hown
    have HB := Lib.hid hb
    clear hown hb
    by_cases hlt : k < ps.length
    · obtain ⟨b, off, rfl, hbl, c0, c1, c2⟩ := HC.out.below HB.out k hlt
      have h6 := H6.out k hlt
      have HV := Lib.hid (vals_take ps k hlt)
      have HL := Lib.hid (vals_le (ps.take k))
      generalize hp : nthP ps k = p at c0 c1 c2 h6 HV
      obtain ⟨f, t, s⟩ := p
      have K := fun w2 => len_any f t s w2 h6.1 h6.2.1 h6.2.2
      clear h6 hp
      simp only [] at c0 c1 c2
      go_wp2_with fail
      refine (K _).mono ?_
      rintro e w2 ⟨rfl, hb2⟩
      have hbox : w2.heap[wr.heap.size]? = some (.cells #[.int .i64 f, .int .i64 t, .int .i64 s] 28 (0, 0)) := by
        rw [hb2.block wr.heap.size (by simp)]; exact heap_alloc_new wr _
      have HB2 := Lib.hid ((HB.out.alloc HB.out.size (.cells #[.int .i64 f, .int .i64 t, .int .i64 s] 28)).trans (hb2.mono (by have := HB.out.size; simp; omega)))
      have HO2 := Lib.hid ((HO.out.alloc (.cells #[.int .i64 f, .int .i64 t, .int .i64 s] 28)).below hb2)
      generalize wr.heap.size = g at hbox
      have HX := Lib.hid hbox
      have HLP := Lib.hid (lenN_le (f, t, s))
      have hlz : (vals (ps.take k)).length ≤ k * 10000 := by
        exact Nat.le_trans HL.out (Nat.mul_le_mul_right _ (by rw [List.length_take]; exact Nat.min_le_left _ _))
      clear hb2 hbox K c0 c1 c2
      go_wp2
      go_loopw [3, 15] (fun v i wr2 => LIn (vals (ps.take k)) (f, t, s) g w v i wr2) (fun _ i _ => lenN (f, t, s) - (intOf i).toNat)
      case atStart => exact ⟨0, Nat.zero_le _, rfl, by show OwnI _ _ _ (vals (ps.take k) ++ []); rw [List.append_nil]; exact HO2.out, HB2.out, HX.out⟩
      case round =>
        obtain ⟨m, hm, rfl, hown, hb, hx⟩ := hrel
        have HO3 := Lib.hid hown
        have HB3 := Lib.hid hb
        have HX3 := Lib.hid hx
        clear hown hb
        by_cases hlt2 : m < lenN (f, t, s)
        · have c0 : wr.cell? ⟨g, 0, none⟩ = some (.int .i64 f) := by rw [blk_cell hx]; rfl
          have c2 : wr.cell? ⟨g, 2, none⟩ = some (.int .i64 s) := by rw [blk_cell hx]; rfl
          obtain ⟨p1, p2, p3, p4⟩ := in_piece hlt2
          simp only [] at p1 p2 p3 p4
          have HS := Lib.hid (valsN_succ (f, t, s) m)
          have hml := valsN_len (f, t, s) m
          have HM := Lib.hid hml
          have HLP' : lenN (f, t, s) ≤ 10000 := HLP.out
          have w1 : IntKind.i64.wrap ((m : Int) * s) = (m : Int) * s := IntWalk.i64_in _ ⟨by omega, by omega⟩
          have w3 : IntKind.i64.wrap (f + (m : Int) * s) = f + (m : Int) * s := IntWalk.i64_in _ ⟨by omega, by omega⟩
          clear hx hml p1 p2 p3 p4
          go_wp2_with ((at_builtin; refine wpList_append_own _ rfl _ _ 24 rfl w.heap.size 3 i0 (.int .i64 0) 1 8 Try.underlying24 hi hz0 hz1 hz2 rfl (by decide) _ _ _ rfl (World.ownsRow.alloc HO3.out _) ⟨wr.heap.size, 0, none⟩ 1 1 [.int .i64 (f + (m : Int) * s)] rfl rfl ?c1 ?c2 ?c3 ?c4 ?c5 ?_))
          case c2 => simp [Value.oneCell']
          case c3 => rw [HM.out]; unfold maxLen; omega
          case c4 => rw [HM.out]; omega
          case c5 => have := HB3.out.size; simp; omega
          intro v' w4 hown4 hgrow _
          have HO4 := Lib.hid (OwnI.snoc (base := w.heap.size) (zs := vals (ps.take k) ++ valsN (f, t, s) m) (x := f + (m : Int) * s) (by rw [List.length_append, List.map_append, List.append_assoc]; exact hown4))
          have HB4 := Lib.hid (Below.grown (HB3.out.alloc HB3.out.size (.cells #[.int .i64 (f + (m : Int) * s)] 3)) hgrow (by have := HB3.out.size; simp; omega) (own_block HO3.out))
          have HX4 := Lib.hid (show w4.heap[g]? = some (.cells #[.int .i64 f, .int .i64 t, .int .i64 s] 28 (0, 0)) from by
            rw [hgrow.block g (by have := lt_of_block HX3.out; simp; omega) (fun e => own_not HO3.out HX3.out e.symm), Below.heap_alloc _ _ _ (lt_of_block HX3.out)]
            exact HX3.out)
          clear hown4 hgrow w1 w3 c0 c2
          go_wp2
          go_roundw
          case rel => exact ⟨m + 1, by omega, by go_num, by rw [HS.out, ← List.append_assoc]; exact HO4.out, HB4.out, HX4.out⟩
          case measure => simp [intOf]; omega
        · obtain rfl : m = lenN (f, t, s) := by omega
          clear hx
          go_wp2
          go_roundw
          case rel => exact ⟨k + 1, by omega, by go_num, by rw [HV.out]; exact HO3.out, HB3.out⟩
          case measure => simp [intOf]; omega
    · obtain rfl : k = ps.length := by omega
      obtain ⟨A1, c1, rfl, hin⟩ := HO.out.ints
      rw [List.take_length] at hin
      have HI := Lib.hid hin
      have HE := Lib.hid (show (vals (ps.take ps.length)).length = (vals ps).length by rw [List.take_length])
      clear hin hlt
      go_wp2
      go_ret
      exact ⟨A1, c1, by rw [← HE.out]; rfl, HI.out, HB.out⟩
end Go.Proofs.Ytjlieamjlelipaa
