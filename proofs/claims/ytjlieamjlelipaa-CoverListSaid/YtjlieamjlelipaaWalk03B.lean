/- The walk of CoverList (layer 3). -/
import Derived.Test.YtjlieamjlelipaaCoverI
import Derived.Laws.AppendOwnNone
namespace Go.Proofs.Ytjlieamjlelipaa
open Go.RowKit
set_option linter.unusedVariables false

theorem valsOf_len (p : P3) : (valsOf p).length = lenN p := valsN_len p _
def CLAt (ps : List P3) (w : World) (v i : Value) (wr : World) : Prop := ∃ k : Nat, k ≤ ps.length ∧ i = .int .i64 k ∧ OwnI wr w.heap.size v (vals (ps.take k)) ∧ Below w.heap.size w wr
set_option maxHeartbeats 3200000 in
set_option maxRecDepth 20000 in
theorem clist_in (A : Option Addr) (c : Nat) (ps : List P3) (w : World) (hl : ps.length ≤ 20) (hi' : PiecesAt w A ps) (h64 : ∀ k, k < ps.length → P64 (nthP ps k)) :
    Calls Try.prog 3 #[.slice A ps.length c] w fun e w' => e = .returned (.bool true) ∧ Below w.heap.size w w' := by
  obtain ⟨i0, hi, hz0, hz1, hz2⟩ := info_parts info_int
  have HC := Lib.hid hi'
  have H6 := Lib.hid h64
  have d : decide ((20 : Int) < (ps.length : Int)) = false := dec_n (by omega)
  have d' : decide (20 < ps.length) = false := dec_n (by omega)
  have K5 := fun w2 hw2 => list_any A c ps w2 (by omega) hw2 h64
  clear hi' h64
  go_enter Try.func3, Try.ntmps3
  go_wp2
  clear d d'
  go_loopw [3, 4] (fun v i wr => CLAt ps w v i wr) (fun _ i _ => ps.length - (intOf i).toNat)
  case atStart => exact ⟨0, Nat.zero_le _, rfl, OwnI.nil _ _, Below.refl _ _⟩
  case round =>
    obtain ⟨k, hk, rfl, hown, hb⟩ := hrel
    have HO := Lib.hid hown
    have HB := Lib.hid hb
    clear hown hb
    by_cases hlt : k < ps.length
    · clear K5
      obtain ⟨b, off, rfl, hbl, c0, c1, c2⟩ := HC.out.below HB.out k hlt
      have h6 := H6.out k hlt
      have HV := Lib.hid (vals_take ps k hlt)
      have HL := Lib.hid (show (vals (ps.take k)).length ≤ 200000 from by
        have h1 := vals_le (ps.take k)
        have h2 : (ps.take k).length ≤ 20 := by rw [List.length_take]; exact Nat.le_trans (Nat.min_le_left _ _) (by omega)
        exact Nat.le_trans h1 (by omega))
      generalize hp : nthP ps k = p at c0 c1 c2 h6 HV
      obtain ⟨f, t, s⟩ := p
      have K1 := fun w2 => rlist_any f t s w2 h6.1 h6.2.1 h6.2.2
      have K2 := fun w2 => len_any f t s w2 h6.1 h6.2.1 h6.2.2
      have HLN := Lib.hid (valsOf_len (f, t, s))
      have HLB := Lib.hid (lenN_le (f, t, s))
      clear h6 hp
      simp only [] at c0 c1 c2
      have HC0 := Lib.hid c0
      have HC1 := Lib.hid c1
      have HC2 := Lib.hid c2
      generalize lenN (f, t, s) = n at K2 HLN HLB
      generalize valsOf (f, t, s) = xs at K1 HV HLN
      go_wp2_with fail
      refine (K1 wr).mono ?_
      rintro e w1 ⟨⟨A1, c1', rfl, hin, hb1⟩, hz⟩
      have e0 := (hb1.cell (p := ⟨b, off + k * 3, none⟩) hbl).trans HC0.out
      have e1 := (hb1.cell (p := ⟨b, off + k * 3 + 1, none⟩) hbl).trans HC1.out
      have e2 := (hb1.cell (p := ⟨b, off + k * 3 + 2, none⟩) hbl).trans HC2.out
      have HZ := Lib.hid hz
      have HI1 := Lib.hid hin
      have HO1 := Lib.hid (HO.out.below hb1)
      have HB1 := Lib.hid (HB.out.trans (hb1.mono HB.out.size))
      clear hb1 hin hz K1 c0 c1 c2
      go_wp2_with fail
      refine (K2 w1).mono ?_
      rintro e w2 ⟨rfl, hb2⟩
      have HI2 := Lib.hid (HI1.out.below hb2)
      have HO2 := Lib.hid (HO1.out.below hb2)
      have HB2 := Lib.hid (HB1.out.trans (hb2.mono HB1.out.size))
      clear hb2 K2 e0 e1 e2
      have q1 : ((n : Int) == ((xs.length : Nat) : Int)) = true := by rw [beq_iff_eq, HLN.out]
      have q2 : ((n : Int) != ((xs.length : Nat) : Int)) = false := by rw [bne_eq_false_iff_eq, HLN.out]
      by_cases hx0 : xs = []
      · subst hx0
        have hv := HZ.out rfl
        simp at hv
        obtain ⟨rfl, rfl⟩ := hv
        have q3 : ((n : Int) == 0) = true := q1
        have q4 : ((n : Int) != 0) = false := q2
        go_wp2_with ((at_builtin; refine wpList_append_own_none rfl _ _ 24 rfl w.heap.size 3 i0 1 Try.underlying24 hi _ _ _ rfl HO2.out rfl ?_))
        go_wp2
        go_roundw
        case rel => exact ⟨k + 1, by omega, by go_num, by rw [HV.out, List.append_nil]; exact HO2.out, HB2.out⟩
        case measure => simp [intOf]; omega
      · have hxl : 0 < xs.length := List.length_pos_iff.2 hx0
        obtain ⟨b1, o1, rfl, hcell⟩ := cell_at HI2.out hxl
        have hxb : xs.length ≤ 10000 := by rw [HLN.out]; exact HLB.out
        have HCE := Lib.hid hcell
        clear hx0 hcell
        go_wp2_with ((at_builtin; refine wpList_append_own _ rfl _ _ 24 rfl w.heap.size 3 i0 (.int .i64 0) 1 8 Try.underlying24 hi hz0 hz1 hz2 rfl (by decide) _ _ _ rfl HO2.out ⟨b1, o1, none⟩ xs.length c1' (xs.map (Value.int .i64)) rfl ?n1 ?n2 ?n3 ?n4 ?n5 ?n6 ?_))
        case n1 => simp
        case n2 =>
          intro j u hj
          have hj1 : j < xs.length := by
            have := (List.getElem?_eq_some_iff.1 hj).1
            simpa using this
          rw [Addr.add_lit, HCE.out j hj1]
          simp [hj1] at hj ⊢
          exact hj
        case n3 => exact ints_oneCell .i64 xs
        case n4 => have := HL.out; unfold maxLen; omega
        case n5 => have := HL.out; omega
        case n6 => exact HB2.out.size
        intro v' w4 hown4 hgrow _
        have HO4 := Lib.hid (show OwnI w4 w.heap.size v' (vals (ps.take (k + 1))) by
          rw [HV.out]
          unfold OwnI
          rw [List.length_append, List.map_append]
          exact hown4)
        have HB4 := Lib.hid (Below.grown HB2.out hgrow HB2.out.size (own_block HO2.out))
        clear hown4 hgrow
        go_wp2
        go_roundw
        case rel => exact ⟨k + 1, by omega, by go_num, HO4.out, HB4.out⟩
        case measure => simp [intOf]; omega
    · obtain rfl : k = ps.length := by omega
      have ho := HO.out
      rw [List.take_length] at ho
      have HO1 := Lib.hid ho
      have HL := Lib.hid (vals_le ps)
      clear ho
      go_wp2_with fail
      refine (K5 wr (HC.out.below HB.out)).mono ?_
      rintro e w1 ⟨A2, c2, rfl, hin, hb1⟩
      have HB1 := Lib.hid (HB.out.trans (hb1.mono HB.out.size))
      obtain ⟨A3, c3, hv, hin3⟩ := (HO1.out.below hb1).ints
      subst hv
      have hlv : (vals ps).length ≤ 1000000000 := Nat.le_trans HL.out (by omega)
      have K6 := ints_any true A2 A3 c2 c3 (vals ps) (vals ps) w1 hlv hlv hin hin3 ⟨fun _ => rfl, fun _ => rfl⟩
      clear hb1 hin hin3 K5
      go_wp2_with fail
      refine K6.mono ?_
      rintro e w2 ⟨rfl, hq⟩
      have HB2 := Lib.hid (HB1.out.trans (quiet_bel _ hq))
      clear hq K6
      go_wp2_with fail
      refine (lives03_any w2).mono ?_
      rintro e w3 ⟨rfl, hb3⟩
      go_wp2
      go_ret
      exact ⟨rfl, HB2.out.trans (hb3.mono HB2.out.size)⟩
set_option maxHeartbeats 800000 in
theorem clist_long (A : Option Addr) (c n : Nat) (w : World) (hl : 20 < n) :
    Calls Try.prog 3 #[.slice A n c] w fun e w' => e = .returned (.bool true) ∧ Below w.heap.size w w' := by
  have d : decide ((20 : Int) < (n : Int)) = true := dec_t (by omega)
  have d' : decide (20 < n) = true := dec_t (by omega)
  clear hl
  go_enter Try.func3, Try.ntmps3
  go_wp2_with fail
  refine (lives03_any w).mono ?_
  rintro e w2 ⟨rfl, hb⟩
  go_wp2
  go_ret
  exact ⟨rfl, hb⟩
theorem coverList_walk (A : Option Addr) (n c : Nat) (ps : List P3) (w : World) (hn : n = ps.length) (hi : PiecesAt w A ps) (h64 : ∀ k, k < ps.length → P64 (nthP ps k)) :
    Calls Try.prog 3 #[.slice A n c] w fun e w' => e = .returned (.bool true) ∧ Below w.heap.size w w' := by
  subst hn
  by_cases h : 20 < ps.length
  · exact clist_long A c _ w h
  · exact clist_in A c ps w (by omega) hi h64
end Go.Proofs.Ytjlieamjlelipaa
