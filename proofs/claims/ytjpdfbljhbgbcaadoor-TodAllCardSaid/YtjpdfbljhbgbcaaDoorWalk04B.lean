/- The walk of WideBoth (layer 4). -/
import Derived.Test.YtjpdfbljhbgbcaaDoorWalk04O
import Derived.Test.YtjpdfbljhbgbcaaDoorApp2
namespace Go.Proofs.YtjpdfbljhbgbcaaDoor
open Go.RowKit
set_option linter.unusedVariables false

attribute [local go_sem] eq7
/-- is a number in all of the sets? in one of them? -/
def aP (Ps : List (Nat → Bool)) (n : Nat) : Bool := Ps.all fun P => P n
theorem aP_step (Ps : List (Nat → Bool)) (k n : Nat) (h : k < Ps.length) : aP (Ps.take (k + 1)) n = (aP (Ps.take k) n && (Ps[k]?.getD fun _ => false) n) := by
  unfold aP
  rw [take_stepP Ps k h, List.all_append]
  simp
theorem oP_step (Ps : List (Nat → Bool)) (k n : Nat) (h : k < Ps.length) : orP (Ps.take (k + 1)) n = (orP (Ps.take k) n || (Ps[k]?.getD fun _ => false) n) := by
  unfold orP
  rw [take_stepP Ps k h, List.any_append]
  simp
theorem nums_in (p : Nat → Bool) (i : Nat) : inW (numsP p 400) i = (decide (i < 400) && p i) := by
  unfold inW inL
  by_cases hi : i < 400
  · rw [dec_t hi]
    by_cases h : p i = true
    · rw [dec_t (mem_numsP.2 ⟨i, hi, h, rfl⟩), h]
    · rw [Bool.eq_false_iff.2 h]
      have : ¬ ((i : Int) ∈ numsP p 400) := fun hm => by
        obtain ⟨k, hk, hp, he⟩ := mem_numsP.1 hm
        have : i = k := by omega
        subst this
        exact h hp
      rw [dec_n this]; rfl
  · rw [dec_n hi]; simp
theorem both_eq (Ps : List (Nat → Bool)) : S7 (inW (numsP (aP Ps) 400)) = S7 (andP Ps) := S7_congr fun i _ => by rw [nums_in]; rfl
theorem either_eq (Ps : List (Nat → Bool)) : S7 (inW (numsP (orP Ps) 400)) = S7 (eitherP Ps) := S7_congr fun i _ => by rw [nums_in]; unfold eitherP clip; rw [Bool.and_comm]
theorem numsP_nil (p : Nat → Bool) : numsP p 0 = [] := rfl
def BothAt (Ps : List (Nat → Bool)) (w : World) (v1 v2 i : Value) (wr : World) : Prop := ∃ n : Nat, n ≤ 400 ∧ i = .int .i64 n ∧ OwnI wr w.heap.size v1 (numsP (aP Ps) n) ∧ OwnI wr w.heap.size v2 (numsP (orP Ps) n) ∧ Apart v1 v2 ∧ Below w.heap.size w wr
theorem below_app {w wr w' : World} {v : Value} {zs : List Int} {o : Obj} (hb : Below w.heap.size w wr) (ho : OwnI wr w.heap.size v zs) (hg : (wr.alloc o).grownBy w' v.ownBlock) : Below w.heap.size w w' :=
  Below.grown (hb.alloc hb.size o) hg (by have := hb.size; simp; omega) (own_block ho)
attribute [local irreducible] numsP
set_option maxHeartbeats 6400000 in
set_option maxRecDepth 20000 in
theorem wideBoth_in (A : Option Addr) (c : Nat) (Ps : List (Nat → Bool)) (w : World) (hl : Ps.length ≤ 20) (hc : Sets w A Ps) (hT : Tab w) :
    Calls Tryd.prog 5 #[.slice A Ps.length c] w fun e w' => e = .returned (.bool true) ∧ Below w.heap.size w w' := by
  have hgd := guard7
  have d0 : decide ((20 : Int) < (Ps.length : Int)) = false := dec_n (by omega)
  have d0' : decide (20 < Ps.length) = false := dec_n (by omega)
  have HC := Lib.hid hc
  have HT := Lib.hid hT
  have HN0 := Lib.hid (numsP_nil (aP Ps))
  have HN1 := Lib.hid (numsP_nil (orP Ps))
  clear hc hT
  go_enter Tryd.func5, Tryd.ntmps5
  go_wp2
  clear d0 d0'
  go_loopw [3, 4, 5] (fun v1 v2 i wr => BothAt Ps w v1 v2 i wr) (fun _ _ i _ => 400 - (intOf i).toNat)
  case atStart => exact ⟨0, by omega, rfl, by rw [HN0.out]; exact OwnI.nil _ _, by rw [HN1.out]; exact OwnI.nil _ _, Apart.nil _, Below.refl _ _⟩
  case round =>
    obtain ⟨n, hn, rfl, ho1, ho2, hap, hb⟩ := hrel
    have HO1 := Lib.hid ho1
    have HO2 := Lib.hid ho2
    have HA := Lib.hid hap
    have HB := Lib.hid hb
    clear ho1 ho2 hap hb
    by_cases hlt : n < 400
    · have d4 : decide ((n : Int) < 400) = true := decide_eq_true (by omega)
      go_wp2
      go_loopw [6, 7, 8] (fun a o i wx => ∃ k : Nat, k ≤ Ps.length ∧ i = .int .i64 k ∧ a = .bool (aP (Ps.take k) n) ∧ o = .bool (orP (Ps.take k) n) ∧ Below wr.heap.size wr wx) (fun _ _ i _ => Ps.length - (intOf i).toNat)
      case atStart => exact ⟨0, by omega, rfl, rfl, rfl, Below.refl _ _⟩
      case round =>
        obtain ⟨k, hk, rfl, rfl, rfl, hb⟩ := hrel
        have HBX := Lib.hid hb
        have HBW := Lib.hid (HB.out.trans (hb.mono HB.out.size))
        clear hb
        by_cases hlk : k < Ps.length
        · obtain ⟨b, off, rfl, hbl, hcell⟩ := (Sets.below HC.out HBW.out) k hlk
          have d3 := dec_t hlk
          have HS1 := Lib.hid (aP_step Ps k n hlk)
          have HS2 := Lib.hid (oP_step Ps k n hlk)
          generalize hP : (Ps[k]?.getD fun _ => false) = P at hcell HS1 HS2
          have K := fun W => wrhas_any P n W
          rw [hasW_in P n hlt] at K
          unfold S7 c7 at K
          have HK := Lib.hid K
          obtain ⟨x0, x1, x2, x3, x4, x5, x6⟩ := sets_cells hcell
          clear hcell hbl hP K
          generalize P n = pn at HS1 HS2 HK
          generalize hA1 : aP (Ps.take k) n = a1 at HS1
          generalize hO1 : orP (Ps.take k) n = o1 at HS2
          clear hA1 hO1
          go_wp2_with fail
          refine (HK.out _).mono ?_
          rintro e w2 ⟨rfl, hb2⟩
          have HB2 := Lib.hid (HBX.out.trans (hb2.mono HBX.out.size))
          clear hb2 x0 x1 x2 x3 x4 x5 x6
          cases a1 <;> cases o1
          all_goals go_wp2
          all_goals go_roundw
          all_goals first
            | exact ⟨k + 1, by omega, by go_num, by rw [HS1.out]; cases pn <;> rfl, by rw [HS2.out]; cases pn <;> rfl, HB2.out⟩
            | (simp [intOf]; omega)
        · obtain rfl : k = Ps.length := by omega
          rw [List.take_length]
          have HO3 := Lib.hid (HO1.out.below HBX.out)
          have HO4 := Lib.hid (HO2.out.below HBX.out)
          have HL1 := Lib.hid (numsP_le (aP Ps) n)
          have HL2 := Lib.hid (numsP_le (orP Ps) n)
          have HY1 := Lib.hid (numsP_yes (aP Ps) n)
          have HY2 := Lib.hid (numsP_yes (orP Ps) n)
          have HX1 := Lib.hid (numsP_no (aP Ps) n)
          have HX2 := Lib.hid (numsP_no (orP Ps) n)
          have hll1 := HL1.out
          have hll2 := HL2.out
          cases hq1 : aP Ps n
          · cases hq2 : orP Ps n
            · have HZ1 := Lib.hid (HX1.out hq1)
              have HZ2 := Lib.hid (HX2.out hq2)
              clear hq1 hq2 HX1 HX2 HY1 HY2
              go_wp2
              go_roundw
              case rel => exact ⟨n + 1, by omega, by go_num, by rw [HZ1.out]; exact HO3.out, by rw [HZ2.out]; exact HO4.out, HA.out, HBW.out⟩
              case measure => simp [intOf]; omega
            · have HZ1 := Lib.hid (HX1.out hq1)
              have HZ2 := Lib.hid (HY2.out hq2)
              clear hq1 hq2 HX1 HX2 HY1 HY2
              go_wp2_with ((at_builtin; refine wpList_app2 rfl _ _ rfl w.heap.size _ _ rfl (HO4.out.alloc _) _ 1 (n : Int) rfl ?c1 ?c2 ?c3 ?_))
              case c1 => exact cell_new _ _ _ 0
              case c2 => omega
              case c3 => have := HBW.out.size; simp; omega
              intro v' w1 hown1 hgrow hblk
              have HO5 := Lib.hid hown1
              have HO6 := Lib.hid (OwnI.beside (HO3.out.alloc _) hgrow HA.out.symm)
              have HA2 := Lib.hid (Apart.next HO3.out HA.out.symm hblk (by simp)).symm
              have HB5 := Lib.hid (below_app HBW.out HO4.out hgrow)
              clear hown1 hgrow hblk
              go_wp2
              go_roundw
              case rel => exact ⟨n + 1, by omega, by go_num, by rw [HZ1.out]; exact HO6.out, by rw [HZ2.out]; exact HO5.out, HA2.out, HB5.out⟩
              case measure => simp [intOf]; omega
          · cases hq2 : orP Ps n
            · have HZ1 := Lib.hid (HY1.out hq1)
              have HZ2 := Lib.hid (HX2.out hq2)
              clear hq1 hq2 HX1 HX2 HY1 HY2
              go_wp2_with ((at_builtin; refine wpList_app2 rfl _ _ rfl w.heap.size _ _ rfl (HO3.out.alloc _) _ 1 (n : Int) rfl ?c1 ?c2 ?c3 ?_))
              case c1 => exact cell_new _ _ _ 0
              case c2 => omega
              case c3 => have := HBW.out.size; simp; omega
              intro v' w1 hown1 hgrow hblk
              have HO5 := Lib.hid hown1
              have HO6 := Lib.hid (OwnI.beside (HO4.out.alloc _) hgrow HA.out)
              have HA2 := Lib.hid (Apart.next HO4.out HA.out hblk (by simp))
              have HB5 := Lib.hid (below_app HBW.out HO3.out hgrow)
              clear hown1 hgrow hblk
              go_wp2
              go_roundw
              case rel => exact ⟨n + 1, by omega, by go_num, by rw [HZ1.out]; exact HO5.out, by rw [HZ2.out]; exact HO6.out, HA2.out, HB5.out⟩
              case measure => simp [intOf]; omega
            · have HZ1 := Lib.hid (HY1.out hq1)
              have HZ2 := Lib.hid (HY2.out hq2)
              clear hq1 hq2 HX1 HX2 HY1 HY2
              go_wp2_with ((at_builtin; refine wpList_app2 rfl _ _ rfl w.heap.size _ _ rfl (HO3.out.alloc _) _ 1 (n : Int) rfl ?c1 ?c2 ?c3 ?_))
              case c1 => exact cell_new _ _ _ 0
              case c2 => omega
              case c3 => have := HBW.out.size; simp; omega
              intro v' w1 hown1 hgrow hblk
              have HO5 := Lib.hid hown1
              have HO6 := Lib.hid (OwnI.beside (HO4.out.alloc _) hgrow HA.out)
              have HA2 := Lib.hid (Apart.next HO4.out HA.out hblk (by simp))
              have HB5 := Lib.hid (below_app HBW.out HO3.out hgrow)
              clear hown1 hgrow hblk
              go_wp2_with ((at_builtin; refine wpList_app2 rfl _ _ rfl w.heap.size _ _ rfl (HO6.out.alloc _) _ 1 (n : Int) rfl ?d1 ?d2 ?d3 ?_))
              case d1 => exact cell_new _ _ _ 0
              case d2 => omega
              case d3 => have := HB5.out.size; simp; omega
              intro v'' w2 hown2 hgrow hblk
              have HO7 := Lib.hid hown2
              have HO8 := Lib.hid (OwnI.beside (HO5.out.alloc _) hgrow HA2.out.symm)
              have HA3 := Lib.hid (Apart.next HO5.out HA2.out.symm hblk (by simp)).symm
              have HB6 := Lib.hid (below_app HB5.out HO6.out hgrow)
              clear hown2 hgrow hblk
              go_wp2
              go_roundw
              case rel => exact ⟨n + 1, by omega, by go_num, by rw [HZ1.out]; exact HO8.out, by rw [HZ2.out]; exact HO7.out, HA3.out, HB6.out⟩
              case measure => simp [intOf]; omega
    · obtain rfl : n = 400 := by omega
      obtain ⟨A1, c1, rfl, hi1⟩ := HO1.out.ints
      obtain ⟨A2, c2, rfl, hi2⟩ := HO2.out.ints
      have HI1 := Lib.hid hi1
      have HI2 := Lib.hid hi2
      have h1 := numsP_le (aP Ps) 400
      have h2 := numsP_le (orP Ps) 400
      have K1 := Lib.hid (fun W h => both_any A c Ps W (by omega) h)
      have K2 := Lib.hid (fun W h => wrof_any A1 c1 (numsP (aP Ps) 400) W (by omega) h)
      rw [both_eq] at K2
      have K3 := Lib.hid (fun W h => either_any A c Ps W (by omega) h)
      have K4 := Lib.hid (fun W h => wrof_any A2 c2 (numsP (orP Ps) 400) W (by omega) h)
      rw [either_eq] at K4
      generalize andP Ps = P1 at K1 K2
      generalize eitherP Ps = P2 at K3 K4
      unfold S7 c7 at K1 K2 K3 K4
      clear hi1 hi2
      go_wp2_with fail
      refine (K1.out _ (Sets.below HC.out HB.out)).mono ?_
      rintro e w2 ⟨rfl, hb2⟩
      have HB2 := Lib.hid (HB.out.trans (hb2.mono HB.out.size))
      have HJ1 := Lib.hid (Ints.below HI1.out hb2)
      have HJ2 := Lib.hid (Ints.below HI2.out hb2)
      clear hb2
      go_wp2_with fail
      refine (K2.out _ HJ1.out).mono ?_
      rintro e w3 ⟨rfl, hb3⟩
      have HB3 := Lib.hid (HB2.out.trans (hb3.mono HB2.out.size))
      have HJ3 := Lib.hid (Ints.below HJ2.out hb3)
      clear hb3
      go_wp2_with fail
      refine (K3.out _ (Sets.below HC.out HB3.out)).mono ?_
      rintro e w4 ⟨rfl, hb4⟩
      have HB4 := Lib.hid (HB3.out.trans (hb4.mono HB3.out.size))
      have HJ4 := Lib.hid (Ints.below HJ3.out hb4)
      clear hb4
      go_wp2_with fail
      refine (K4.out _ HJ4.out).mono ?_
      rintro e w5 ⟨rfl, hb5⟩
      have HB5 := Lib.hid (HB4.out.trans (hb5.mono HB4.out.size))
      have HT5 := Lib.hid (HT.out.below HB5.out)
      clear hb5
      go_wp2_with fail
      refine (lives04_any _ HT5.out).mono ?_
      rintro e w6 ⟨rfl, hb6⟩
      have HB6 := Lib.hid (HB5.out.trans (hb6.mono HB5.out.size))
      clear hb6
      go_wp2
      go_ret
      exact ⟨rfl, HB6.out⟩
theorem wideBoth_long (A : Option Addr) (n c : Nat) (w : World) (hl : 20 < n) (hT : Tab w) :
    Calls Tryd.prog 5 #[.slice A n c] w fun e w' => e = .returned (.bool true) ∧ Below w.heap.size w w' := by
  have d0 : decide ((20 : Int) < (n : Int)) = true := dec_t (by omega)
  have d0' : decide (20 < n) = true := dec_t (by omega)
  have HT0 := Lib.hid hT
  clear hT
  go_enter Tryd.func5, Tryd.ntmps5
  go_wp2_with fail
  refine (lives04_any _ HT0.out).mono ?_
  rintro e w2 ⟨rfl, hb2⟩
  go_wp2
  go_ret
  exact ⟨rfl, hb2⟩
end Go.Proofs.YtjpdfbljhbgbcaaDoor
