/- The contract of the document's All (layer 7): the seconds of masks, rising. -/
import Derived.Test.YtjpdfbljhbgbcaaDoorTodN
import Derived.Deep.RegionLaw
import Derived.LoopTactic
import Derived.Laws.AppendOwn
import Derived.BigRegion
namespace Go

theorem step_append_ownT {P : Program} {ops : Array Oper} {o : Oper} {a : Act} {w : World} {K : Act → World → Prop} {Q : Exit → Act → World → Prop} {E : Prop}
    (hg : o.guard = none) (s x : Operand) (t : TypeId) (hop : o.op = Op.call { callee := Callee.builtin Builtin.append, args := #[s, x], argTypes := #[t, t] })
    (base : Nat) (e : TypeId) (i : TypeInfo) (z : Value) (size bytes : Nat) (h1 : P.underlying t = some (.slice e)) (h2 : P.info? e = some i) (h3 : i.zero = some z) (h4 : i.size = size) (h5 : i.bytes = bytes) (h6 : z.cells.size = size) (h7 : 0 < size)
    (v : Value) (n : Nat) (xs : List Value) (hs : a.eval s = v) (hown : w.ownsRow base e size v n xs)
    (ad : Addr) (m c : Nat) (news : List Value) (hx : a.eval x = .slice (some ad) m c) (hn : news.length = m * size) (hc : ∀ j u, news[j]? = some u → w.cell? (ad.add j) = some u) (h1c : ∀ u ∈ news, u.oneCell' = true)
    (b1 : n + m ≤ maxLen) (b2 : (n + m) * bytes ≤ 140737488355328) (hbase : base ≤ w.heap.size)
    (hK : ∀ v' w', w'.ownsRow base e size v' (n + m) (xs ++ news) → w.grownBy w' v.ownBlock → K (a.put o.dst v') w') :
    if Region.wanted o (yielded ops a.tmps) = true then Oper.wp P o a w K Q else E := by
  have hw : Region.wanted o (yielded ops a.tmps) = true := by simp [Region.wanted, hg]
  rw [if_pos hw]
  obtain ⟨v', w', hrun, r1, r2, _⟩ := run_append_own (P := P) w base t o.type e i z size bytes h1 h2 h3 h4 h5 h6 h7 v n xs hown ad m c news hn hc h1c b1 b2 hbase
  unfold Oper.wp
  simp [execOp, hop, resolve, invoke, builtin, hs, hx, hrun, Result.andThen]
  exact hK v' w' r1 r2
end Go
namespace Go.Proofs.YtjpdfbljhbgbcaaDoor
open Go.RowKit
set_option linter.unusedVariables false

theorem ownI_draws {w : World} {base : Nat} {v : Value} {zs : List Int} (h : OwnI w base v zs) (n : Nat) : OwnI (w.drewN n) base v zs := h
/-- a row of numbers that a mask has, in a world -/
def Row (w : World) (A : Option Addr) (q : Nat → Bool) : Prop := Ints .i64 w A (numsP q 64)
theorem Row.at {w : World} {A : Option Addr} {q : Nat → Bool} (h : Row w A q) (j : Nat) (hj : j < (numsP q 64).length) : ∃ b o x, A = some ⟨b, o, none⟩ ∧ b < w.heap.size ∧ w.cell? ⟨b, o + j, none⟩ = some (.int .i64 ((x : Nat) : Int)) ∧ x < 64 ∧ q x = true ∧ (numsP q x).length = j := by
  obtain ⟨b, o, h1, h2, h3⟩ := h j hj
  obtain ⟨x, x1, x2, x3, x4⟩ := nth_spec q 64 j hj
  rw [x3] at h3
  exact ⟨b, o, x, h1, h2, h3, x1, x2, x4⟩
/-- how far the outer, the middle and the inner loop have gone -/
def OutA (p a : Nat → Bool) (W0 : World) (v i : Value) (wr : World) : Prop := ∃ k X : Nat, k ≤ (numsP a 64).length ∧ i = .int .i64 k ∧ X ≤ 64 ∧ (numsP a X).length = k ∧ OwnI wr W0.heap.size v (numsP p (3600 * X)) ∧ Below W0.heap.size W0 wr
def OutB (p b : Nat → Bool) (x : Nat) (W0 : World) (v i : Value) (wr : World) : Prop := ∃ k Y : Nat, k ≤ (numsP b 64).length ∧ i = .int .i64 k ∧ Y ≤ 60 ∧ (numsP b Y).length = k ∧ OwnI wr W0.heap.size v (numsP p (3600 * x + 60 * Y)) ∧ Below W0.heap.size W0 wr
def OutC (p c : Nat → Bool) (x y : Nat) (W0 : World) (v i : Value) (wr : World) : Prop := ∃ k Z : Nat, k ≤ (numsP c 64).length ∧ i = .int .i64 k ∧ Z ≤ 60 ∧ (numsP c Z).length = k ∧ OwnI wr W0.heap.size v (numsP p (3600 * x + 60 * y + Z)) ∧ Below W0.heap.size W0 wr
set_option maxHeartbeats 3200000 in
set_option maxRecDepth 100000 in
theorem rall_any (H M S : Nat) (hH : H < 18446744073709551616) (hM : M < 18446744073709551616) (hS : S < 18446744073709551616) (w : World) :
    Calls Tryd.prog 9 #[.int .u64 H, .int .u64 M, .int .u64 S] w (Gives (numsP (pM H M S) 86400) w) := by
  obtain ⟨i0, hi, hz0, hz1, hz2⟩ := info_parts info_int
  have KH1 : ∀ W, Calls Tryd.prog 33 #[.int .u64 H, .int .i64 23] W fun e w' => e = .returned (.int .u64 (hd H)) ∧ Below W.heap.size W w' := fun W => rheld_any H 23 W hH (by omega)
  have KH2 : ∀ W, Calls Tryd.prog 33 #[.int .u64 M, .int .i64 59] W fun e w' => e = .returned (.int .u64 (hm M)) ∧ Below W.heap.size W w' := fun W => rheld_any M 59 W hM (by omega)
  have KH3 : ∀ W, Calls Tryd.prog 33 #[.int .u64 S, .int .i64 59] W fun e w' => e = .returned (.int .u64 (hm S)) ∧ Below W.heap.size W w' := fun W => rheld_any S 59 W hS (by omega)
  have KL1 := fun W => rlist_any (hd H) W (hd_lt H)
  have KL2 := fun W => rlist_any (hm M) W (hm_lt M)
  have KL3 := fun W => rlist_any (hm S) W (hm_lt S)
  have FA := Lib.hid (fun i (h : (hd H).testBit i = true) => hd_far h)
  have FB := Lib.hid (fun i (h : (hm M).testBit i = true) => hm_far h)
  have FC := Lib.hid (fun i (h : (hm S).testBit i = true) => hm_far h)
  have CA := Lib.hid (count_hd H)
  have CB := Lib.hid (count_hm M)
  have CC := Lib.hid (count_hm S)
  obtain ⟨N, hN⟩ : ∃ N, N = 86400 := ⟨_, rfl⟩
  rw [← hN]
  have HN := Lib.hid hN
  clear hN
  unfold pM
  generalize hd H = h at KH1 KL1 FA CA ⊢
  generalize hm M = m at KH2 KL2 FB CB ⊢
  generalize hm S = s at KH3 KL3 FC CC ⊢
  clear hH hM hS
  unfold Gives at KL1 KL2 KL3
  obtain ⟨a, ha⟩ : ∃ a, h.testBit = a := ⟨_, rfl⟩
  obtain ⟨b, hb⟩ : ∃ a, m.testBit = a := ⟨_, rfl⟩
  obtain ⟨c, hc⟩ : ∃ a, s.testBit = a := ⟨_, rfl⟩
  rw [ha] at KL1 FA CA ⊢
  rw [hb] at KL2 FB CB ⊢
  rw [hc] at KL3 FC CC ⊢
  clear ha hb hc
  go_enter Tryd.func9, Tryd.ntmps9
  go_wp2_with fail
  refine (KH1 _).mono ?_
  rintro e w1 ⟨rfl, hb1⟩
  have HB1 := Lib.hid hb1
  go_wp2_with fail
  refine (KL1 _).mono ?_
  rintro e w2 ⟨A1, c1, rfl, hi1, hb2⟩
  have HB2 := Lib.hid (HB1.out.trans (hb2.mono HB1.out.size))
  have HI1 := Lib.hid (show Row w2 A1 a from hi1)
  clear KH1 KL1 hb1 hb2 hi1
  go_wp2_with fail
  refine (KH2 _).mono ?_
  rintro e w3 ⟨rfl, hb3⟩
  have HB3 := Lib.hid (HB2.out.trans (hb3.mono HB2.out.size))
  have HI1' := Lib.hid (show Row w3 A1 a from Ints.below HI1.out hb3)
  go_wp2_with fail
  refine (KL2 _).mono ?_
  rintro e w4 ⟨A2, c2, rfl, hi2, hb4⟩
  have HB4 := Lib.hid (HB3.out.trans (hb4.mono HB3.out.size))
  have HI2 := Lib.hid (show Row w4 A2 b from hi2)
  have HI1'' := Lib.hid (show Row w4 A1 a from Ints.below HI1'.out hb4)
  clear KH2 KL2 hb3 hb4 hi2 HI1 HI1'
  go_wp2_with fail
  refine (KH3 _).mono ?_
  rintro e w5 ⟨rfl, hb5⟩
  have HB5 := Lib.hid (HB4.out.trans (hb5.mono HB4.out.size))
  have HI1 := Lib.hid (show Row w5 A1 a from Ints.below HI1''.out hb5)
  have HI2' := Lib.hid (show Row w5 A2 b from Ints.below HI2.out hb5)
  go_wp2_with fail
  refine (KL3 _).mono ?_
  rintro e W0 ⟨A3, c3, rfl, hi3, hb6⟩
  have HB0 := Lib.hid (HB5.out.trans (hb6.mono HB5.out.size))
  have R1 := Lib.hid (show Row W0 A1 a from Ints.below HI1.out hb6)
  have R2 := Lib.hid (show Row W0 A2 b from Ints.below HI2'.out hb6)
  have R3 := Lib.hid (show Row W0 A3 c from hi3)
  clear KH3 KL3 hb5 hb6 hi3 HI1 HI2' HI1'' HI2 HB1 HB2 HB3 HB4 HB5
  have EA := Lib.hid (show ∀ X, X ≤ 64 → (numsP a X).length = (numsP a 64).length → numsP (pT a b c) (3600 * X) = numsP (pT a b c) N from fun X _ hX => by
    have h := same_a (a := a) (b := b) (c := c) X 24 (by rw [hX]; exact CA.out)
    rw [HN.out]
    exact h)
  go_wp2
  go_loopw [10, 11] (fun v i wr => OutA (pT a b c) a W0 v i wr) (fun _ i _ => (numsP a 64).length - (intOf i).toNat)
  case atStart => exact ⟨0, 0, Nat.zero_le _, rfl, by omega, rfl, OwnI.nil _ _, Below.refl _ _⟩
  case round =>
    obtain ⟨k, X, hk, rfl, hX, hXk, hown, hb⟩ := hrel
    have HO := Lib.hid hown
    have HB := Lib.hid hb
    clear hown hb
    by_cases hlt : k < (numsP a 64).length
    · obtain ⟨g1, o1, x, rfl, gl1, cx, hx, hax, hxk⟩ := R1.out.at k hlt
      have bx := FA.out x hax
      have CX := Lib.hid cx
      have HAX := Lib.hid hax
      have HXK := Lib.hid hxk
      have HO1 := Lib.hid (show OwnI wr W0.heap.size _ (numsP (pT a b c) (3600 * x + 60 * 0)) by rw [show 3600 * x + 60 * 0 = 3600 * x by omega, ← same_a (a := a) (b := b) (c := c) X x (hXk.trans hxk.symm)]; exact HO.out)
      have HLT := Lib.hid hlt
      have dk : decide ((k : Int) < (((numsP a 64).length : Nat) : Int)) = true := dec_t (by omega)
      clear cx hax hxk HO hXk hX hx
      go_wp2
      clear dk hlt
      obtain ⟨W1, hW1⟩ : ∃ W1, W1 = wr := ⟨_, rfl⟩
      subst hW1
      go_loopw [10, 12] (fun v i wr => OutB (pT a b c) b x W0 v i wr) (fun _ i _ => (numsP b 64).length - (intOf i).toNat)
      case atStart => exact ⟨0, 0, Nat.zero_le _, rfl, by omega, rfl, HO1.out, HB.out⟩
      case round =>
        clear HO1 HB
        obtain ⟨k2, Y, hk2, rfl, hY, hYk, hown, hb⟩ := hrel
        have HO := Lib.hid hown
        have HB := Lib.hid hb
        clear hown hb
        by_cases hlt2 : k2 < (numsP b 64).length
        · obtain ⟨g2, o2, y, rfl, gl2, cy, hy, hby, hyk⟩ := R2.out.at k2 hlt2
          have bY := FB.out y hby
          have CY := Lib.hid cy
          have HBY := Lib.hid hby
          have HYK := Lib.hid hyk
          have HO1 := Lib.hid (show OwnI wr W0.heap.size _ (numsP (pT a b c) (3600 * x + 60 * y + 0)) by rw [Nat.add_zero, ← same_b (a := a) (b := b) (c := c) x Y y hY (by omega) (hYk.trans hyk.symm)]; exact HO.out)
          have HLT2 := Lib.hid hlt2
          have dk2 : decide ((k2 : Int) < (((numsP b 64).length : Nat) : Int)) = true := dec_t (by omega)
          clear cy hby hyk HO hYk hY hy
          go_wp2
          clear dk2 hlt2
          obtain ⟨W2, hW2⟩ : ∃ W2, W2 = wr := ⟨_, rfl⟩
          subst hW2
          go_loopw [10, 13] (fun v i wr => OutC (pT a b c) c x y W0 v i wr) (fun _ i _ => (numsP c 64).length - (intOf i).toNat)
          case atStart => exact ⟨0, 0, Nat.zero_le _, rfl, by omega, rfl, HO1.out, HB.out⟩
          case round =>
            clear HO1 HB
            obtain ⟨k3, Z, hk3, rfl, hZ, hZk, hown, hb⟩ := hrel
            have HO := Lib.hid hown
            have HB := Lib.hid hb
            clear hown hb
            by_cases hlt3 : k3 < (numsP c 64).length
            · obtain ⟨g3, o3, z, rfl, gl3, cz, hz, hcz, hzk⟩ := R3.out.at k3 hlt3
              have bz := FC.out z hcz
              have u1 : wr.cell? ⟨g1, o1 + k, none⟩ = some (.int .i64 ((x : Nat) : Int)) := (HB.out.cell (p := ⟨g1, o1 + k, none⟩) gl1).trans CX.out
              have u2 : wr.cell? ⟨g2, o2 + k2, none⟩ = some (.int .i64 ((y : Nat) : Int)) := (HB.out.cell (p := ⟨g2, o2 + k2, none⟩) gl2).trans CY.out
              have u3 : wr.cell? ⟨g3, o3 + k3, none⟩ = some (.int .i64 ((z : Nat) : Int)) := (HB.out.cell (p := ⟨g3, o3 + k3, none⟩) gl3).trans cz
              have i1 : (0 : Int) ≤ (k : Int) := by omega
              have i2 : (k : Int) < (((numsP a 64).length : Nat) : Int) := by have := HLT.out; omega
              have i3 : (0 : Int) ≤ (k2 : Int) := by omega
              have i4 : (k2 : Int) < (((numsP b 64).length : Nat) : Int) := by have := HLT2.out; omega
              have i5 : (0 : Int) ≤ (k3 : Int) := by omega
              have i6 : (k3 : Int) < (((numsP c 64).length : Nat) : Int) := by omega
              have dk3 : decide ((k3 : Int) < (((numsP c 64).length : Nat) : Int)) = true := dec_t i6
              have i7 : k3 < 64 := by have := numsP_le c 64; omega
              have q5 : IntKind.i64.wrap ((k3 : Int) + 1) = (k3 : Int) + 1 := IntWalk.i64_in _ ⟨by omega, by omega⟩
              have q1 : IntKind.i64.wrap (3600 * (x : Int)) = 3600 * (x : Int) := IntWalk.i64_in _ ⟨by omega, by omega⟩
              have q2 : IntKind.i64.wrap (60 * (y : Int)) = 60 * (y : Int) := IntWalk.i64_in _ ⟨by omega, by omega⟩
              have q3 : IntKind.i64.wrap (3600 * (x : Int) + 60 * (y : Int)) = 3600 * (x : Int) + 60 * (y : Int) := IntWalk.i64_in _ ⟨by omega, by omega⟩
              have q4 : IntKind.i64.wrap (3600 * (x : Int) + 60 * (y : Int) + (z : Int)) = 3600 * (x : Int) + 60 * (y : Int) + (z : Int) := IntWalk.i64_in _ ⟨by omega, by omega⟩
              have HS := Lib.hid (step_c (a := a) (b := b) (c := c) bY bz HAX.out HBY.out hcz)
              have HZ1 := Lib.hid (show (numsP c (z + 1)).length = k3 + 1 by rw [numsP_yes c z hcz, List.length_append, hzk]; rfl)
              have HE := Lib.hid (show ((3600 * x + 60 * y + z : Nat) : Int) = 3600 * (x : Int) + 60 * (y : Int) + (z : Int) by omega)
              have hlen := numsP_le (pT a b c) (3600 * x + 60 * y + z)
              have HLN := Lib.hid (show (numsP (pT a b c) (3600 * x + 60 * y + z)).length ≤ 86400 by omega)
              have HO2 := Lib.hid (show OwnI wr W0.heap.size _ (numsP (pT a b c) (3600 * x + 60 * y + z)) by rw [← same_c (a := a) (b := b) (c := c) x y Z z hZ (by omega) (hZk.trans hzk.symm)]; exact HO.out)
              obtain ⟨Av, cv, rfl, _⟩ := HO2.out.ints
              rw [HE.out] at HS
              have HBZ := Lib.hid (show z + 1 ≤ 60 by omega)
              have HLT3 := Lib.hid hlt3
              clear hcz hzk cz hZk hlen HO hZ hz bz hlt3 HE
              generalize numsP (pT a b c) (3600 * x + 60 * y + z) = zs at HS HLN HO2 ⊢
              have HOd := Lib.hid (fun n => ownI_draws HO2.out n)
              have HBd := Lib.hid (fun n => HB.out.trans (below_draws wr.heap.size wr n |>.mono HB.out.size))
              go_wp2_with fail
              go_region_law (refine step_append_ownT rfl (.tmp 41) (.tmp 58) 26 rfl W0.heap.size 3 i0 (.int .i64 0) 1 8 Tryd.underlying26 hi hz0 hz1 hz2 rfl (by decide) (.slice Av zs.length cv) zs.length (zs.map (Value.int .i64)) (by simp [Act.eval]) (World.ownsRow.alloc (HOd.out _) _) ⟨_, 0, none⟩ 1 1 [.int .i64 (3600 * (x : Int) + 60 * (y : Int) + (z : Int))] (by simp [Act.eval]; rfl) rfl (fun j u hj => by
                  match j, hj with
                  | 0, hj => cases hj; exact cell_new _ _ _ 0
                  | j + 1, hj => cases hj) (by simp [Value.oneCell']) (by have := HLN.out; unfold maxLen; omega) (by have := HLN.out; omega) (by have := (HBd.out 0).size; simp at this ⊢; omega) ?_; intro v' w4 hown4 hgrow; have HO4 := Lib.hid (OwnI.snoc hown4); have HB4 := Lib.hid (Below.grown ((HBd.out _).alloc (HBd.out _).size (.cells #[.int .i64 (3600 * (x : Int) + 60 * (y : Int) + (z : Int))] 3)) hgrow (by have := (HBd.out 0).size; simp at this ⊢; omega) (own_block (HOd.out 0))); clear hown4 hgrow)
              all_goals (go_wp2; go_roundw)
              all_goals first
                | exact ⟨k3 + 1, z + 1, HLT3.out, by have := HLT3.out; have := numsP_le c 64; go_num, HBZ.out, HZ1.out, by rw [HS.out]; exact HO4.out, HB4.out⟩
                | (have := HLT3.out; have := numsP_le c 64; simp [intOf]; omega)
            · obtain rfl : k3 = (numsP c 64).length := by omega
              have dk3 : decide ((((numsP c 64).length : Nat) : Int) < (((numsP c 64).length : Nat) : Int)) = false := dec_n (by omega)
              have HO3 := Lib.hid (show OwnI wr W0.heap.size _ (numsP (pT a b c) (3600 * x + 60 * (y + 1))) by rw [show 3600 * x + 60 * (y + 1) = 3600 * x + 60 * y + 60 by omega, ← same_c (a := a) (b := b) (c := c) x y Z 60 hZ (by omega) (hZk.trans CC.out)]; exact HO.out)
              have HY1 := Lib.hid (show (numsP b (y + 1)).length = k2 + 1 by rw [numsP_yes b y HBY.out, List.length_append, HYK.out]; rfl)
              have HLc := Lib.hid (show k2 + 1 ≤ (numsP b 64).length from HLT2.out)
              have hkb := numsP_le b 64
              clear HO hZk hZ hk3 hlt3
              go_wp2
              go_roundw
              case rel => exact ⟨k2 + 1, y + 1, HLc.out, by have := HLc.out; go_num, by omega, HY1.out, HO3.out, HB.out⟩
              case measure => have := HLc.out; simp [intOf]; omega
        · obtain rfl : k2 = (numsP b 64).length := by omega
          have dk2 : decide ((((numsP b 64).length : Nat) : Int) < (((numsP b 64).length : Nat) : Int)) = false := dec_n (by omega)
          have HO3 := Lib.hid (show OwnI wr W0.heap.size _ (numsP (pT a b c) (3600 * (x + 1))) by rw [show 3600 * (x + 1) = 3600 * x + 60 * 60 by omega, ← same_b (a := a) (b := b) (c := c) x Y 60 hY (by omega) (hYk.trans CB.out)]; exact HO.out)
          have HX1 := Lib.hid (show (numsP a (x + 1)).length = k + 1 by rw [numsP_yes a x HAX.out, List.length_append, HXK.out]; rfl)
          have HLc := Lib.hid (show k + 1 ≤ (numsP a 64).length from HLT.out)
          have hka := numsP_le a 64
          clear HO hYk hY hk2 hlt2
          go_wp2
          go_roundw
          case rel => exact ⟨k + 1, x + 1, HLc.out, by have := HLc.out; go_num, by omega, HX1.out, HO3.out, HB.out⟩
          case measure => have := HLc.out; simp [intOf]; omega
    · obtain rfl : k = (numsP a 64).length := by omega
      have HE := Lib.hid (EA.out X hX hXk)
      have hown2 := HO.out
      rw [HE.out] at hown2
      obtain ⟨A, cc, rfl, hin⟩ := hown2.ints
      clear hown2 HO HE
      have HI := Lib.hid hin
      clear hin hlt
      go_wp2
      go_ret
      exact ⟨A, cc, rfl, HI.out, HB0.out.trans (HB.out.mono HB0.out.size)⟩
end Go.Proofs.YtjpdfbljhbgbcaaDoor
