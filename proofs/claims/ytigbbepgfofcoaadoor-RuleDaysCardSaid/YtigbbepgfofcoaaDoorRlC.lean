/- What is wrong with a rule's days and weekdays, by the document (layer 32): Ns, days, weeks. -/
import Derived.Test.YtigbbepgfofcoaaDoorRlB
namespace Go.Proofs.YtigbbepgfofcoaaDoor
open Go.RowKit
set_option linter.unusedVariables false

/-- the N of weekdays -/
def nsL (l : List N2) : List Int := l.map (·.1)
theorem ns_step (l : List N2) (k : Nat) (h : k < l.length) : nsL (l.take (k + 1)) = nsL (l.take k) ++ [(nthN l k).1] := by
  unfold nsL nthN
  have e : l.take (k + 1) = l.take k ++ [l[k]] := by rw [List.take_add_one, List.getElem?_eq_getElem h]; rfl
  rw [e, List.map_append, List.getElem?_eq_getElem h]; rfl
theorem ns_len (l : List N2) (k : Nat) (h : k ≤ l.length) : (nsL (l.take k)).length = k := by
  unfold nsL; rw [List.length_map, List.length_take]; omega
theorem ns_all (l : List N2) : nsL (l.take l.length) = nsL l := by rw [List.take_length]
theorem ns_get (l : List N2) (k : Nat) (h : k < l.length) : (nsL l)[k]?.getD 0 = (nthN l k).1 := by
  unfold nsL nthN
  rw [List.getElem?_map, List.getElem?_eq_getElem h]; rfl
set_option maxHeartbeats 1600000 in
set_option maxRecDepth 20000 in
theorem rns_any (A : Option Addr) (c : Nat) (l : List N2) (w : World) (hl : l.length ≤ 100000) (hN : NthsAt w A l) :
    Calls Tryd.prog 91 #[.slice A l.length c] w fun e w' => ∃ B d, e = .returned (.slice B (nsL l).length d) ∧ Ints .i64 w' B (nsL l) ∧ Below w.heap.size w w' := by
  have HN := Lib.hid hN
  have HL := Lib.hid hl
  have HST := Lib.hid (fun k h => ns_step l k h)
  have HLEN := Lib.hid (fun k h => ns_len l k h)
  have HALL := Lib.hid (ns_all l)
  obtain ⟨i0, hi', hz0, hz1, hz2⟩ := info_parts info_int
  clear hl hN
  go_enter Tryd.func91, Tryd.ntmps91
  go_wp2
  go_loopw [3, 4] (fun v i wr => ∃ k : Nat, k ≤ l.length ∧ i = .int .i64 k ∧ OwnI wr w.heap.size v (nsL (l.take k)) ∧ Below w.heap.size w wr) (fun _ i _ => l.length - (intOf i).toNat)
  case atStart => exact ⟨0, Nat.zero_le _, rfl, OwnI.nil _ _, Below.refl _ _⟩
  case round =>
    obtain ⟨k, hk, rfl, hown, hb⟩ := hrel
    have HB := Lib.hid hb
    have HO := Lib.hid hown
    by_cases hlt : k < l.length
    · obtain ⟨b, off, rfl, hbl, x0, x1⟩ := (HN.out.below hb) k hlt
      have d0 : decide (k < l.length) = true := dec_t hlt
      have ik0 : (0 : Int) ≤ (k : Int) := by omega
      have ik1 : (k : Int) < (l.length : Int) := by omega
      have hl := HL.out
      have hw1 : IntKind.i64.wrap ((k : Int) + 1) = (k : Int) + 1 := IntWalk.i64_in _ ⟨by omega, by omega⟩
      have HT := Lib.hid (HST.out k hlt)
      have HLE := Lib.hid (HLEN.out k hk)
      have HK := Lib.hid hlt
      have HZ := Lib.hid hb.size
      generalize (nthN l k).1 = z at x0 HT
      clear hk hlt hown hb hl x1 hbl
      go_wp2_with ((at_builtin; refine wpList_append_own _ rfl _ _ 22 rfl w.heap.size 3 i0 (.int .i64 0) 1 8 Tryd.underlying22 hi' hz0 hz1 hz2 rfl (by decide) _ _ _ rfl (World.ownsRow.alloc HO.out _) ⟨wr.heap.size, 0, none⟩ 1 1 [.int .i64 z] rfl rfl ?e1 ?e2 ?e3 ?e4 ?e5 ?_))
      case e1 =>
        intro j u hj
        cases j with
        | zero => cases hj; exact cell_new _ _ _ 0
        | succ j => cases hj
      case e2 => simp [Value.oneCell']
      case e3 => have := HK.out; have := HLE.out; have := HL.out; unfold maxLen; omega
      case e4 => have := HK.out; have := HLE.out; have := HL.out; omega
      case e5 => have := HZ.out; simp; omega
      intro v' w2 hown1 hgrow _
      have HO2 := Lib.hid (OwnI.snoc hown1)
      have HB2 := Lib.hid (Below.grown (HB.out.alloc HZ.out (.cells #[.int .i64 z] 3)) hgrow (by have := HZ.out; simp; omega) (own_block HO.out))
      clear hown1 hgrow
      go_wp2
      go_roundw
      case rel => exact ⟨k + 1, by have := HK.out; omega, by go_num, by rw [HT.out]; exact HO2.out, HB2.out⟩
      case measure =>
        have := HK.out
        simp [intOf]; omega
    · obtain rfl : k = l.length := by omega
      have d0 : decide (l.length < l.length) = false := dec_n (by omega)
      rw [HALL.out] at hown
      obtain ⟨B, d, rfl, hin⟩ := hown.ints
      have HI := Lib.hid hin
      clear hin hk hlt hb HO hown
      go_wp2
      go_ret
      exact ⟨B, d, rfl, HI.out, HB.out⟩
/-- what is wrong with the days -/
def daysE (r : Rl) : Int := if lstE (-31) 31 (r.Z 1) ≠ 0 then lstE (-31) 31 (r.Z 1) else if (r.Z 1).any (fun z => decide (z = 0)) = true then 4 else if (decide (0 < (r.Z 1).length) && decide (r.freq = 4) || sgB (r.Z 1)) = true then 12 else 0
set_option maxHeartbeats 1600000 in
set_option maxRecDepth 20000 in
theorem rdays_any (r : Rl) (w : World) (hr : RlAt w r) (hin : RlIn r) :
    Calls Tryd.prog 55 #[rlV r] w fun e w' => e = .returned (.int .i64 (daysE r)) ∧ Below w.heap.size w w' := by
  have hI := hr.1 1 (by decide)
  have hL := (hin.2.2.2.2.2.1 1 (by decide)).2
  have HG0 := Lib.hid (blk_new w (.cells (rlC r) 25))
  have HB0 := Lib.hid (show Below w.heap.size w (w.alloc (.cells (rlC r) 25)) from (Below.refl _ _).alloc (Nat.le_refl _) _)
  have KL := Lib.hid (fun W h => rlst_any (r.A 1) (r.c 1) (r.Z 1) (-31) 31 W hL h)
  have KS := Lib.hid (fun W h => rsigns_any (r.A 1) (r.c 1) (r.Z 1) W hL h)
  have HE := Lib.hid (show daysE r = if lstE (-31) 31 (r.Z 1) ≠ 0 then lstE (-31) 31 (r.Z 1) else if (r.Z 1).any (fun z => decide (z = 0)) = true then 4 else if (decide (0 < (r.Z 1).length) && decide (r.freq = 4) || sgB (r.Z 1)) = true then 12 else 0 from rfl)
  have HS := Lib.hid (fun k h => any_drop (fun z => decide (z = 0)) (r.Z 1) k h)
  have HX := Lib.hid (any_end (fun z => decide (z = 0)) (r.Z 1))
  have H0 := Lib.hid (show ((r.Z 1).drop 0).any (fun z => decide (z = 0)) = (r.Z 1).any (fun z => decide (z = 0)) from rfl)
  have HI := Lib.hid hI
  have HL := Lib.hid hL
  generalize lstE (-31) 31 (r.Z 1) = e1 at KL HE
  generalize sgB (r.Z 1) = sg at KS HE
  generalize (r.Z 1).any (fun z => decide (z = 0)) = az at HE H0
  generalize daysE r = res at HE ⊢
  obtain ⟨W0, hW0⟩ : ∃ W0, w.alloc (.cells (rlC r) 25) = W0 := ⟨_, rfl⟩
  rw [hW0] at HG0 HB0
  have x1 : W0.cell? ⟨w.heap.size, 1, none⟩ = some (.int .i64 r.freq) := blk_cell HG0.out 1
  have x6 : W0.cell? ⟨w.heap.size, 6, none⟩ = some (.slice (r.A 1) (r.Z 1).length (r.c 1)) := blk_cell HG0.out 6
  have K1 := KL.out W0 (hI.below HB0.out)
  unfold rlV rlC
  unfold rlC at hW0
  clear HG0
  generalize r.Z 1 = zs at *
  generalize r.A 1 = A at *
  generalize r.c 1 = c at *
  clear hr hin hI hL
  go_enter Tryd.func55, Tryd.ntmps55
  go_wp2_with fail
  try rw [hW0]
  clear hW0
  refine K1.mono ?_
  rintro e w1 ⟨rfl, rfl⟩
  by_cases h1 : e1 = 0
  · subst h1
    go_wp2
    go_loop [4] (fun i => ∃ k : Nat, k ≤ zs.length ∧ i = .int .i64 k ∧ Hid ((zs.drop k).any (fun z => decide (z = 0)) = az)) (fun i => zs.length - (intOf i).toNat)
    case atStart => exact ⟨0, Nat.zero_le _, rfl, H0⟩
    case round =>
      obtain ⟨k, hk, rfl, HA⟩ := hrel
      by_cases hlt : k < zs.length
      · obtain ⟨bk, off, rfl, hb, hcell⟩ := (HI.out.below HB0.out) k hlt
        have hst := HS.out k hlt
        rw [HA.out] at hst
        have HST := Lib.hid hst
        have hl := HL.out
        have d0 : decide (k < zs.length) = true := dec_t hlt
        have ik0 : (0 : Int) ≤ (k : Int) := by omega
        have ik1 : (k : Int) < (zs.length : Int) := by omega
        have hw1 : IntKind.i64.wrap ((k : Int) + 1) = (k : Int) + 1 := IntWalk.i64_in _ ⟨by omega, by omega⟩
        have HK := Lib.hid (And.intro hk hlt)
        generalize zs[k]?.getD 0 = z at hcell HST
        clear hst hk hlt HA
        by_cases h2 : z = 0
        · have e2 : (z == 0) = true := by simp [h2]
          have HB := Lib.hid (show res = 4 by rw [HE.out, if_neg (by simp), if_pos (by rw [HST.out, dec_t h2]; rfl)])
          clear HST h2
          go_wp2
          go_ret
          exact ⟨by rw [HB.out]; rfl, HB0.out⟩
        · have e2 : (z == 0) = false := by rw [beq_eq_false_iff_ne]; exact h2
          have HB := Lib.hid (show (zs.drop (k + 1)).any (fun z => decide (z = 0)) = az by rw [HST.out, dec_n h2]; rfl)
          clear HST h2
          go_wp2
          go_round
          case rel => exact ⟨k + 1, by have := HK.out; omega, by go_num, HB⟩
          case measure =>
            have := HK.out
            simp [intOf]; omega
      · obtain rfl : k = zs.length := by omega
        have d0 : decide (zs.length < zs.length) = false := dec_n (by omega)
        have HB := Lib.hid (show az = false by rw [← HA.out]; exact HX.out)
        have HR := Lib.hid (show res = if (decide (0 < zs.length) && decide (r.freq = 4) || sg) = true then 12 else 0 by rw [HE.out, if_neg (by simp), if_neg (by rw [HB.out]; simp)])
        have K2 := KS.out W0 (HI.out.below HB0.out)
        clear hk hlt HE HA
        obtain ⟨p, hp⟩ : ∃ p, decide (0 < zs.length) = p := ⟨_, rfl⟩
        have hp2 : decide ((0 : Int) < (zs.length : Int)) = p := by rw [← hp]; exact decide_eq_decide.2 (by omega)
        obtain ⟨q, hq⟩ : ∃ q, decide (r.freq = 4) = q := ⟨_, rfl⟩
        have hq2 : (r.freq == 4) = q := by rw [← hq]; rfl
        rw [hp, hq] at HR
        cases p <;> cases q
        case true.true =>
          go_wp2
          go_ret
          exact ⟨by rw [HR.out]; rfl, HB0.out⟩
        all_goals
          go_wp2_with fail
          refine K2.mono ?_
          rintro e w2 ⟨rfl, n, rfl⟩
          have HBn := Lib.hid (HB0.out.trans (below_draws w.heap.size W0 n))
          cases sg
          · go_wp2
            go_ret
            exact ⟨by rw [HR.out]; rfl, HBn.out⟩
          · go_wp2
            go_ret
            exact ⟨by rw [HR.out]; rfl, HBn.out⟩
  · have e2 : (e1 != 0) = true := by simp [h1]
    have HB := Lib.hid (show res = e1 by rw [HE.out, if_pos h1])
    clear HE h1
    go_wp2
    go_ret
    exact ⟨by rw [HB.out]; rfl, HB0.out⟩
end Go.Proofs.YtigbbepgfofcoaaDoor
