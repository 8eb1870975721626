/- The walk of ItemValues (layer 12). -/
import Derived.Test.YtbfndcogieiejaaVaE
import Derived.Test.YtbfndcogieiejaaItL
import Derived.Test.YtbfndcogieiejaaItQ
import Derived.Test.YtbfndcogieiejaaWdH
import Derived.Test.YtbfndcogieiejaaIntsEq
import Derived.Deep.RegionLaw
import Derived.LoopTactic
import Derived.Laws.AppendOwn
import Derived.BigRegion
namespace Go

theorem step_append_ownV {P : Program} {ops : Array Oper} {o : Oper} {a : Act} {w : World} {K : Act → World → Prop} {Q : Exit → Act → World → Prop} {E : Prop}
    (hg : o.guard = none) (s x : Operand) (t : TypeId) (hop : o.op = Op.call { callee := Callee.builtin Builtin.append, args := #[s, x], argTypes := #[t, t] })
    (base : Nat) (e : TypeId) (i : TypeInfo) (z : Value) (size bytes : Nat) (h1 : P.underlying t = some (.slice e)) (h2 : P.info? e = some i) (h3 : i.zero = some z) (h4 : i.size = size) (h5 : i.bytes = bytes) (h6 : z.cells.size = size) (h7 : 0 < size)
    (v : Value) (n : Nat) (xs : List Value) (hs : a.eval s = v) (hown : w.ownsRow base e size v n xs)
    (ad : Addr) (m c : Nat) (news : List Value) (hx : a.eval x = .slice (some ad) m c) (hn : news.length = m * size) (hc : ∀ j u, news[j]? = some u → w.cell? (ad.add j) = some u) (h1c : ∀ u ∈ news, u.oneCell' = true)
    (b1 : n + m ≤ maxLen) (b2 : (n + m) * bytes ≤ 140737488355328) (hbase : base ≤ w.heap.size)
    (hK : ∀ v' w', w'.ownsRow base e size v' (n + m) (xs ++ news) → w.grownBy w' v.ownBlock → K (a.put o.dst v') w') :
    if Region.wanted o (yielded ops a.tmps) = true then Oper.wp P o a w K Q else E := by
  have hw : Region.wanted o (yielded ops a.tmps) = true := by simp [Region.wanted, hg]
  rw [if_pos hw]
  obtain ⟨v', w', hrun, r1, r2, _⟩ := run_append_own (P := P) w base t o.type e i z size bytes h1 h2 h3 h4 h5 h6 h7 v n xs hown ad m c news hn hc h1c b1 b2 hbase
  unfold Oper.wp
  simp [execOp, hop, resolve, invoke, builtin, hs, hx, hrun, Result.andThen]
  exact hK v' w' r1 r2
end Go
namespace Go.Proofs.Ytbfndcogieiejaa
open Go.RowKit
set_option linter.unusedVariables false

attribute [local go_sem] eq7
theorem ownI_drawsV {w : World} {base : Nat} {v : Value} {zs : List Int} (h : OwnI w base v zs) (n : Nat) : OwnI (w.drewN n) base v zs := h
/-- two numbers in their block -/
def X2 (w : World) (x0 x1 : Int) (X : World) : Prop := Below w.heap.size w X ∧ X.heap[w.heap.size]? = some (.cells #[.int .i64 x0, .int .i64 x1] 31 (0, 0))
theorem X2.to {w X Y : World} {x0 x1 : Int} (h : X2 w x0 x1 X) (hb : Below X.heap.size X Y) : X2 w x0 x1 Y := ⟨h.1.trans (hb.mono h.1.size), (hb.block _ (lt_of_block h.2)).trans h.2⟩
theorem X2.c0 {w : World} {x0 x1 : Int} {X : World} (h : X2 w x0 x1 X) : X.cell? ⟨w.heap.size, 0, none⟩ = some (.int .i64 x0) := blk_cell h.2 0
theorem X2.c1 {w : World} {x0 x1 : Int} {X : World} (h : X2 w x0 x1 X) : X.cell? ⟨w.heap.size, 1, none⟩ = some (.int .i64 x1) := blk_cell h.2 1
/-- the first k numbers, told from lo -/
def farL (ns : List Int) (lo : Int) (k : Nat) : List Int := (ns.take k).map (· - lo)
theorem farL_nil (ns : List Int) (lo : Int) : farL ns lo 0 = [] := rfl
theorem farL_len (ns : List Int) (lo : Int) (k : Nat) (h : k ≤ ns.length) : (farL ns lo k).length = k := by unfold farL; simp; omega
theorem farL_step (ns : List Int) (lo : Int) (k : Nat) (h : k < ns.length) : farL ns lo (k + 1) = farL ns lo k ++ [ns[k]?.getD 0 - lo] := by
  unfold farL
  rw [take_step ns k h, List.map_append]; rfl
theorem farL_all (ns : List Int) (lo : Int) : farL ns lo ns.length = ns.map (· - lo) := by unfold farL; rw [List.take_length]
set_option maxHeartbeats 6400000 in
set_option maxRecDepth 20000 in
theorem itemValues_any (A : Option Addr) (c : Nat) (qs : List Q4) (zs : List Int) (w : World) (hq : ItemsAt w A qs) (hn : zs.length = 2) (hz : ∀ z ∈ zs, (Lit.int .i64 z).wf = true) : Calls Try.prog 4 #[.slice A qs.length c, .agg (zs.map (Value.int .i64)).toArray] w fun e w' => e = .returned (.bool true) ∧ Below w.heap.size w w' := by
  obtain ⟨x0, x1, rfl⟩ : ∃ x0 x1, zs = [x0, x1] := by
    match zs, hn with
    | [a, b], _ => exact ⟨a, b, rfl⟩
  show Calls Try.prog 4 #[.slice A qs.length c, .agg #[.int .i64 x0, .int .i64 x1]] w fun e w' => e = .returned (.bool true) ∧ Below w.heap.size w w'
  clear hn hz
  have hgd := guard7
  have HX0 := Lib.hid (show X2 w x0 x1 (w.alloc (.cells #[.int .i64 x0, .int .i64 x1] 31)) from ⟨(Below.refl _ _).alloc (Nat.le_refl _) _, blk_new w _⟩)
  have HQ := Lib.hid hq
  have KL := Lib.hid (fun W => lives12_any W)
  clear hq
  by_cases hlen : qs.length ≤ 30
  · have d5 : decide (30 < (qs.length : Int)) = false := dec_n (by omega)
    have d5n : decide (30 < qs.length) = false := dec_n (by omega)
    have hl : qs.length ≤ 1000000 := by omega
    have KV := Lib.hid (fun W h => rvalues_any x0 x1 A c qs W hl h)
    have KI := Lib.hid (fun W h => values_any x0 x1 A c qs W hl h)
    have KM := Lib.hid (fun W h => imask_any x0 x1 A c qs W hl h (by have := vals_le x0 x1 qs; omega))
    have KW := Lib.hid (fun W h => iwide_any x0 x1 A c qs W hl h)
    have HLE := Lib.hid (vals_le x0 x1 qs)
    have HBD := Lib.hid (fun k h => vals_bd x0 x1 qs k h)
    generalize valsL x0 x1 qs = ns at KV KI KM KW HLE HBD
    have KE := Lib.hid (fun A' B' c' d' W h1 h2 => ints_any true A' B' c' d' ns ns W (by have := HLE.out; omega) (by have := HLE.out; omega) h1 h2 ⟨fun _ => rfl, fun _ => rfl⟩)
    have KF := Lib.hid (fun A' c' W h => rof_any A' c' ns W (by have := HLE.out; omega) h)
    have KG := Lib.hid (fun A' c' W h => wrof_any A' c' (ns.map (· - x0)) W (by rw [List.length_map]; have := HLE.out; omega) h)
    have HST := Lib.hid (fun k h => farL_step ns x0 k h)
    have HLN := Lib.hid (fun k h => farL_len ns x0 k h)
    have HNI := Lib.hid (farL_nil ns x0)
    have HAL := Lib.hid (farL_all ns x0)
    generalize mk (inL ns) = m at KM KF
    generalize ns.map (· - x0) = ms at KW KG HAL
    unfold S7 c7 at KW KG
    generalize wv (inW ms) = g7 at KW KG
    obtain ⟨i0, hi', hz0, hz1, hz2⟩ := info_parts info_int
    have x0c := HX0.out.c0
    have x1c := HX0.out.c1
    clear hlen hl
    go_enter Try.func4, Try.ntmps4
    go_wp2_with fail
    refine (KV.out _ (HQ.out.below HX0.out.1)).mono ?_
    rintro e w2 ⟨B, d, rfl, hi2, hb2, _⟩
    have HX2 := Lib.hid (HX0.out.to hb2)
    have HI2 := Lib.hid hi2
    clear hb2 hi2 HX0 x0c x1c KV
    go_wp2
    go_loopw [6, 7] (fun v i wr => ∃ k : Nat, k ≤ ns.length ∧ i = .int .i64 k ∧ OwnI wr w2.heap.size v (farL ns x0 k) ∧ Below w2.heap.size w2 wr) (fun _ i _ => ns.length - (intOf i).toNat)
    case atStart => exact ⟨0, by omega, rfl, by rw [HNI.out]; exact OwnI.nil _ _, Below.refl _ _⟩
    case round =>
      obtain ⟨k, hk, rfl, ho, hb⟩ := hrel
      obtain ⟨Av, cv, rfl, hin, hcap⟩ := ho.ints3
      have HO := Lib.hid ho
      have HB := Lib.hid hb
      have HX := Lib.hid (HX2.out.to hb)
      have HI := Lib.hid (HI2.out.below hb)
      have HIN := Lib.hid hin
      by_cases hlt : k < ns.length
      · have d0 : decide (k < ns.length) = true := dec_t hlt
        obtain ⟨b, off, rfl, hbl, hcell⟩ := HI.out k hlt
        have x0c := HX.out.c0
        have x1c := HX.out.c1
        obtain ⟨b1, b2, b3, b4⟩ := HBD.out k hlt
        have HS := Lib.hid (HST.out k hlt)
        have hL := HLN.out k hk
        have hle := HLE.out
        generalize ns[k]?.getD 0 = z at hcell HS b3 b4
        generalize farL ns x0 k = fs at HS HO hL
        have hw1 : IntKind.i64.wrap (z - x0) = z - x0 := IntWalk.i64_in _ ⟨by omega, by omega⟩
        have hw2 : IntKind.i64.wrap ((k : Int) + 1) = (k : Int) + 1 := IntWalk.i64_in _ ⟨by omega, by omega⟩
        have ik0 : (0 : Int) ≤ (k : Int) := by omega
        have ik1 : (k : Int) < (ns.length : Int) := by omega
        have HOd := Lib.hid (fun n => ownI_drawsV HO.out n)
        have HBd := Lib.hid (fun n => HB.out.trans (below_draws wr.heap.size wr n |>.mono HB.out.size))
        have HK := Lib.hid (show k < ns.length ∧ fs.length ≤ 10000 from ⟨hlt, by omega⟩)
        clear ho hb hin hcap hlt hk b1 b2 b3 b4 hle hL HIN
        go_wp2_with fail
        go_region_law (refine step_append_ownV rfl (.tmp 24) (.tmp 32) 32 rfl w2.heap.size 3 i0 (.int .i64 0) 1 8 Try.underlying32 hi' hz0 hz1 hz2 rfl (by decide) (.slice Av fs.length cv) fs.length (fs.map (Value.int .i64)) (by simp [Act.eval]) (World.ownsRow.alloc (HOd.out _) _) ⟨_, 0, none⟩ 1 1 [.int .i64 (z - x0)] (by simp [Act.eval]; rfl) rfl (fun j u hj => by
            match j, hj with
            | 0, hj => cases hj; exact cell_new _ _ _ 0
            | j + 1, hj => cases hj) (by simp [Value.oneCell']) (by have := HK.out; unfold maxLen; omega) (by have := HK.out; omega) (by have := (HBd.out 0).size; simp at this ⊢; omega) ?_; intro v' w4 hown4 hgrow; have HO4 := Lib.hid (OwnI.snoc hown4); have HB4 := Lib.hid (Below.grown ((HBd.out _).alloc (HBd.out _).size (.cells #[.int .i64 (z - x0)] 3)) hgrow (by have := (HBd.out 0).size; simp at this ⊢; omega) (own_block (HOd.out 0))); clear hown4 hgrow)
        all_goals (go_wp2; go_roundw)
        all_goals first
          | exact ⟨k + 1, by have := HK.out; omega, by go_num, by rw [HS.out]; exact HO4.out, HB4.out⟩
          | (have := HK.out; simp [intOf]; omega)
      · obtain rfl : k = ns.length := by omega
        have d0 : decide ((ns.length : Int) < (ns.length : Int)) = false := dec_n (by omega)
        rw [HAL.out] at HIN
        have HLM := Lib.hid (show (farL ns x0 ns.length).length = ms.length from by rw [HAL.out])
        clear ho hb hin hcap hlt hk HO HST HLN HBD
        have x0c := HX.out.c0
        have x1c := HX.out.c1
        rw [HLM.out]
        go_wp2_with fail
        refine (KI.out _ (HQ.out.below HX.out.1)).mono ?_
        rintro e w3 ⟨B3, d3, rfl, hi3, hb3, _⟩
        have HX3 := Lib.hid (HX.out.to hb3)
        have HI3 := Lib.hid (HI.out.below hb3)
        have HIN3 := Lib.hid (HIN.out.below hb3)
        have K4 := KE.out _ _ d3 d w3 hi3 HI3.out
        clear x0c x1c hb3 hi3 HX HI HIN
        go_wp2_with fail
        refine K4.mono ?_
        rintro e w4 ⟨rfl, hq4⟩
        have hb4 : Below w3.heap.size w3 w4 := quiet_bel _ hq4
        have HX4 := Lib.hid (HX3.out.to hb4)
        have HI4 := Lib.hid (HI3.out.below hb4)
        have HIN4 := Lib.hid (HIN3.out.below hb4)
        clear K4 hq4 hb4 HX3 HI3 HIN3
        have x0c := HX4.out.c0
        have x1c := HX4.out.c1
        go_wp2_with fail
        refine (KM.out _ (HQ.out.below HX4.out.1)).mono ?_
        rintro e w5 ⟨rfl, hb5⟩
        have HX5 := Lib.hid (HX4.out.to hb5)
        have HI5 := Lib.hid (HI4.out.below hb5)
        have HIN5 := Lib.hid (HIN4.out.below hb5)
        clear x0c x1c hb5 HX4 HI4 HIN4
        go_wp2_with fail
        refine (KF.out _ _ _ HI5.out).mono ?_
        rintro e w6 ⟨rfl, rfl⟩
        have x0c := HX5.out.c0
        have x1c := HX5.out.c1
        go_wp2_with fail
        refine (KW.out _ (HQ.out.below HX5.out.1)).mono ?_
        rintro e w7 ⟨rfl, hb7⟩
        have HX7 := Lib.hid (HX5.out.to hb7)
        have HIN7 := Lib.hid (HIN5.out.below hb7)
        clear x0c x1c hb7 HX5 HI5 HIN5
        go_wp2_with fail
        refine (KG.out _ _ _ HIN7.out).mono ?_
        rintro e w8 ⟨rfl, hb8⟩
        have HX8 := Lib.hid (HX7.out.to hb8)
        clear hb8 HX7
        go_wp2_with fail
        refine (KL.out _).mono ?_
        rintro e w9 ⟨rfl, hb9⟩
        have HX9 := Lib.hid (HX8.out.to hb9).1
        clear hb9 HX8
        go_wp2
        go_ret
        exact ⟨rfl, HX9.out⟩
  · have d5 : decide (30 < (qs.length : Int)) = true := dec_t (by omega)
    have d5n : decide (30 < qs.length) = true := dec_t (by omega)
    clear hlen
    go_enter Try.func4, Try.ntmps4
    go_wp2_with fail
    refine (KL.out _).mono ?_
    rintro e v1 ⟨rfl, hb1⟩
    have HB1 := Lib.hid (HX0.out.to hb1).1
    clear hb1
    go_wp2
    go_ret
    exact ⟨rfl, HB1.out⟩
end Go.Proofs.Ytbfndcogieiejaa
