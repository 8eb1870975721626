/- The walk of MaskAll (layer 2). -/
import Derived.Test.YtjlieamjlelipaaDoorMaskH
import Derived.Test.YtjlieamjlelipaaDoorIntsEq
import Derived.Test.YtjlieamjlelipaaDoorWalk02
import Derived.Test.YtjlieamjlelipaaDoorOpen
namespace Go.Proofs.YtjlieamjlelipaaDoor
open Go.RowKit
set_option linter.unusedVariables false

theorem eq_nil (F : Fn) (x y : Array Value) (w : World) : Sem.run Tryd.prog (Op.equal 40 (.func F x y) .nilFunc) w = .ok false w := by
  unfold Op.equal Op.maxDepth
  unfold Op.equalIn
  rw [Sem.run_bind, run_underlying Tryd.underlying40]
  rfl
theorem nil_func (F : Fn) (x y : Array Value) (w : World) : Sem.run Tryd.prog (binOp BinOp.eql 40 (.func F x y) .nilFunc) w = .ok (.bool false) w := by
  have h : binOp BinOp.eql 40 (.func F x y) .nilFunc = (do pure (.bool (← Op.equal 40 (.func F x y) .nilFunc))) := by simp only [binOp]
  rw [h, Sem.run_bind, eq_nil, Result.andThen_ok, Sem.run_pure]
theorem quiet_bel {w w' : World} (B : Nat) (h : Quiet w w') : Below B w w' := by obtain ⟨n, rfl⟩ := h; exact below_draws B w n
def allM (zs : List Int) (n : Nat) : Bool := decide (0 < zs.length) && preM zs zs.length n
theorem both_all (zs : List Int) : bothM zs zs.length = mk (allM zs) := rfl
def MWant (zs : List Int) (mo : Nat) (W : World) (v i : Value) (wr : World) : Prop := ∃ n : Nat, n ≤ 64 ∧ i = .int .i64 n ∧ OwnI wr W.heap.size v (capN (allM zs) mo n) ∧ Below W.heap.size W wr
set_option maxHeartbeats 3200000 in
set_option maxRecDepth 20000 in
theorem mall_in (A : Option Addr) (c : Nat) (zs : List Int) (mo : Nat) (w : World) (hl : zs.length ≤ 20) (hmo : mo ≤ 255) (hc : Ints .u64 w A zs) (hu : ∀ k, k < zs.length → ∃ m : Nat, zs[k]?.getD 0 = (m : Int) ∧ m < 18446744073709551616) (hT : Tab w) :
    Calls Tryd.prog 5 #[.slice A zs.length c, .int .u8 mo] w fun e w' => e = .returned (.bool true) ∧ Below w.heap.size w w' := by
  obtain ⟨i0, hi, hz0, hz1, hz2⟩ := info_parts info_int
  have hTl := hT.lt
  have d : decide ((20 : Int) < (zs.length : Int)) = false := dec_n (by omega)
  have d' : decide (20 < zs.length) = false := dec_n (by omega)
  obtain ⟨W1, hW1⟩ : ∃ W1, (w.alloc (.cells #[.int .u8 mo] 5)).alloc (.cells #[.slice none 0 0] 22) = W1 := ⟨_, rfl⟩
  have HB1 := Lib.hid (show Below w.heap.size w W1 by rw [← hW1]; exact ((Below.refl _ _).alloc (Nat.le_refl _) _).alloc (by simp) _)
  have HS1 := Lib.hid (show W1.heap.size = w.heap.size + 2 by rw [← hW1]; simp)
  have HQ1 := Lib.hid (show W1.heap[w.heap.size]? = some (.cells #[.int .u8 mo] 5 (0, 0)) by rw [← hW1]; exact blk_more (blk_new w _) _)
  have HG1 := Lib.hid (show W1.heap[w.heap.size + 1]? = some (.cells #[.slice none 0 0] 22 (0, 0)) by
    rw [← hW1]
    have := blk_new (w.alloc (.cells #[.int .u8 mo] 5)) (.cells #[.slice none 0 0] 22)
    rwa [show (w.alloc (.cells #[.int .u8 mo] 5)).heap.size = w.heap.size + 1 by simp] at this)
  have HC := Lib.hid (hc.below HB1.out)
  have HT := Lib.hid (hT.below HB1.out)
  have HU := Lib.hid hu
  have w5 : IntKind.i64.wrap (mo : Int) = (mo : Int) := IntWalk.i64_in _ ⟨by omega, by omega⟩
  clear hc hT hu
  go_enter Tryd.func5, Tryd.ntmps5
  go_wp2_with fail
  try rw [hW1]
  clear hW1 d d'
  go_loopw [5, 7] (fun v i wr => MWant zs mo W1 v i wr) (fun _ i _ => 64 - (intOf i).toNat)
  case atStart => exact ⟨0, by omega, rfl, by show OwnI _ _ _ (capN _ mo 0); rw [show capN (allM zs) mo 0 = [] from List.length_eq_zero_iff.1 (by have := capN_le (allM zs) mo 0; omega)]; exact OwnI.nil _ _, Below.refl _ _⟩
  case round =>
    obtain ⟨n, hn, rfl, hown, hb⟩ := hrel
    have HO := Lib.hid hown
    have HB := Lib.hid hb
    by_cases hlt : n < 64
    · have HM := Lib.hid (show allM zs n = (decide (0 < zs.length) && preM zs zs.length n) from rfl)
      have cq : wr.cell? ⟨w.heap.size, 0, none⟩ = some (.int .u8 mo) := by rw [blk_cell ((hb.block _ (by have := HS1.out; omega)).trans HQ1.out)]; rfl
      have HCQ := Lib.hid cq
      have HCN := Lib.hid (capN_le (allM zs) mo n)
      have HNO := Lib.hid (capN_no (allM zs) mo n)
      have HFU := Lib.hid (capN_full (allM zs) mo n)
      have HMO := Lib.hid (capN_more (allM zs) mo n)
      clear hown hb cq
      have dn : decide ((n : Int) < 64) = true := dec_t (by omega)
      have hd0 : decide ((0 : Int) < (zs.length : Int)) = decide (0 < zs.length) := by
        by_cases h : 0 < zs.length
        · rw [dec_t h, dec_t (by omega)]
        · rw [dec_n h, dec_n (by omega)]
      go_wp2
      clear hd0
      go_loop [8, 9] (fun b i => ∃ k : Nat, k ≤ zs.length ∧ i = .int .i64 k ∧ b = .bool (decide (0 < zs.length) && preM zs k n)) (fun _ i => zs.length - (intOf i).toNat)
      case atStart => exact ⟨0, Nat.zero_le _, rfl, by simp [preM]⟩
      case round =>
        obtain ⟨k, hk, rfl, hbv⟩ := hrel
        by_cases hlt2 : k < zs.length
        · obtain ⟨b', off, rfl, hbl, cell⟩ := (HC.out.below HB.out) k hlt2
          obtain ⟨m, hm, hm2⟩ := HU.out k hlt2
          rw [hm] at cell
          have HP := Lib.hid (preM_succ zs k n)
          have K := rhas_any m n wr hm2
          rw [inM_in m n hlt] at K
          have HPM := Lib.hid (show preM zs (k + 1) n = (preM zs k n && m.testBit n) by rw [HP.out, hm]; rfl)
          have HZ0 := Lib.hid (dec_t (show 0 < zs.length by omega))
          rw [HZ0.out] at hbv
          cases hp : preM zs k n
          · rw [hp] at HPM hbv
            subst hbv
            clear hp hm hm2 K cell
            go_wp2
            go_round
            case rel => exact ⟨k + 1, by omega, by go_num, by rw [HPM.out]; first | (intro _; rfl) | simp⟩
            case measure => simp [intOf]; omega
          · rw [hp] at HPM hbv
            subst hbv
            generalize m.testBit n = tb at K HPM
            clear hp hm hm2
            go_wp2_with fail
            refine K.mono ?_
            rintro e w2 ⟨rfl, rfl⟩
            go_wp2
            go_round
            case rel => exact ⟨k + 1, by omega, by go_num, by rw [HPM.out, HZ0.out]; cases tb <;> rfl⟩
            case measure => simp [intOf]; omega
        · obtain rfl : k = zs.length := by omega
          clear hlt2
          rw [← HM.out] at hbv
          subst hbv
          obtain ⟨A1, c1, hv, hin⟩ := HO.out.ints
          subst hv
          have cq := HCQ.out
          clear hin
          cases hall : allM zs n
          · have HS := Lib.hid (HNO.out hall)
            clear hall
            go_wp2
            go_roundw
            case rel => exact ⟨n + 1, by omega, by go_num, by rw [HS.out]; exact HO.out, HB.out⟩
            case measure => simp [intOf]; omega
          · by_cases hmz : mo ≠ 0 ∧ mo ≤ (capN (allM zs) mo n).length
            · have HS := Lib.hid (HFU.out hmz.1 hmz.2)
              have z1 : ((mo : Int) == 0) = false := by rw [beq_eq_false_iff_ne]; omega
              have z2 : decide ((((capN (allM zs) mo n).length : Nat) : Int) < (mo : Int)) = false := dec_n (by omega)
              have z3 : decide ((capN (allM zs) mo n).length < mo) = false := dec_n (by omega)
              clear hall hmz
              go_wp2
              go_roundw
              case rel => exact ⟨n + 1, by omega, by go_num, by rw [HS.out]; exact HO.out, HB.out⟩
              case measure => simp [intOf]; omega
            · have HS := Lib.hid (HMO.out hall (by omega))
              have hcl := HCN.out
              have hz : (((mo : Int) == 0) = true) ∨ (((mo : Int) == 0) = false ∧ decide ((((capN (allM zs) mo n).length : Nat) : Int) < (mo : Int)) = true ∧ decide ((capN (allM zs) mo n).length < mo) = true) := by
                by_cases h : mo = 0
                · exact .inl (by rw [beq_iff_eq]; omega)
                · exact .inr ⟨by rw [beq_eq_false_iff_ne]; omega, dec_t (by omega), dec_t (by omega)⟩
              clear hall hmz
              generalize hcc : capN (allM zs) mo n = cs at HO HS hcl hz ⊢
              have HCC := Lib.hid hcc
              clear hcc
              rcases hz with z1 | ⟨z1, z2, z3⟩
              · go_wp2_with ((at_builtin; refine wpList_append_own _ rfl _ _ 22 rfl W1.heap.size 3 i0 (.int .i64 0) 1 8 Tryd.underlying22 hi hz0 hz1 hz2 rfl (by decide) _ _ _ rfl (World.ownsRow.alloc HO.out _) ⟨wr.heap.size, 0, none⟩ 1 1 [.int .i64 (n : Int)] rfl rfl ?n1 ?n2 ?n3 ?n4 ?n5 ?_))
                case n2 => simp [Value.oneCell']
                case n3 => unfold maxLen; omega
                case n4 => omega
                case n5 => have := HB.out.size; simp; omega
                intro v' w4 hown4 hgrow _
                have HO4 := Lib.hid (OwnI.snoc hown4)
                have HB4 := Lib.hid (Below.grown (HB.out.alloc HB.out.size (.cells #[.int .i64 (n : Int)] 3)) hgrow (by have := HB.out.size; simp; omega) (own_block HO.out))
                clear hown4 hgrow
                go_wp2
                go_roundw
                case rel => exact ⟨n + 1, by omega, by go_num, by rw [HS.out]; exact HO4.out, HB4.out⟩
                case measure => simp [intOf]; omega
              · go_wp2_with ((at_builtin; refine wpList_append_own _ rfl _ _ 22 rfl W1.heap.size 3 i0 (.int .i64 0) 1 8 Tryd.underlying22 hi hz0 hz1 hz2 rfl (by decide) _ _ _ rfl (World.ownsRow.alloc HO.out _) ⟨wr.heap.size, 0, none⟩ 1 1 [.int .i64 (n : Int)] rfl rfl ?n1 ?n2 ?n3 ?n4 ?n5 ?_))
                case n2 => simp [Value.oneCell']
                case n3 => unfold maxLen; omega
                case n4 => omega
                case n5 => have := HB.out.size; simp; omega
                intro v' w4 hown4 hgrow _
                have HO4 := Lib.hid (OwnI.snoc hown4)
                have HB4 := Lib.hid (Below.grown (HB.out.alloc HB.out.size (.cells #[.int .i64 (n : Int)] 3)) hgrow (by have := HB.out.size; simp; omega) (own_block HO.out))
                clear hown4 hgrow
                go_wp2
                go_roundw
                case rel => exact ⟨n + 1, by omega, by go_num, by rw [HS.out]; exact HO4.out, HB4.out⟩
                case measure => simp [intOf]; omega
    · obtain rfl : n = 64 := by omega
      have hTl1 := HT.out.lt
      have HW := Lib.hid (HO.out)
      have K1 := all_any A c zs wr (by omega) (HC.out.below HB.out) HU.out
      have hs1 := HS1.out
      have hs2 := HB.out.size
      have hgr : wr.heap[w.heap.size + 1]? = some (.cells #[.slice none 0 0] 22 (0, 0)) := (HB.out.block _ (by have := HS1.out; omega)).trans HG1.out
      have hqr : wr.heap[w.heap.size]? = some (.cells #[.int .u8 mo] 5 (0, 0)) := (HB.out.block _ (by have := HS1.out; omega)).trans HQ1.out
      have HGR := Lib.hid hgr
      have HQR := Lib.hid hqr
      have HS2 := Lib.hid hs2
      clear hown hb hgr hqr hs1 hs2
      go_wp2_with fail
      refine K1.mono ?_
      rintro e w2 ⟨rfl, hbx, hb2⟩
      clear K1
      rw [both_all] at hbx
      have hs1 := HS1.out
      have hs2 := HS2.out
      have hs3 : wr.heap.size < w2.heap.size := lt_of_block hbx
      have HG2 := Lib.hid ((hb2.block _ (by omega)).trans HGR.out)
      have HQ2 := Lib.hid ((hb2.block _ (by omega)).trans HQR.out)
      have HB2 := Lib.hid (HB.out.trans (hb2.mono hs2))
      have HT2 := Lib.hid (HT.out.below HB2.out)
      have HW2 := Lib.hid (HW.out.below hb2)
      have K2 := all1_any (allM zs) (w.heap.size + 1) w.heap.size wr.heap.size w2.heap.size mo (.slice none 0 0) w2 HG2.out (OwnI.nil _ _) (by rw [blk_cell HQ2.out]; rfl) hmo (by rw [blk_cell hbx]; rfl) HT2.out (by omega) (by omega) (by omega) (by omega) (Nat.le_refl _)
      have hnil := nil_func (.func 59) #[] #[.pointer (some ⟨wr.heap.size, 0, none⟩)] w2
      have HS3 := Lib.hid hs3
      clear hbx hb2 hs1 hs2 hs3
      go_wp2_with fail
      refine K2.mono ?_
      rintro e w3 ⟨rfl, ⟨v3, hg3, ho3⟩, hbut⟩
      have hs1 := HS1.out
      have hs2 := HS2.out
      have hs3 := HS3.out
      have HB3 := Lib.hid (Below.but (HB1.out.trans (HB2.out.mono (by omega))) hbut (fun i hi hx => by rcases hx with h | h <;> omega))
      have HT3 := Lib.hid (HT2.out.but hbut (by intro h; rcases h with h | h <;> omega))
      have HW3 := Lib.hid (HW2.out.keep (w' := w3) fun k h1 h2 => hbut.block k h2 (by intro h; rcases h with h | h <;> omega))
      obtain ⟨A3, c3, hv3, hi3⟩ := ho3.ints
      subst hv3
      have cg : w3.cell? ⟨w.heap.size + 1, 0, none⟩ = some (.slice A3 (capN (allM zs) mo 64).length c3) := by rw [blk_cell hg3]; rfl
      obtain ⟨A4, c4, hv4, hi4⟩ := HW3.out.ints
      subst hv4
      have hcl := capN_le (allM zs) mo 64
      have K3 := ints_any true A3 A4 c3 c4 (capN (allM zs) mo 64) (capN (allM zs) mo 64) w3 (by omega) (by omega) hi3 hi4 ⟨fun _ => rfl, fun _ => rfl⟩
      clear hg3 ho3 hbut hi3 hi4 hcl K2 hs1 hs2 hs3 hnil
      generalize capN (allM zs) mo 64 = cs at K3 cg HW HW2 HW3 HO
      go_wp2_with fail
      refine K3.mono ?_
      rintro e w4 ⟨rfl, hq4⟩
      have HB4 := Lib.hid (HB3.out.trans (quiet_bel _ hq4))
      have K4 := lives02_any w4 (HT3.out.quiet hq4)
      clear hq4 K3
      go_wp2_with fail
      refine K4.mono ?_
      rintro e w5 ⟨rfl, hb5⟩
      go_wp2
      go_ret
      exact ⟨rfl, HB4.out.trans (hb5.mono HB4.out.size)⟩
theorem wf_u8 {a : Int} (h : (Lit.int .u8 a).wf = true) : ∃ n : Nat, a = n ∧ n ≤ 255 := by
  simp only [Lit.wf, Bool.and_eq_true, decide_eq_true_eq] at h
  have h1 : 0 ≤ a := h.1
  have h2 : a ≤ 255 := h.2
  exact ⟨a.toNat, by omega, by omega⟩
set_option maxHeartbeats 800000 in
theorem mall_long (A : Option Addr) (c n mo : Nat) (w : World) (hl : 20 < n) (hT : Tab w) :
    Calls Tryd.prog 5 #[.slice A n c, .int .u8 mo] w fun e w' => e = .returned (.bool true) ∧ Below w.heap.size w w' := by
  have d : decide ((20 : Int) < (n : Int)) = true := dec_t (by omega)
  have d' : decide (20 < n) = true := dec_t (by omega)
  have hb0 : Below w.heap.size w (w.alloc (.cells #[.int .u8 mo] 5)) := (Below.refl _ _).alloc (Nat.le_refl _) _
  have k := lives02_any _ (hT.below hb0)
  have HB := Lib.hid hb0
  clear hl hb0 hT
  go_enter Tryd.func5, Tryd.ntmps5
  go_wp2_with fail
  refine k.mono ?_
  rintro e w2 ⟨rfl, hb⟩
  go_wp2
  go_ret
  exact ⟨rfl, HB.out.trans (hb.mono HB.out.size)⟩
theorem maskAll_walk (A : Option Addr) (n c : Nat) (zs : List Int) (mo : Int) (w : World) (hn : n = zs.length) (hl : zs.length ≤ 9223372036854775807) (hz : ∀ z ∈ zs, (Lit.int .u64 z).wf = true) (hi : Ints .u64 w A zs) (wm : (Lit.int .u8 mo).wf = true) (hT : Tab w) :
    Calls Tryd.prog 5 #[.slice A n c, .int .u8 mo] w fun e w' => e = .returned (.bool true) ∧ Below w.heap.size w w' := by
  subst hn
  obtain ⟨M, rfl, hM⟩ := wf_u8 wm
  by_cases h : 20 < zs.length
  · exact mall_long A c _ M w h hT
  · exact mall_in A c zs M w (by omega) hM hi (fun k hk => by
      obtain ⟨m, hm, hm2⟩ := wf_u64 (getD_mem hz hk)
      exact ⟨m, hm, by omega⟩) hT
end Go.Proofs.YtjlieamjlelipaaDoor
