/- The walk of TodAll (layer 7). -/
import Derived.Test.YtjpdfbljhbgbcaaDoorTaC
import Derived.Test.YtjpdfbljhbgbcaaDoorOpen
namespace Go.Proofs.YtjpdfbljhbgbcaaDoor
open Go.RowKit
set_option linter.unusedVariables false

theorem eq_nil7 (F : Fn) (x y : Array Value) (w : World) : Sem.run Tryd.prog (Op.equal 29 (.func F x y) .nilFunc) w = .ok false w := by
  unfold Op.equal Op.maxDepth
  unfold Op.equalIn
  rw [Sem.run_bind, run_underlying Tryd.underlying29]
  rfl
theorem nil_func7 (F : Fn) (x y : Array Value) (w : World) : Sem.run Tryd.prog (binOp BinOp.eql 29 (.func F x y) .nilFunc) w = .ok (.bool false) w := by
  have h : binOp BinOp.eql 29 (.func F x y) .nilFunc = (do pure (.bool (← Op.equal 29 (.func F x y) .nilFunc))) := by simp only [binOp]
  rw [h, Sem.run_bind, eq_nil7, Result.andThen_ok, Sem.run_pure]
theorem pre_pos {a b : List Int} (h : a <+: b) : a.length ≤ b.length := by
  obtain ⟨t, rfl⟩ := h
  rw [List.length_append]; omega
theorem fin7 {w W : World} {F N : Nat} {l : List Int} {mo : Nat} (h : FinT w F N l mo l W) (hl : l.length ≤ 86400) : ∃ k : Nat, W.heap[F]? = some (.cells #[.bool true] 4 (0, 0)) ∧ W.heap[N]? = some (.cells #[.int .i64 (k : Nat)] 3 (0, 0)) ∧ But (fun k => k = F ∨ k = N) w W ∧ ((mo = 0 ∧ k = l.length) ∨ (0 < mo ∧ ¬ mo < l.length ∧ k = l.length) ∨ (0 < mo ∧ mo < l.length ∧ k = mo)) := by
  obtain ⟨told, ⟨h1, h2⟩, hb, h⟩ := h
  have hp : told <+: l := by
    rcases h with ⟨rfl, _⟩ | ⟨h, _⟩
    · exact List.prefix_refl _
    · exact h
  have hlen := pre_pos hp
  rw [decide_eq_true hp] at h1
  refine ⟨told.length, h1, h2, hb, ?_⟩
  rcases h with ⟨rfl, h⟩ | ⟨_, h⟩
  · omega
  · omega
attribute [local irreducible] numsP hours FinT
set_option maxHeartbeats 800000 in
set_option maxRecDepth 20000 in
theorem todAll_in (H M S mo : Nat) (hH : H < 18446744073709551616) (hM : M < 18446744073709551616) (hS : S < 18446744073709551616) (w : World) (hmo : mo ≤ 65535) (hT : Tab w) :
    Calls Tryd.prog 3 #[.agg #[.int .u64 H, .int .u64 M, .int .u64 S], .int .u16 mo] w fun e w' => e = .returned (.bool true) ∧ Below w.heap.size w w' := by
  have hTl := hT.lt
  have HM0 := Lib.hid (show ((w.alloc (.cells #[.int .u64 H, .int .u64 M, .int .u64 S] 24)).alloc (.cells #[.int .u16 (mo : Nat)] 25)).heap[w.heap.size]? = some (.cells #[.int .u64 H, .int .u64 M, .int .u64 S] 24 (0, 0)) from blk_more (blk_new w _) _)
  have HQ0 := Lib.hid (show ((w.alloc (.cells #[.int .u64 H, .int .u64 M, .int .u64 S] 24)).alloc (.cells #[.int .u16 (mo : Nat)] 25)).heap[w.heap.size + 1]? = some (.cells #[.int .u16 (mo : Nat)] 25 (0, 0)) by
    have q := blk_new (w.alloc (.cells #[.int .u64 H, .int .u64 M, .int .u64 S] 24)) (.cells #[.int .u16 (mo : Nat)] 25)
    rwa [World.size_alloc] at q)
  have HB0 := Lib.hid (show Below w.heap.size w ((w.alloc (.cells #[.int .u64 H, .int .u64 M, .int .u64 S] 24)).alloc (.cells #[.int .u16 (mo : Nat)] 25)) from ((Below.refl _ _).alloc (Nat.le_refl _) _).alloc (by simp) _)
  have HT0 := Lib.hid (hT.below HB0.out)
  have HS0 := Lib.hid (show ((w.alloc (.cells #[.int .u64 H, .int .u64 M, .int .u64 S] 24)).alloc (.cells #[.int .u16 (mo : Nat)] 25)).heap.size = w.heap.size + 2 by simp)
  obtain ⟨W0, hW0⟩ : ∃ W0, (w.alloc (.cells #[.int .u64 H, .int .u64 M, .int .u64 S] 24)).alloc (.cells #[.int .u16 (mo : Nat)] 25) = W0 := ⟨_, rfl⟩
  rw [hW0] at HM0 HQ0 HB0 HT0 HS0
  have x0 := blk_cell HM0.out 0
  have x1 := blk_cell HM0.out 1
  have x2 := blk_cell HM0.out 2
  simp at x0 x1 x2
  have K1 := rall_any H M S hH hM hS W0
  have HK2 := Lib.hid (fun W => tall_any H M S hH hM hS W)
  have hle := numsP_le (pM H M S) 86400
  have HEQ := Lib.hid (show hours (numsP (hd H).testBit 64) (numsP (hm M).testBit 64) (numsP (hm S).testBit 64) = numsP (pM H M S) 86400 from hours_eq _ _ _ (fun i h => hd_far h) (fun i h => hm_far h) (fun i h => hm_far h))
  generalize numsP (pM H M S) 86400 = xs at K1 hle HEQ
  have HLE := Lib.hid (show xs.length ≤ 86400 from hle)
  clear hT hH hM hS hle
  go_enter Tryd.func3, Tryd.ntmps3
  go_wp2_with fail
  try rw [hW0]
  clear hW0 x0 x1 x2
  refine K1.mono ?_
  rintro e w1 ⟨A1, c1, rfl, hi1, hb1⟩
  clear K1
  have hs1 := hb1.size
  rw [HS0.out] at hs1
  have HI2 := Lib.hid (Ints.below hi1 ((Below.refl w1.heap.size w1).alloc (Nat.le_refl _) (.cells #[.slice A1 xs.length c1] 26)))
  have HM2 := Lib.hid (blk_more ((hb1.block _ (lt_of_block HM0.out)).trans HM0.out) (.cells #[.slice A1 xs.length c1] 26))
  have HQ2 := Lib.hid (blk_more ((hb1.block _ (lt_of_block HQ0.out)).trans HQ0.out) (.cells #[.slice A1 xs.length c1] 26))
  have HL2 := Lib.hid (blk_new w1 (.cells #[.slice A1 xs.length c1] 26))
  have HB2 := Lib.hid ((HB0.out.trans (hb1.mono HB0.out.size)).alloc (by omega) (.cells #[.slice A1 xs.length c1] 26))
  have HT2 := Lib.hid ((HT0.out.below hb1).below ((Below.refl w1.heap.size w1).alloc (Nat.le_refl _) (.cells #[.slice A1 xs.length c1] 26)))
  have HS2 := Lib.hid (show (w1.alloc (.cells #[.slice A1 xs.length c1] 26)).heap.size = w1.heap.size + 1 by simp)
  obtain ⟨W2, hW2⟩ : ∃ W2, w1.alloc (.cells #[.slice A1 xs.length c1] 26) = W2 := ⟨_, rfl⟩
  rw [hW2] at HI2 HM2 HQ2 HL2 HB2 HT2 HS2
  have x0 := blk_cell HM2.out 0
  have x1 := blk_cell HM2.out 1
  have x2 := blk_cell HM2.out 2
  simp at x0 x1 x2
  clear hi1 hb1
  go_wp2_with fail
  try rw [hW2]
  clear hW2 x0 x1 x2
  obtain ⟨X, hX⟩ : ∃ X, W2.heap.size = X := ⟨_, rfl⟩
  have hx1 : w1.heap.size < X := by have := HS2.out; omega
  have hx2 : w.heap.size + 2 ≤ X := by omega
  have K2 := HK2.out W2
  rw [hX] at K2
  have HX := Lib.hid hX
  clear hX
  refine K2.mono ?_
  clear K2
  rintro e w3 ⟨rfl, y1, y2, y3, hb3⟩
  have hn3 := nil_func7 (.func 35) #[] #[.pointer (some ⟨X, 0, none⟩), .pointer (some ⟨X + 1, 0, none⟩), .pointer (some ⟨X + 2, 0, none⟩)] w3
  have hs3 := lt_of_block y3
  have HB34 := Lib.hid (show Below w3.heap.size w3 ((w3.alloc (.cells #[.int .i64 0] 3)).alloc (.cells #[.bool true] 4)) from ((Below.refl _ _).alloc (Nat.le_refl _) _).alloc (by simp) _)
  have HN4 := Lib.hid (show ((w3.alloc (.cells #[.int .i64 0] 3)).alloc (.cells #[.bool true] 4)).heap[w3.heap.size]? = some (.cells #[.int .i64 0] 3 (0, 0)) from blk_more (blk_new w3 _) _)
  have HF4 := Lib.hid (show ((w3.alloc (.cells #[.int .i64 0] 3)).alloc (.cells #[.bool true] 4)).heap[w3.heap.size + 1]? = some (.cells #[.bool true] 4 (0, 0)) by
    have q := blk_new (w3.alloc (.cells #[.int .i64 0] 3)) (.cells #[.bool true] 4)
    rwa [World.size_alloc] at q)
  have HS4 := Lib.hid (show ((w3.alloc (.cells #[.int .i64 0] 3)).alloc (.cells #[.bool true] 4)).heap.size = w3.heap.size + 2 by simp)
  obtain ⟨W4, hW4⟩ : ∃ W4, (w3.alloc (.cells #[.int .i64 0] 3)).alloc (.cells #[.bool true] 4) = W4 := ⟨_, rfl⟩
  rw [hW4] at HB34 HN4 HF4 HS4
  have HB4 := Lib.hid (hb3.trans (HB34.out.mono (by omega)))
  have Y1 := Lib.hid ((HB34.out.block _ (lt_of_block y1)).trans y1)
  have Y2 := Lib.hid ((HB34.out.block _ (lt_of_block y2)).trans y2)
  have Y3 := Lib.hid ((HB34.out.block _ (lt_of_block y3)).trans y3)
  have HI4 := Lib.hid (Ints.below HI2.out (by rw [HX.out]; exact HB4.out))
  have lq := lt_of_block HQ2.out
  have ll := lt_of_block HL2.out
  rw [HX.out] at lq ll
  have HQ4 := Lib.hid ((HB4.out.block _ lq).trans HQ2.out)
  have HL4 := Lib.hid ((HB4.out.block _ ll).trans HL2.out)
  have HT4 := Lib.hid (HT2.out.below (by rw [HX.out]; exact HB4.out))
  have HKI := Lib.hid (callsIn_wide.1 (titer_in 12 (by omega) X (X + 1) (X + 2) (hd H) (hm M) (hm S) (w3.heap.size + 1) w3.heap.size w1.heap.size (w.heap.size + 1) W4 A1 c1 xs mo Y1.out Y2.out Y3.out (hd_lt H) (hm_lt M) (hm_lt S)
    ⟨by rw [HF4.out, decide_eq_true (List.nil_prefix)], HN4.out⟩ (by rw [blk_cell HL4.out]; rfl) (by rw [blk_cell HQ4.out]; rfl) HI4.out HLE.out hmo (by omega) (by omega) (by omega) (by omega) (by omega) (by omega)
    (fun b o hp he => by
      obtain ⟨b', o', e1, e2, _⟩ := HI2.out 0 hp
      rw [he] at e1
      cases e1
      rw [HX.out] at e2
      omega) HT4.out (by omega)))
  rw [HEQ.out] at HKI
  clear y1 y2 y3 hb3
  go_wp2_with fail
  try rw [hW4]
  clear hW4
  refine HKI.out.mono ?_
  rintro e w5 ⟨⟨u, rfl⟩, hfin⟩
  obtain ⟨k, z1, z2, hbut, hfc⟩ := fin7 hfin HLE.out
  have hxl := HLE.out
  have HB5 := Lib.hid (HB4.out.trans (show Below X W4 w5 from ⟨hbut.os, hbut.tape, hbut.output, hbut.size, fun k hk => hbut.block k (by have := HS4.out; omega) (by omega)⟩))
  have cq := blk_cell ((HB5.out.block _ lq).trans HQ2.out) 0
  have cl := blk_cell ((HB5.out.block _ ll).trans HL2.out) 0
  have cf := blk_cell z1 0
  have cn := blk_cell z2 0
  simp at cq cl cf cn
  have HT5 := Lib.hid (HT2.out.below (by rw [HX.out]; exact HB5.out))
  have HBZ := Lib.hid (HB2.out.trans (HB5.out.mono (by omega)))
  have w9 : IntKind.i64.wrap (mo : Int) = (mo : Int) := IntWalk.i64_in _ ⟨by omega, by omega⟩
  have HLV := Lib.hid (lives07_any w5 HT5.out)
  clear hfin z1 z2 hbut HI2 HI4 HQ2 HQ4 HL2 HL4 HM2 HT4 HKI HEQ HN4 HF4 HB34 Y1 Y2 Y3 HK2 HM0 HQ0 HB0 HT0 HLE hn3 HB4 HB2 HT2
  generalize xs.length = ln at *
  rcases hfc with ⟨h0, rfl⟩ | ⟨h0, h1, rfl⟩ | ⟨h0, h1, rfl⟩
  · have e1 : decide ((0 : Int) < (mo : Int)) = false := dec_n (by omega)
    have e2 : decide (0 < mo) = false := dec_n (by omega)
    go_wp2_with fail
    refine HLV.out.mono ?_
    rintro e w7 ⟨rfl, rfl⟩
    go_wp2
    go_ret
    exact ⟨rfl, HBZ.out⟩
  · have e1 : decide ((0 : Int) < (mo : Int)) = true := dec_t (by omega)
    have e2 : decide (0 < mo) = true := dec_t (by omega)
    have e3 : decide ((mo : Int) < (k : Int)) = false := dec_n (by omega)
    have e4 : decide (mo < k) = false := dec_n (by omega)
    go_wp2_with fail
    refine HLV.out.mono ?_
    rintro e w7 ⟨rfl, rfl⟩
    go_wp2
    go_ret
    exact ⟨rfl, HBZ.out⟩
  · have e1 : decide ((0 : Int) < (k : Int)) = true := dec_t (by omega)
    have e2 : decide (0 < k) = true := dec_t (by omega)
    have e3 : decide ((k : Int) < (ln : Int)) = true := dec_t (by omega)
    have e4 : decide (k < ln) = true := dec_t (by omega)
    go_wp2_with fail
    refine HLV.out.mono ?_
    rintro e w7 ⟨rfl, rfl⟩
    go_wp2
    go_ret
    exact ⟨rfl, HBZ.out⟩
theorem todAll_walk (ms : List Int) (mo : Int) (w : World) (hm : ms.length = 3) (hw : ∀ z ∈ ms, (Lit.int .u64 z).wf = true) (wm : (Lit.int .u16 mo).wf = true) (hT : Tab w) :
    Calls Tryd.prog 3 #[.agg (ms.map (Value.int .u64)).toArray, .int .u16 mo] w fun e w' => e = .returned (.bool true) ∧ Below w.heap.size w w' := by
  obtain ⟨n, rfl, hn⟩ := wf_u16 wm
  match ms, hm, hw with
  | [H', M', S'], _, hw =>
    obtain ⟨H, rfl, hH⟩ := wf_u64 (hw H' (by simp))
    obtain ⟨M, rfl, hM⟩ := wf_u64 (hw M' (by simp))
    obtain ⟨S, rfl, hS⟩ := wf_u64 (hw S' (by simp))
    exact todAll_in H M S n (by omega) (by omega) (by omega) w hn hT
end Go.Proofs.YtjpdfbljhbgbcaaDoor
