/- rule.Check, walked (layer 32). -/
import Derived.Test.YtigbbepgfofcoaaDoorRlJ
import Derived.Test.YtigbbepgfofcoaaDoorRow
import Derived.Deep.WholeRow
namespace Go.Proofs.YtigbbepgfofcoaaDoor
open Go.RowKit
set_option linter.unusedVariables false

/-- the functions that are asked -/
def fltF : List Nat := [22, 24, 26, 27, 28, 29, 30, 31, 33, 34, 36, 38, 39, 42, 45, 47, 48, 49, 50, 51, 52]
def fltN (k : Nat) : Nat := fltF[k]?.getD 0
def fltE (r : Rl) (k : Nat) : Int × Bool := (fltL r)[k]?.getD (0, false)
/-- the cells of what is asked -/
def fltC (g : Nat) : Array Value := #[.int .i64 4, .func (.func 22) #[] #[.pointer (some ⟨g, 0, none⟩)], .int .i64 4, .func (.func 24) #[] #[.pointer (some ⟨g, 0, none⟩)], .int .i64 4, .func (.func 26) #[] #[.pointer (some ⟨g, 0, none⟩)], .int .i64 4, .func (.func 27) #[] #[.pointer (some ⟨g, 0, none⟩)], .int .i64 4, .func (.func 28) #[] #[.pointer (some ⟨g, 0, none⟩)], .int .i64 12, .func (.func 29) #[] #[.pointer (some ⟨g, 0, none⟩)], .int .i64 5, .func (.func 30) #[] #[.pointer (some ⟨g, 0, none⟩)], .int .i64 4, .func (.func 31) #[] #[.pointer (some ⟨g, 0, none⟩)], .int .i64 5, .func (.func 33) #[] #[.pointer (some ⟨g, 0, none⟩)], .int .i64 4, .func (.func 34) #[] #[.pointer (some ⟨g, 0, none⟩)], .int .i64 12, .func (.func 36) #[] #[.pointer (some ⟨g, 0, none⟩)], .int .i64 5, .func (.func 38) #[] #[.pointer (some ⟨g, 0, none⟩)], .int .i64 4, .func (.func 39) #[] #[.pointer (some ⟨g, 0, none⟩)], .int .i64 12, .func (.func 42) #[] #[.pointer (some ⟨g, 0, none⟩)], .int .i64 4, .func (.func 45) #[] #[.pointer (some ⟨g, 0, none⟩)], .int .i64 5, .func (.func 47) #[] #[.pointer (some ⟨g, 0, none⟩)], .int .i64 4, .func (.func 48) #[] #[.pointer (some ⟨g, 0, none⟩)], .int .i64 5, .func (.func 49) #[] #[.pointer (some ⟨g, 0, none⟩)], .int .i64 4, .func (.func 50) #[] #[.pointer (some ⟨g, 0, none⟩)], .int .i64 5, .func (.func 51) #[] #[.pointer (some ⟨g, 0, none⟩)], .int .i64 4, .func (.func 52) #[] #[.pointer (some ⟨g, 0, none⟩)]]
theorem flt_int (r : Rl) (g k : Nat) (h : k < 21) : (fltC g)[k * 2]? = some (.int .i64 (fltE r k).1) := by
  match k, h with
  | 0, _ => exact rfl
  | 1, _ => exact rfl
  | 2, _ => exact rfl
  | 3, _ => exact rfl
  | 4, _ => exact rfl
  | 5, _ => exact rfl
  | 6, _ => exact rfl
  | 7, _ => exact rfl
  | 8, _ => exact rfl
  | 9, _ => exact rfl
  | 10, _ => exact rfl
  | 11, _ => exact rfl
  | 12, _ => exact rfl
  | 13, _ => exact rfl
  | 14, _ => exact rfl
  | 15, _ => exact rfl
  | 16, _ => exact rfl
  | 17, _ => exact rfl
  | 18, _ => exact rfl
  | 19, _ => exact rfl
  | 20, _ => exact rfl
  | n + 21, h => exact absurd h (by omega)
theorem flt_fun (g k : Nat) (h : k < 21) : (fltC g)[k * 2 + 1]? = some (.func (.func (fltN k)) #[] #[.pointer (some ⟨g, 0, none⟩)]) := by
  match k, h with
  | 0, _ => exact rfl
  | 1, _ => exact rfl
  | 2, _ => exact rfl
  | 3, _ => exact rfl
  | 4, _ => exact rfl
  | 5, _ => exact rfl
  | 6, _ => exact rfl
  | 7, _ => exact rfl
  | 8, _ => exact rfl
  | 9, _ => exact rfl
  | 10, _ => exact rfl
  | 11, _ => exact rfl
  | 12, _ => exact rfl
  | 13, _ => exact rfl
  | 14, _ => exact rfl
  | 15, _ => exact rfl
  | 16, _ => exact rfl
  | 17, _ => exact rfl
  | 18, _ => exact rfl
  | 19, _ => exact rfl
  | 20, _ => exact rfl
  | n + 21, h => exact absurd h (by omega)
theorem flt_enters (k : Nat) (h : k < 21) : ∀ (args : Array Value) (W : World), Sem.run Tryd.prog (callFunc (fltN k) args) W = .ok (.enter (fltN k) args) W := by
  match k, h with
  | 0, _ => exact fun args W => entersR (P := Tryd.prog) Tryd.func22 (by kernel_rfl) rfl args W
  | 1, _ => exact fun args W => entersR (P := Tryd.prog) Tryd.func24 (by kernel_rfl) rfl args W
  | 2, _ => exact fun args W => entersR (P := Tryd.prog) Tryd.func26 (by kernel_rfl) rfl args W
  | 3, _ => exact fun args W => entersR (P := Tryd.prog) Tryd.func27 (by kernel_rfl) rfl args W
  | 4, _ => exact fun args W => entersR (P := Tryd.prog) Tryd.func28 (by kernel_rfl) rfl args W
  | 5, _ => exact fun args W => entersR (P := Tryd.prog) Tryd.func29 (by kernel_rfl) rfl args W
  | 6, _ => exact fun args W => entersR (P := Tryd.prog) Tryd.func30 (by kernel_rfl) rfl args W
  | 7, _ => exact fun args W => entersR (P := Tryd.prog) Tryd.func31 (by kernel_rfl) rfl args W
  | 8, _ => exact fun args W => entersR (P := Tryd.prog) Tryd.func33 (by kernel_rfl) rfl args W
  | 9, _ => exact fun args W => entersR (P := Tryd.prog) Tryd.func34 (by kernel_rfl) rfl args W
  | 10, _ => exact fun args W => entersR (P := Tryd.prog) Tryd.func36 (by kernel_rfl) rfl args W
  | 11, _ => exact fun args W => entersR (P := Tryd.prog) Tryd.func38 (by kernel_rfl) rfl args W
  | 12, _ => exact fun args W => entersR (P := Tryd.prog) Tryd.func39 (by kernel_rfl) rfl args W
  | 13, _ => exact fun args W => entersR (P := Tryd.prog) Tryd.func42 (by kernel_rfl) rfl args W
  | 14, _ => exact fun args W => entersR (P := Tryd.prog) Tryd.func45 (by kernel_rfl) rfl args W
  | 15, _ => exact fun args W => entersR (P := Tryd.prog) Tryd.func47 (by kernel_rfl) rfl args W
  | 16, _ => exact fun args W => entersR (P := Tryd.prog) Tryd.func48 (by kernel_rfl) rfl args W
  | 17, _ => exact fun args W => entersR (P := Tryd.prog) Tryd.func49 (by kernel_rfl) rfl args W
  | 18, _ => exact fun args W => entersR (P := Tryd.prog) Tryd.func50 (by kernel_rfl) rfl args W
  | 19, _ => exact fun args W => entersR (P := Tryd.prog) Tryd.func51 (by kernel_rfl) rfl args W
  | 20, _ => exact fun args W => entersR (P := Tryd.prog) Tryd.func52 (by kernel_rfl) rfl args W
  | n + 21, h => exact absurd h (by omega)
theorem flt_calls (r : Rl) (g : Nat) (w : World) (hg : RlBlk w g r) (hr : RlAt w r) (hin : RlIn r) (hN : r.N.length ≤ 100000) (hT : TabUn w) (k : Nat) (h : k < 21) :
    Calls Tryd.prog (fltN k) #[.pointer (some ⟨g, 0, none⟩)] w fun e w' => e = .returned (.bool (fltE r k).2) ∧ Below w.heap.size w w' := by
  match k, h with
  | 0, _ => exact ck1_any r g w hg
  | 1, _ => exact ck2_any r g w hg hT
  | 2, _ => exact ck3_any r g w hg
  | 3, _ => exact ck4_any r g w hg
  | 4, _ => exact ck5_any r g w hg
  | 5, _ => exact ck6_any r g w hg
  | 6, _ => exact ck7_any r g w hg
  | 7, _ => exact ck8_any r g w hg hr hin
  | 8, _ => exact ck9_any r g w hg
  | 9, _ => exact ck10_any r g w hg hr hin
  | 10, _ => exact ck11_any r g w hg hr hin
  | 11, _ => exact ck12_any r g w hg
  | 12, _ => exact ck13_any r g w hg hr hin
  | 13, _ => exact ck14_any r g w hg hr hin hN
  | 14, _ => exact ck15_any r g w hg hr hin hN
  | 15, _ => exact ck16_any r g w hg
  | 16, _ => exact ck17_any r g w hg hr hin
  | 17, _ => exact ck18_any r g w hg
  | 18, _ => exact ck19_any r g w hg hr hin
  | 19, _ => exact ck20_any r g w hg
  | 20, _ => exact ck21_any r g w hg hr hin
  | n + 21, h => exact absurd h (by omega)
theorem fltL_len (r : Rl) : (fltL r).length = 21 := rfl
theorem flt_step (r : Rl) (k : Nat) (h : k < 21) : fstB ((fltL r).drop k) = if (fltE r k).2 = true then (fltE r k).1 else fstB ((fltL r).drop (k + 1)) := by
  have hl : k < (fltL r).length := by rw [fltL_len]; exact h
  unfold fltE
  rw [List.drop_eq_getElem_cons hl, List.getElem?_eq_getElem hl]
  rfl
theorem flt_end (r : Rl) : fstB ((fltL r).drop 21) = 0 := rfl
theorem wpList_storeNew {ops : Array Oper} {rest : List Oper} {op : Oper} {a : Act} {w : World} {Q : Exit → Act → World → Prop} {old : Array Value} {t : TypeId} (cs : Array Value) (hgd : op.guard = none) (ty : TypeId) (x y : Operand) (ho : op.op = .store ty x y)
    (hx : a.eval x = .pointer (some ⟨w.heap.size, 0, none⟩)) (hy : a.eval y = .agg cs) (hi : (Tryd.prog.info? ty).map (·.size) = some cs.size) (hs : old.size = cs.size) (h1 : cs.all (·.oneCell') = true)
    (h : wpList Tryd.prog ops Q rest (a.put op.dst undef) (w.alloc (.cells cs t))) : wpList Tryd.prog ops Q (op :: rest) a (w.alloc (.cells old t)) :=
  wpList_storeRow (blk_new w (.cells old t)) cs hgd ty x y ho hx hy hi hs h1 (by rw [World.setRow_alloc_new]; exact h)
set_option maxHeartbeats 3200000 in
set_option maxRecDepth 20000 in
theorem check32_any (r : Rl) (w : World) (hr : RlAt w r) (hin : RlIn r) (hN : r.N.length ≤ 100000) (hT : TabUn w) :
    Calls Tryd.prog 8 #[rlV r] w fun e w' => e = .returned (.int .i64 (chkE r)) ∧ Below w.heap.size w w' := by
  rw [← chk_eq]
  have HG0 := Lib.hid (show RlBlk ((w.alloc (.cells (rlC r) 25)).alloc (.cells (fltC w.heap.size) 56)) w.heap.size r from blk_more (blk_new w (.cells (rlC r) 25)) _)
  have HB0 := Lib.hid (show Below w.heap.size w ((w.alloc (.cells (rlC r) 25)).alloc (.cells (fltC w.heap.size) 56)) from ((Below.refl _ _).alloc (Nat.le_refl _) _).alloc (by rw [World.size_alloc]; omega) _)
  have HF0 := Lib.hid (show ((w.alloc (.cells (rlC r) 25)).alloc (.cells (fltC w.heap.size) 56)).heap[w.heap.size + 1]? = some (.cells (fltC w.heap.size) 56 (0, 0)) from by
    have q := blk_new (w.alloc (.cells (rlC r) 25)) (.cells (fltC w.heap.size) 56)
    rw [World.size_alloc] at q
    exact q)
  obtain ⟨W1, hW1⟩ : ∃ W1, (w.alloc (.cells (rlC r) 25)).alloc (.cells (fltC w.heap.size) 56) = W1 := ⟨_, rfl⟩
  rw [hW1] at HG0 HB0 HF0
  unfold fltC at hW1
  have HW := Lib.hid hW1
  clear hW1
  have HC := Lib.hid (fun k h => flt_enters k h)
  have HK := Lib.hid (fun W hb (hg : RlBlk W w.heap.size r) k h => flt_calls r w.heap.size W hg (hr.below hb) hin hN (hT.bel hb) k h)
  have HI := Lib.hid (fun k h => flt_int r w.heap.size k h)
  have HN := Lib.hid (fun k h => flt_fun w.heap.size k h)
  have HS := Lib.hid (fun k h => flt_step r k h)
  have HE := Lib.hid (flt_end r)
  have H0 := Lib.hid (show fstB ((fltL r).drop 0) = fstB (fltL r) from rfl)
  generalize fstB (fltL r) = res at H0 ⊢
  unfold rlV
  clear hr hin hN hT
  go_enter Tryd.func8, Tryd.ntmps8
  go_wp2_with fail
  rw [HW.out]
  clear HW
  go_loopw [51] (fun i wr => ∃ k : Nat, k ≤ 21 ∧ i = .int .i64 k ∧ wr.heap[w.heap.size + 1]? = some (.cells (fltC w.heap.size) 56 (0, 0)) ∧ RlBlk wr w.heap.size r ∧ Below w.heap.size w wr ∧ Hid (fstB ((fltL r).drop k) = res)) (fun i _ => 21 - (intOf i).toNat)
  case atStart => exact ⟨0, Nat.zero_le _, rfl, HF0.out, HG0.out, HB0.out, H0⟩
  case round =>
    obtain ⟨k, hk, rfl, hf, hg, hb, HA⟩ := hrel
    have HB := Lib.hid hb
    have HG := Lib.hid hg
    have HF := Lib.hid hf
    by_cases hlt : k < 21
    · have hst := HS.out k hlt
      rw [HA.out] at hst
      have HST := Lib.hid hst
      have d0 : decide (k < 21) = true := dec_t hlt
      have d1 : decide ((k : Int) < 21) = true := dec_t (by omega)
      have ik0 : (0 : Int) ≤ (k : Int) := by omega
      have ik1 : (k : Int) < 21 := by omega
      have hw1 : IntKind.i64.wrap ((k : Int) + 1) = (k : Int) + 1 := IntWalk.i64_in _ ⟨by omega, by omega⟩
      have HKL := Lib.hid (And.intro hk hlt)
      have z0 : wr.cell? ⟨w.heap.size + 1, k * 2, none⟩ = some (.int .i64 (fltE r k).1) := (blk_cell hf (k * 2)).trans (HI.out k hlt)
      have z1 : wr.cell? ⟨w.heap.size + 1, k * 2 + 1, none⟩ = some (.func (.func (fltN k)) #[] #[.pointer (some ⟨w.heap.size, 0, none⟩)]) := (blk_cell hf (k * 2 + 1)).trans (HN.out k hlt)
      have hC := HC.out k hlt
      have HB1 := Lib.hid (HB.out.alloc HB.out.size (.cells #[.int .i64 (fltE r k).1, .func (.func (fltN k)) #[] #[.pointer (some ⟨w.heap.size, 0, none⟩)]] 56))
      have HG1 := Lib.hid (show RlBlk (wr.alloc (.cells #[.int .i64 (fltE r k).1, .func (.func (fltN k)) #[] #[.pointer (some ⟨w.heap.size, 0, none⟩)]] 56)) w.heap.size r from blk_more HG.out _)
      have HF1 := Lib.hid (blk_more HF.out (.cells #[.int .i64 (fltE r k).1, .func (.func (fltN k)) #[] #[.pointer (some ⟨w.heap.size, 0, none⟩)]] 56))
      have HQ1 := Lib.hid (blk_new wr (.cells #[.int .i64 (fltE r k).1, .func (.func (fltN k)) #[] #[.pointer (some ⟨w.heap.size, 0, none⟩)]] 56))
      have K := HK.out _ HB1.out HG1.out k hlt
      generalize fltE r k = eb at *
      generalize fltN k = F at *
      clear hst hk hlt HA hf hg hb
      go_wp2_with (refine wpList_storeNew #[.int .i64 eb.1, .func (.func F) #[] #[.pointer (some ⟨w.heap.size, 0, none⟩)]] rfl _ _ _ rfl rfl rfl (by kernel_rfl) rfl (by simp [Value.oneCell']) ?_)
      refine K.mono ?_
      rintro e w2 ⟨rfl, hb2⟩
      have HB2 := Lib.hid (HB1.out.trans (hb2.mono HB1.out.size))
      have HG2 := Lib.hid (HG1.out.bel hb2)
      have HF2 := Lib.hid ((hb2.block _ (lt_of_block HF1.out)).trans HF1.out)
      have c0 : w2.cell? ⟨wr.heap.size, 0, none⟩ = some (.int .i64 eb.1) := blk_cell ((hb2.block _ (lt_of_block HQ1.out)).trans HQ1.out) 0
      clear hb2 K z0 z1 hC
      cases hbv : eb.2
      · have HX := Lib.hid (show fstB ((fltL r).drop (k + 1)) = res by rw [HST.out, hbv]; rfl)
        clear HST hbv c0
        go_wp2_with fail
        go_roundw
        case rel => exact ⟨k + 1, by have := HKL.out; omega, by go_num, HF2.out, HG2.out, HB2.out, HX⟩
        case measure =>
          have := HKL.out
          simp [intOf]; omega
      · have HX := Lib.hid (show res = eb.1 by rw [HST.out, hbv]; rfl)
        clear HST hbv
        go_wp2_with fail
        go_ret
        exact ⟨by rw [HX.out]; rfl, HB2.out⟩
    · have hk21 : k = 21 := by omega
      have d0 : decide (k < 21) = false := dec_n hlt
      have d1 : decide ((k : Int) < 21) = false := dec_n (by omega)
      have HX := Lib.hid (show res = 0 by rw [← HA.out, hk21]; exact HE.out)
      clear hk21
      clear hk hlt hf hg hb
      go_wp2_with fail
      go_ret
      exact ⟨by rw [HX.out]; rfl, HB.out⟩
end Go.Proofs.YtigbbepgfofcoaaDoor
