/- Contracts of mask.All and of what it tells (layer 2). -/
import Derived.Test.YtjlieamjlelipaaDoorMaskG
namespace Go.Proofs.YtjlieamjlelipaaDoor
open Go.RowKit
set_option linter.unusedVariables false

theorem Tab.but {X : Nat → Prop} {w w' : World} (h : Tab w) (k : But X w w') (hX : ¬ X 1) : Tab w' := fun j hj =>
  (World.cell?_of_block (k.block _ h.lt hX)).trans (h j hj)
def A1At (M : Nat → Bool) (mo g B : Nat) (w : World) (x : Value) (wr : World) : Prop := ∃ (j : Nat) (v : Value), j ≤ 64 ∧ x = .int .u64 (rest M j) ∧ wr.heap[g]? = some (.cells #[v] 22 (0, 0)) ∧ OwnI wr B v (numsP M j) ∧
  But (fun k => k = g ∨ B ≤ k) w wr ∧ (mo = 0 ∨ (numsP M j).length < mo)
set_option maxHeartbeats 1600000 in
set_option maxRecDepth 20000 in
theorem all1_any (M : Nat → Bool) (g q bx B mo : Nat) (v0 : Value) (w : World) (hg : w.heap[g]? = some (.cells #[v0] 22 (0, 0))) (h0 : OwnI w B v0 []) (hq : w.cell? ⟨q, 0, none⟩ = some (.int .u8 mo)) (hmo : mo ≤ 255)
    (hbx : w.cell? ⟨bx, 0, none⟩ = some (.int .u64 (mk M))) (hT : Tab w) (hgB : g < B) (hqg : q ≠ g) (hqB : q < B) (hTg : 1 < g) (hB : B ≤ w.heap.size) :
    Calls Tryd.prog 59 #[.func (.func 26) #[] #[.pointer (some ⟨g, 0, none⟩), .pointer (some ⟨q, 0, none⟩)], .pointer (some ⟨bx, 0, none⟩)] w fun e w' => e = .returned (.tuple #[]) ∧
      (∃ v', w'.heap[g]? = some (.cells #[v'] 22 (0, 0)) ∧ OwnI w' B v' (capN M mo 64)) ∧ But (fun k => k = g ∨ B ≤ k) w w' := by
  have HG := Lib.hid hg
  have HO := Lib.hid h0
  have HQ := Lib.hid hq
  have HT := Lib.hid hT
  rw [← rest_all M] at hbx
  clear hg h0 hq hT
  generalize hz : rest M 0 = x0 at hbx
  have HZ := Lib.hid hz
  clear hz
  go_enter Tryd.func59, Tryd.ntmps59
  go_wp2
  clear hbx
  go_loopw [3] (fun x wr => A1At M mo g B w x wr) (fun x _ => (intOf x).toNat)
  case atStart => exact ⟨0, v0, by omega, by rw [HZ.out], HG.out, HO.out, But.refl _ _, by show mo = 0 ∨ 0 < mo; omega⟩
  case round =>
    obtain ⟨j, v, hj, rfl, hg, ho, hb, hfree⟩ := hrel
    have HG1 := Lib.hid hg
    have HO1 := Lib.hid ho
    have HB1 := Lib.hid hb
    have HF := Lib.hid hfree
    have HT1 := Lib.hid (HT.out.but hb (by intro h; omega))
    have hBs := Nat.le_trans hB hb.size
    have HQ1 := Lib.hid ((World.cell?_of_block (a := ⟨q, 0, none⟩) (hb.block q (by omega) (by intro h; omega))).trans HQ.out)
    have hnl := numsP_le M j
    by_cases hx : rest M j = 0
    · have HE := Lib.hid (rest_end M j hj hx)
      have HC := Lib.hid (show capN M mo 64 = numsP M j by
        rcases HF.out with h | h
        · unfold capN; rw [if_pos h, HE.out]
        · unfold capN
          split
          · exact HE.out
          · rw [HE.out]; exact List.take_of_length_le (by omega))
      have d : (((rest M j : Nat) : Int) == 0) = true := by rw [beq_iff_eq]; omega
      have d' : (((rest M j : Nat) : Int) != 0) = false := by rw [bne_eq_false_iff_eq]; omega
      clear hg ho hb hfree hx
      generalize rest M j = r at d d' ⊢
      go_wp2
      refine bodyPost_end (results_none rfl _ _ _) rfl ?_
      exact ⟨rfl, ⟨v, HG1.out, by rw [HC.out]; exact HO1.out⟩, HB1.out⟩
    · obtain ⟨h1, h2, h3, h4⟩ := rest_step M j hx
      have hr := rest_lt M j
      have K1 := tz_any (rest M j) wr hr hx HT1.out
      have K2 := grow_any g q B mo v (numsP M j) ((lo (rest M j) : Nat) : Int) wr hg HQ1.out hmo hgB hqg hqB hBs ho (by omega)
      have hck := clr_key (rest M j) hr hx
      rw [h4] at hck
      have HS := Lib.hid h3
      have hdec : rest M (lo (rest M j) + 1) < rest M j := by
        rw [← h4]
        exact Nat.lt_of_le_of_lt Nat.and_le_right (by omega)
      have HJ := Lib.hid hj
      clear hg ho hb hfree h3 h4 hr
      generalize lo (rest M j) = a at K1 K2 hck HS hdec h1 h2
      generalize hrr : rest M j = r at K1 hck hdec hx
      have d : ((r : Int) == 0) = false := by rw [beq_eq_false_iff_ne]; omega
      have d' : ((r : Int) != 0) = true := by rw [bne_iff_ne]; omega
      clear hrr hx
      go_wp2_with fail
      refine K1.mono ?_
      rintro e w1 ⟨rfl, rfl⟩
      clear K1
      go_wp2_with fail
      refine K2.mono ?_
      rintro e w2 ⟨rfl, ⟨v', hg2, ho2⟩, hb2⟩
      have HG2 := Lib.hid hg2
      have HO2 := Lib.hid (show OwnI w2 B v' (numsP M (a + 1)) by rw [HS.out]; exact ho2)
      have HB2 := Lib.hid (HB1.out.trans (hb2.mono fun k _ h => h))
      have HLN := Lib.hid (show (numsP M (a + 1)).length = (numsP M j).length + 1 by rw [HS.out]; simp)
      clear hg2 ho2 hb2 K2
      by_cases hend : (numsP M j).length + 1 = mo
      · have HC := Lib.hid (show capN M mo 64 = numsP M (a + 1) from capN_stop M mo 64 (a + 1) (by omega) (by rw [HLN.out]; exact hend) (by omega))
        have q1 : decide ((numsP M j).length + 1 ≠ mo) = false := dec_n (by simpa using hend)
        rw [q1]
        clear hend q1
        go_wp2
        refine bodyPost_ret (results_none (by rfl) _ _ _) (by rfl) ?_
        exact ⟨rfl, ⟨v', HG2.out, by rw [HC.out]; exact HO2.out⟩, HB2.out⟩
      · have HF2 := Lib.hid (show mo = 0 ∨ (numsP M (a + 1)).length < mo by
          rw [HLN.out]
          rcases HF.out with h | h
          · exact .inl h
          · exact .inr (by omega))
        have q1 : decide ((numsP M j).length + 1 ≠ mo) = true := dec_t hend
        rw [q1]
        clear hend q1
        go_wp2
        go_roundw
        case rel => exact ⟨a + 1, v', by omega, rfl, HG2.out, HO2.out, HB2.out, HF2.out⟩
        case measure => simp [intOf]; omega
/-- the numbers that are in all of the first k masks -/
def preM (zs : List Int) (k n : Nat) : Bool := (List.range k).all fun j => (zs[j]?.getD 0).toNat.testBit n
theorem preM_succ (zs : List Int) (k n : Nat) : preM zs (k + 1) n = (preM zs k n && (zs[k]?.getD 0).toNat.testBit n) := by unfold preM; rw [List.range_succ, List.all_append]; simp
def bothM (zs : List Int) (k : Nat) : Nat := mk fun n => decide (0 < k) && preM zs k n
theorem bothM_first (zs : List Int) (m : Nat) (hm : m < 18446744073709551616) (h : zs[0]?.getD 0 = (m : Int)) : bothM zs 1 = m := by
  unfold bothM
  refine (mk_eq _ hm fun i hi => ?_).symm
  rw [preM_succ, h]
  simp [preM]
theorem bothM_next (zs : List Int) (k m : Nat) (hk : 0 < k) (hm : m < 18446744073709551616) (h : zs[k]?.getD 0 = (m : Int)) : bothM zs k &&& m = bothM zs (k + 1) := by
  unfold bothM
  refine mk_eq _ (Nat.lt_of_le_of_lt Nat.and_le_right hm) fun i hi => ?_
  rw [Nat.testBit_and, mk_test, dec_t hi, dec_t hk, dec_t (show 0 < k + 1 by omega), preM_succ, h]
  simp
def AllAt (zs : List Int) (w : World) (i : Value) (wr : World) : Prop := ∃ k : Nat, k ≤ zs.length ∧ i = .int .i64 k ∧ wr.heap[w.heap.size]? = some (.cells #[.int .u64 (bothM zs k)] 24 (0, 0)) ∧ Below w.heap.size w wr
set_option maxHeartbeats 1600000 in
theorem all_any (A : Option Addr) (c : Nat) (zs : List Int) (w : World) (hl : zs.length ≤ 1000000) (hc : Ints .u64 w A zs) (hu : ∀ k, k < zs.length → ∃ m : Nat, zs[k]?.getD 0 = (m : Int) ∧ m < 18446744073709551616) :
    Calls Tryd.prog 25 #[.slice A zs.length c] w fun e w' => e = .returned (.func (.func 59) #[] #[.pointer (some ⟨w.heap.size, 0, none⟩)]) ∧
      w'.heap[w.heap.size]? = some (.cells #[.int .u64 (bothM zs zs.length)] 24 (0, 0)) ∧ Below w.heap.size w w' := by
  have HC := Lib.hid hc
  have HU := Lib.hid hu
  have HN := Lib.hid (show ((bothM zs 0 : Nat) : Int) = 0 by
    have : bothM zs 0 = 0 := by
      unfold bothM
      rw [← mk_none]
      exact mk_congr fun i _ => by simp
    rw [this]; rfl)
  clear hc hu
  go_enter Tryd.func25, Tryd.ntmps25
  go_wp2
  go_loopw [8] (fun i wr => AllAt zs w i wr) (fun i _ => zs.length - (intOf i).toNat)
  case atStart => exact ⟨0, Nat.zero_le _, rfl, by rw [HN.out]; exact blk_new w _, (Below.refl _ _).alloc (Nat.le_refl _) _⟩
  case round =>
    obtain ⟨k, hk, rfl, hg, hb⟩ := hrel
    have HG := Lib.hid hg
    have HB := Lib.hid hb
    by_cases hlt : k < zs.length
    · obtain ⟨b, off, rfl, hbl, cell⟩ := (HC.out.below hb) k hlt
      obtain ⟨m, hm, hm2⟩ := HU.out k hlt
      rw [hm] at cell
      have c0 : wr.cell? ⟨w.heap.size, 0, none⟩ = some (.int .u64 (bothM zs k)) := by rw [blk_cell hg]; rfl
      have fz := blk_free hg 0
      have HK := Lib.hid (bothM_first zs m hm2)
      have HK2 := Lib.hid (fun h0 => bothM_next zs k m h0 hm2 hm)
      by_cases h0 : k = 0
      · subst h0
        rw [show off + 0 = off from rfl] at cell
        have e1 : (wr.setCell ⟨w.heap.size, 0, none⟩ (.int .u64 m)).cell? ⟨w.heap.size, 0, none⟩ = some (.int .u64 m) := by rw [blk_cell (blk_put hg 0 _)]; rfl
        have e2 := blk_free (blk_put hg 0 (.int .u64 m)) 0
        have a1 : bits BinOp.and IntKind.u64 (m : Int) (m : Int) = (m : Int) := by rw [u64_and_nat m m hm2 hm2, Nat.and_self]
        have HX := Lib.hid (HK.out hm)
        clear hg hb hm hm2
        go_wp2
        go_roundw
        case rel => exact ⟨0 + 1, by omega, by go_num, by rw [HX.out]; first | exact blk_put (blk_put HG.out 0 _) 0 _ | exact blk_put HG.out 0 _, by first | exact (HB.out.setCell (Nat.le_refl _) _).setCell (Nat.le_refl _) _ | exact HB.out.setCell (Nat.le_refl _) _⟩
        case measure => simp [intOf]; omega
      · have d0 : ((k : Int) == 0) = false := by rw [beq_eq_false_iff_ne]; omega
        have a1 : bits BinOp.and IntKind.u64 ((bothM zs k : Nat) : Int) (m : Int) = ((bothM zs (k + 1) : Nat) : Int) := by rw [u64_and_nat (bothM zs k) m (show bothM zs k < _ from mk_lt _) hm2, HK2.out (by omega)]
        clear hg hb hm hm2
        go_wp2
        go_roundw
        case rel => exact ⟨k + 1, by omega, by go_num, blk_put HG.out 0 _, HB.out.setCell (Nat.le_refl _) _⟩
        case measure => simp [intOf]; omega
    · obtain rfl : k = zs.length := by omega
      clear hg hb
      go_wp2
      go_ret
      exact ⟨rfl, HG.out, HB.out⟩
end Go.Proofs.YtjlieamjlelipaaDoor
