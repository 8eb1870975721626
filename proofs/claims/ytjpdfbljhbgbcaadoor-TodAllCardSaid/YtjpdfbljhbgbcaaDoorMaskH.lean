/- Contracts of mask.All and of what it tells (layer 2). -/
import Derived.Test.YtjpdfbljhbgbcaaDoorMaskG
namespace Go.Proofs.YtjpdfbljhbgbcaaDoor
open Go.RowKit
set_option linter.unusedVariables false

theorem Tab.but {X : Nat → Prop} {w w' : World} (h : Tab w) (k : But X w w') (hX : ¬ X 1) : Tab w' := fun j hj =>
  (World.cell?_of_block (k.block _ h.lt hX)).trans (h j hj)
def A1At (M : Nat → Bool) (mo g B : Nat) (w : World) (x : Value) (wr : World) : Prop := ∃ (j : Nat) (v : Value), j ≤ 64 ∧ x = .int .u64 (rest M j) ∧ wr.heap[g]? = some (.cells #[v] 26 (0, 0)) ∧ OwnI wr B v (numsP M j) ∧
  But (fun k => k = g ∨ B ≤ k) w wr ∧ (mo = 0 ∨ (numsP M j).length < mo)
/-- the numbers that are in all of the first k masks -/
def preM (zs : List Int) (k n : Nat) : Bool := (List.range k).all fun j => (zs[j]?.getD 0).toNat.testBit n
theorem preM_succ (zs : List Int) (k n : Nat) : preM zs (k + 1) n = (preM zs k n && (zs[k]?.getD 0).toNat.testBit n) := by unfold preM; rw [List.range_succ, List.all_append]; simp
def bothM (zs : List Int) (k : Nat) : Nat := mk fun n => decide (0 < k) && preM zs k n
theorem bothM_first (zs : List Int) (m : Nat) (hm : m < 18446744073709551616) (h : zs[0]?.getD 0 = (m : Int)) : bothM zs 1 = m := by
  unfold bothM
  refine (mk_eq _ hm fun i hi => ?_).symm
  rw [preM_succ, h]
  simp [preM]
theorem bothM_next (zs : List Int) (k m : Nat) (hk : 0 < k) (hm : m < 18446744073709551616) (h : zs[k]?.getD 0 = (m : Int)) : bothM zs k &&& m = bothM zs (k + 1) := by
  unfold bothM
  refine mk_eq _ (Nat.lt_of_le_of_lt Nat.and_le_right hm) fun i hi => ?_
  rw [Nat.testBit_and, mk_test, dec_t hi, dec_t hk, dec_t (show 0 < k + 1 by omega), preM_succ, h]
  simp
def AllAt (zs : List Int) (w : World) (i : Value) (wr : World) : Prop := ∃ k : Nat, k ≤ zs.length ∧ i = .int .i64 k ∧ wr.heap[w.heap.size]? = some (.cells #[.int .u64 (bothM zs k)] 22 (0, 0)) ∧ Below w.heap.size w wr
set_option maxHeartbeats 1600000 in
theorem all_any (A : Option Addr) (c : Nat) (zs : List Int) (w : World) (hl : zs.length ≤ 1000000) (hc : Ints .u64 w A zs) (hu : ∀ k, k < zs.length → ∃ m : Nat, zs[k]?.getD 0 = (m : Int) ∧ m < 18446744073709551616) :
    Calls Tryd.prog 36 #[.slice A zs.length c] w fun e w' => e = .returned (.func (.func 57) #[] #[.pointer (some ⟨w.heap.size, 0, none⟩)]) ∧
      w'.heap[w.heap.size]? = some (.cells #[.int .u64 (bothM zs zs.length)] 22 (0, 0)) ∧ Below w.heap.size w w' := by
  have HC := Lib.hid hc
  have HU := Lib.hid hu
  have HN := Lib.hid (show ((bothM zs 0 : Nat) : Int) = 0 by
    have : bothM zs 0 = 0 := by
      unfold bothM
      rw [← mk_none]
      exact mk_congr fun i _ => by simp
    rw [this]; rfl)
  clear hc hu
  go_enter Tryd.func36, Tryd.ntmps36
  go_wp2
  go_loopw [8] (fun i wr => AllAt zs w i wr) (fun i _ => zs.length - (intOf i).toNat)
  case atStart => exact ⟨0, Nat.zero_le _, rfl, by rw [HN.out]; exact blk_new w _, (Below.refl _ _).alloc (Nat.le_refl _) _⟩
  case round =>
    obtain ⟨k, hk, rfl, hg, hb⟩ := hrel
    have HG := Lib.hid hg
    have HB := Lib.hid hb
    by_cases hlt : k < zs.length
    · obtain ⟨b, off, rfl, hbl, cell⟩ := (HC.out.below hb) k hlt
      obtain ⟨m, hm, hm2⟩ := HU.out k hlt
      rw [hm] at cell
      have c0 : wr.cell? ⟨w.heap.size, 0, none⟩ = some (.int .u64 (bothM zs k)) := by rw [blk_cell hg]; rfl
      have fz := blk_free hg 0
      have HK := Lib.hid (bothM_first zs m hm2)
      have HK2 := Lib.hid (fun h0 => bothM_next zs k m h0 hm2 hm)
      by_cases h0 : k = 0
      · subst h0
        rw [show off + 0 = off from rfl] at cell
        have e1 : (wr.setCell ⟨w.heap.size, 0, none⟩ (.int .u64 m)).cell? ⟨w.heap.size, 0, none⟩ = some (.int .u64 m) := by rw [blk_cell (blk_put hg 0 _)]; rfl
        have e2 := blk_free (blk_put hg 0 (.int .u64 m)) 0
        have a1 : bits BinOp.and IntKind.u64 (m : Int) (m : Int) = (m : Int) := by rw [u64_and_nat m m hm2 hm2, Nat.and_self]
        have HX := Lib.hid (HK.out hm)
        clear hg hb hm hm2
        go_wp2
        go_roundw
        case rel => exact ⟨0 + 1, by omega, by go_num, by rw [HX.out]; first | exact blk_put (blk_put HG.out 0 _) 0 _ | exact blk_put HG.out 0 _, by first | exact (HB.out.setCell (Nat.le_refl _) _).setCell (Nat.le_refl _) _ | exact HB.out.setCell (Nat.le_refl _) _⟩
        case measure => simp [intOf]; omega
      · have d0 : ((k : Int) == 0) = false := by rw [beq_eq_false_iff_ne]; omega
        have a1 : bits BinOp.and IntKind.u64 ((bothM zs k : Nat) : Int) (m : Int) = ((bothM zs (k + 1) : Nat) : Int) := by rw [u64_and_nat (bothM zs k) m (show bothM zs k < _ from mk_lt _) hm2, HK2.out (by omega)]
        clear hg hb hm hm2
        go_wp2
        go_roundw
        case rel => exact ⟨k + 1, by omega, by go_num, blk_put HG.out 0 _, HB.out.setCell (Nat.le_refl _) _⟩
        case measure => simp [intOf]; omega
    · obtain rfl : k = zs.length := by omega
      clear hg hb
      go_wp2
      go_ret
      exact ⟨rfl, HG.out, HB.out⟩
end Go.Proofs.YtjpdfbljhbgbcaaDoor
