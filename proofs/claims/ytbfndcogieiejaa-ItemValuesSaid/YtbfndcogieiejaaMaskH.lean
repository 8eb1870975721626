/- Contracts of mask.All and of what it tells (layer 2). -/
import Derived.Test.YtbfndcogieiejaaMaskG
namespace Go.Proofs.Ytbfndcogieiejaa
open Go.RowKit
set_option linter.unusedVariables false

def A1At (M : Nat → Bool) (mo g B : Nat) (w : World) (x : Value) (wr : World) : Prop := ∃ (j : Nat) (v : Value), j ≤ 64 ∧ x = .int .u64 (rest M j) ∧ wr.heap[g]? = some (.cells #[v] 32 (0, 0)) ∧ OwnI wr B v (numsP M j) ∧
  But (fun k => k = g ∨ B ≤ k) w wr ∧ (mo = 0 ∨ (numsP M j).length < mo)
/-- the numbers that are in all of the first k masks -/
def preM (zs : List Int) (k n : Nat) : Bool := (List.range k).all fun j => (zs[j]?.getD 0).toNat.testBit n
theorem preM_succ (zs : List Int) (k n : Nat) : preM zs (k + 1) n = (preM zs k n && (zs[k]?.getD 0).toNat.testBit n) := by unfold preM; rw [List.range_succ, List.all_append]; simp
def bothM (zs : List Int) (k : Nat) : Nat := mk fun n => decide (0 < k) && preM zs k n
theorem bothM_first (zs : List Int) (m : Nat) (hm : m < 18446744073709551616) (h : zs[0]?.getD 0 = (m : Int)) : bothM zs 1 = m := by
  unfold bothM
  refine (mk_eq _ hm fun i hi => ?_).symm
  rw [preM_succ, h]
  simp [preM]
theorem bothM_next (zs : List Int) (k m : Nat) (hk : 0 < k) (hm : m < 18446744073709551616) (h : zs[k]?.getD 0 = (m : Int)) : bothM zs k &&& m = bothM zs (k + 1) := by
  unfold bothM
  refine mk_eq _ (Nat.lt_of_le_of_lt Nat.and_le_right hm) fun i hi => ?_
  rw [Nat.testBit_and, mk_test, dec_t hi, dec_t hk, dec_t (show 0 < k + 1 by omega), preM_succ, h]
  simp
def AllAt (zs : List Int) (w : World) (i : Value) (wr : World) : Prop := ∃ k : Nat, k ≤ zs.length ∧ i = .int .i64 k ∧ wr.heap[w.heap.size]? = some (.cells #[.int .u64 (bothM zs k)] 36 (0, 0)) ∧ Below w.heap.size w wr
end Go.Proofs.Ytbfndcogieiejaa
