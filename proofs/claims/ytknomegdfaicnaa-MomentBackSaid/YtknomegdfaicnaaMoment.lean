/- The contract of the function inside moment.written: it puts a number's digits where a letter of the form stands. -/
import Derived.Test.YtknomegdfaicnaaSpanC
import Derived.OwnWalk
import Derived.Maps.AppendAt
import Derived.RangeFuncBox
namespace Go.Proofs.Ytknomegdfaicnaa
open Go.RowKit

/-- bytes put from the k-th place down: where the form has the letter, the last digit of what is left of n -/
def putG (form : List UInt8) (c : Nat) : Nat → Int → List Int → List Int
  | 0, _, bs => bs
  | k + 1, n, bs => if (form.getD k 0).toNat = c then putG form c k (n / 10) (bs.set k (48 + n % 10)) else putG form c k n bs
theorem putG_length (form : List UInt8) (c : Nat) : ∀ k n bs, (putG form c k n bs).length = bs.length
  | 0, _, _ => rfl
  | k + 1, n, bs => by
    unfold putG
    split
    · rw [putG_length form c k]; simp
    · exact putG_length form c k n bs
def BytesIs (w : World) (B : Nat) (bs : List Int) : Prop := B < w.heap.size ∧ ∀ j, j < bs.length → w.cell? ⟨B, j, none⟩ = some (.int .u8 (bs[j]?.getD 0)) ∧ w.frozen? ⟨B, j, none⟩ = false
theorem BytesIs.set {w : World} {B : Nat} {bs : List Int} (h : BytesIs w B bs) (k : Nat) (hk : k < bs.length) (x : Int) : BytesIs (w.setCell ⟨B, k, none⟩ (.int .u8 x)) B (bs.set k x) := by
  refine ⟨by simpa using h.1, fun j hj => ?_⟩
  have hj' : j < bs.length := by simpa using hj
  obtain ⟨h1, h2⟩ := h.2 j hj'
  refine ⟨?_, by rw [World.frozen?_setCell]; exact h2⟩
  by_cases e : j = k
  · subst e
    rw [World.cell?_setCell_same' _ _ _ (by rw [h1]; rfl)]
    simp [hj']
  · rw [World.cell?_setCell_other _ _ _ _ (by intro he; injection he with _ h3; omega), h1]
    rw [List.getElem?_set_ne (by omega)]
theorem grown_set (W : World) (b i : Nat) (v : Value) : W.grownBy (W.setCell ⟨b, i, none⟩ v) (some b) :=
  ⟨rfl, rfl, rfl, by simp, fun k _ hk => Below.heap_setCell W _ v k (by intro e; exact hk (by rw [e]))⟩
theorem put_any (c : Nat) (n : Int) (O FB B cp : Nat) (form : ByteArray) (bs : List Int) (w : World) (hO : w.cell? ⟨O, 0, none⟩ = some (.slice (some ⟨B, 0, none⟩) form.size cp)) (hF : w.cell? ⟨FB, 0, none⟩ = some (.string form))
    (hOB : O ≠ B) (hFB : FB ≠ B) (hbs : BytesIs w B bs) (hlen : bs.length = form.size) (hl : form.size ≤ 100) (hn : 0 ≤ n) (hn2 : n ≤ 9999) :
    Calls Try.prog 80 #[.int .u8 c, .int .i64 n, .pointer (some ⟨O, 0, none⟩), .pointer (some ⟨FB, 0, none⟩)] w fun e w' => e = .returned (.tuple #[]) ∧ w.grownBy w' (some B) ∧ BytesIs w' B (putG form.data.toList c form.size n bs) := by
  go_enter Try.func80, Try.ntmps80
  go_wp2
  go_loopw [1, 6] (fun x i wr => ∃ (k : Nat) (m : Int) (cs : List Int), k ≤ form.size ∧ i = .int .i64 ((k : Int) - 1) ∧ x = .int .i64 m ∧ 0 ≤ m ∧ m ≤ 9999 ∧ w.grownBy wr (some B) ∧ BytesIs wr B cs ∧ cs.length = form.size ∧ Hid (putG form.data.toList c k m cs = putG form.data.toList c form.size n bs)) (fun _ i _ => (intOf i + 1).toNat)
  case atStart => exact ⟨form.size, n, bs, Nat.le_refl _, rfl, rfl, hn, hn2, World.grownBy.refl _ _, hbs, hlen, Lib.hid rfl⟩
  case round =>
    obtain ⟨k, m, cs, hk, rfl, rfl, hm, hm2, hg, hcs, hcl, HP⟩ := hrel
    have hO' := hg.cell hO (by simpa using hOB)
    have hF' := hg.cell hF (by simpa using hFB)
    cases k with
    | zero =>
      have hneg : ¬ (0 : Int) ≤ ((0 : Nat) : Int) - 1 := by omega
      have HQ := Lib.hid (HP.out : cs = putG form.data.toList c form.size n bs)
      clear HP hneg
      go_wp2
      go_end0
      exact ⟨rfl, hg, by rw [← HQ.out]; exact hcs⟩
    | succ k =>
      rw [show ((k + 1 : Nat) : Int) - 1 = (k : Int) by omega]
      obtain ⟨hb1, hb2⟩ := hcs.2 k (by omega)
      have hks : k < form.size := by omega
      have hfk : (form.data.toList.getD k 0).toNat = (form[k]'hks).toNat := by
        simp only [List.getD, Array.getElem?_toList]
        rw [Array.getElem?_eq_getElem (by simpa using hks)]
        rfl
      by_cases hx : (form.data.toList.getD k 0).toNat = c
      · have ht : (((form[k]'hks).toNat : Int) == (c : Int)) = true := by rw [beq_iff_eq, ← hfk, hx]
        have HQ := Lib.hid (show putG form.data.toList c k (m / 10) (cs.set k (48 + m % 10)) = putG form.data.toList c form.size n bs by rw [← HP.out]; conv => rhs; unfold putG; rw [if_pos hx])
        have hr1 : 0 ≤ m % 10 := by omega
        have hr2 : m % 10 < 10 := by omega
        have hq1 : 0 ≤ m / 10 := by omega
        have hq2 : m / 10 ≤ 9999 := by omega
        have hsl : (cs.set k (48 + m % 10)).length = form.size := by simpa using hcl
        clear hx hfk HP
        go_wp2
        go_roundw
        case rel => exact ⟨k, m / 10, cs.set k (48 + m % 10), by omega, rfl, rfl, hq1, hq2, hg.trans (grown_set _ _ _ _), hcs.set k (by omega) _, hsl, HQ⟩
        case measure => simp [intOf]
      · have ht : (((form[k]'hks).toNat : Int) == (c : Int)) = false := by rw [beq_eq_false_iff_ne, ← hfk]; omega
        have HQ := Lib.hid (show putG form.data.toList c k m cs = putG form.data.toList c form.size n bs by rw [← HP.out]; conv => rhs; unfold putG; rw [if_neg hx])
        clear hx hfk HP
        go_wp2
        go_roundw
        case rel => exact ⟨k, m, cs, by omega, rfl, rfl, hm, hm2, hg, hcs, hcl, HQ⟩
        case measure => simp [intOf]
end Go.Proofs.Ytknomegdfaicnaa
