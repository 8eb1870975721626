/- The document's digits of a number: feriaref26.Number tells what strconv.Itoa tells (layer 26). -/
import Derived.Test.YtahlegempjlbbaaDoorOwn
import Derived.Test.YtahlegempjlbbaaDoorOpen
import Derived.Test.YtahlegempjlbbaaDoorDec
import Derived.Deep.RegionWith
import Derived.Lib.ItoaLen
import Derived.Lib.ItoaMem
namespace Go.Proofs.YtahlegempjlbbaaDoor
open Go.RowKit
set_option linter.unusedVariables false

/-- a number's digits -/
def tx (n : Int) : ByteArray := ⟨(Lib.itoa n).toArray⟩
theorem u8_in (b : Int) (h0 : 0 ≤ b) (h1 : b ≤ 255) : IntKind.u8.wrap b = b := IntWalk.u8_in _ ⟨h0, h1⟩
theorem convert_one (b : Int) (h0 : 0 ≤ b) (h1 : b ≤ 255) (X : World) : (convert 54 9 (.slice (some ⟨X.heap.size, 0, none⟩) 1 1)).run Tryd.prog (X.alloc (.cells #[.int .u8 b] 5)) = .ok (.string ⟨#[UInt8.ofNat b.toNat]⟩) (X.alloc (.cells #[.int .u8 b] 5)) := by
  have hcell : ∀ i, i < 1 → (X.alloc (.cells #[.int .u8 b] 5)).cell? ⟨X.heap.size, 0 + i, none⟩ = some (.int .u8 ([b].getD i 0)) := by
    intro i hi
    obtain rfl : i = 0 := by omega
    exact cell_new X _ _ 0
  have hcv := run_convert_bytes_arg (P := Tryd.prog) (X.alloc (.cells #[.int .u8 b] 5)) 54 5 (by kernel_rfl) (by kernel_rfl) X.heap.size 0 1 1 [b] rfl hcell 9 (by kernel_rfl)
  exact hcv
theorem convert_at (b : Int) (h0 : 0 ≤ b) (h1 : b ≤ 255) (g : Nat) (X : World) (hc : X.cell? ⟨g, 0, none⟩ = some (.int .u8 b)) : (convert 54 9 (.slice (some ⟨g, 0, none⟩) 1 1)).run Tryd.prog X = .ok (.string ⟨#[UInt8.ofNat b.toNat]⟩) X := by
  have hcell : ∀ i, i < 1 → X.cell? ⟨g, 0 + i, none⟩ = some (.int .u8 ([b].getD i 0)) := by
    intro i hi
    obtain rfl : i = 0 := by omega
    exact hc
  exact run_convert_bytes_arg (P := Tryd.prog) X 54 5 (by kernel_rfl) (by kernel_rfl) g 0 1 1 [b] rfl hcell 9 (by kernel_rfl)
theorem keep1 {w w3 : World} {b : Int} (hb : Below (w.alloc (.cells #[.int .u8 b] 5)).heap.size (w.alloc (.cells #[.int .u8 b] 5)) w3) : w3.cell? ⟨w.heap.size, 0, none⟩ = some (.int .u8 b) := (hb.cell (p := ⟨w.heap.size, 0, none⟩) (by rw [World.size_alloc]; exact Nat.lt_succ_self _)).trans (cell_new w _ _ 0)
theorem keep2 {w w3 : World} {b : Int} (hb : Below (w.alloc (.cells #[.int .u8 b] 5)).drew.heap.size (w.alloc (.cells #[.int .u8 b] 5)).drew w3) : w3.cell? ⟨w.heap.size, 0, none⟩ = some (.int .u8 b) := (hb.cell (p := ⟨w.heap.size, 0, none⟩) (show w.heap.size < (w.alloc (.cells #[.int .u8 b] 5)).heap.size by rw [World.size_alloc]; exact Nat.lt_succ_self _)).trans (cell_new w _ _ 0)
theorem keep3 {w w3 : World} {b : Int} (hb : Below (w.drew.alloc (.cells #[.int .u8 b] 5)).heap.size (w.drew.alloc (.cells #[.int .u8 b] 5)) w3) : w3.cell? ⟨w.heap.size, 0, none⟩ = some (.int .u8 b) := keep1 (w := w.drew) hb
theorem belW1 {w w3 : World} {o : Obj} (hb : Below w.drew.heap.size w.drew w3) : Below w.heap.size w (w3.alloc o) := by
  have h : Below w.heap.size w w3 := (Below.refl _ w).drew.trans hb
  exact h.alloc h.size o
theorem belW2 {w w3 : World} {o : Obj} (hb : Below (w.alloc o).drew.heap.size (w.alloc o).drew w3) : Below w.heap.size w w3 :=
  ((Below.refl _ w).alloc (Nat.le_refl _) o).trans (((Below.refl _ (w.alloc o)).drew.trans hb).mono (show w.heap.size ≤ (w.alloc o).heap.size by rw [World.size_alloc]; exact Nat.le_succ _))
theorem tx_size (n : Int) (h0 : -9223372036854775808 ≤ n) (h1 : n ≤ 9223372036854775807) : (tx n).size ≤ 21 := by
  show (Lib.itoa n).toArray.size ≤ 21
  rw [List.size_toArray]; exact Lib.itoa_length_le n h0 h1
theorem tx_small (n : Nat) (h : n < 10) : tx (n : Int) = ⟨#[UInt8.ofNat (48 + n)]⟩ := by
  unfold tx; rw [Lib.itoa_nonneg, Lib.decDigits_one h]
theorem tx_step (n : Nat) (h : ¬ n < 10) : tx (n : Int) = tx ((n / 10 : Nat) : Int) ++ ⟨#[UInt8.ofNat (48 + n % 10)]⟩ := by
  unfold tx; rw [Lib.itoa_nonneg, Lib.itoa_nonneg, Lib.decDigits, dif_neg h, ← List.append_toArray]; exact (ByteArray.ext (by simp))
theorem tx_neg (n : Nat) (h1 : 1 ≤ n) (h : n < 10) : tx (-(n : Int)) = ⟨#[45]⟩ ++ ⟨#[UInt8.ofNat (48 + n)]⟩ := by
  unfold tx; rw [Lib.itoa_neg n h1, Lib.decDigits_one h]; rfl
theorem tx_nstep (n : Nat) (h : ¬ n < 10) : tx (-(n : Int)) = tx (-((n / 10 : Nat) : Int)) ++ ⟨#[UInt8.ofNat (48 + n % 10)]⟩ := by
  unfold tx
  rw [Lib.itoa_neg n (by omega), Lib.itoa_neg (n / 10) (by omega), Lib.decDigits, dif_neg h, ← List.cons_append, ← List.append_toArray]
  exact (ByteArray.ext (by simp))
set_option maxHeartbeats 1600000 in
set_option maxRecDepth 20000 in
theorem number_all (m : Nat) : ∀ (n : Int) (w : World), n.natAbs ≤ m → I64 n → Calls Tryd.prog 31 #[.int .i64 n] w fun e w' => e = .returned (.string (tx n)) ∧ Below w.heap.size w w' := by
  induction m using Nat.strongRecOn with
  | _ m ih =>
    intro n w hm hn
    unfold I64 at hn
    by_cases h0 : n < 0
    · obtain ⟨k, hk⟩ : ∃ k : Nat, n = -(k : Int) := ⟨n.natAbs, by omega⟩
      have d0 : decide (n < 0) = true := dec_t h0
      by_cases h1 : k < 10
      · have d1 : decide (-10 < n) = true := dec_t (by omega)
        obtain ⟨c, hc⟩ : ∃ c : Int, 48 - n = c := ⟨_, rfl⟩
        have hw : IntKind.i64.wrap c = c := IntWalk.i64_in _ ⟨by omega, by omega⟩
        have hw2 : IntKind.u8.wrap c = c := u8_in _ (by omega) (by omega)
        have hcv := convert_one c (by omega) (by omega) w
        have HT := Lib.hid (show tx n = ⟨#[45]⟩ ++ ⟨#[UInt8.ofNat (48 + k)]⟩ from by rw [hk]; exact tx_neg k (by omega) h1)
        rw [show c.toNat = 48 + k by omega] at hcv
        generalize UInt8.ofNat (48 + k) = bt at hcv HT
        have hs0 : (ByteArray.mk #[45]).size = 1 := rfl
        have hs1 : (ByteArray.mk #[bt]).size = 1 := rfl
        clear ih hm hn h0 h1 hk
        go_enter Tryd.func31, Tryd.ntmps31
        go_wp2
        go_ret
        exact ⟨by rw [HT.out]; rfl, (Below.refl _ _).alloc (Nat.le_refl _) _⟩
      · have d1 : decide (-10 < n) = false := dec_n (by omega)
        have K := Lib.hid (fun W => ih (m - 1) (by omega) (-((k / 10 : Nat) : Int)) W (by omega) (by unfold I64; omega))
        have HT := Lib.hid (show tx n = tx (-((k / 10 : Nat) : Int)) ++ ⟨#[UInt8.ofNat (48 + k % 10)]⟩ from by rw [hk]; exact tx_nstep k h1)
        obtain ⟨b, hb1, hb2, hb3, hb5⟩ : ∃ b : Int, Int.tmod n 10 = b ∧ -10 < b ∧ b ≤ 0 ∧ (48 - b).toNat = 48 + k % 10 := ⟨-((k % 10 : Nat) : Int), by rw [hk, Int.neg_tmod]; rfl, by omega, by omega, by omega⟩
        have hq : Int.tdiv n 10 = -((k / 10 : Nat) : Int) := by rw [hk, Int.neg_tdiv]; rfl
        have hqw : IntKind.i64.wrap (-((k / 10 : Nat) : Int)) = -((k / 10 : Nat) : Int) := IntWalk.i64_in _ ⟨by omega, by omega⟩
        have hbw : IntKind.i64.wrap b = b := IntWalk.i64_in _ ⟨by omega, by omega⟩
        obtain ⟨c, hc⟩ : ∃ c : Int, 48 - b = c := ⟨_, rfl⟩
        have hw : IntKind.i64.wrap c = c := IntWalk.i64_in _ ⟨by omega, by omega⟩
        have hw2 : IntKind.u8.wrap c = c := u8_in _ (by omega) (by omega)
        have HCA := Lib.hid (fun g X hcc => convert_at c (by omega) (by omega) g X hcc)
        rw [show c.toNat = 48 + k % 10 by omega] at HCA
        have hkq : -9223372036854775808 ≤ -((k / 10 : Nat) : Int) ∧ -((k / 10 : Nat) : Int) ≤ 9223372036854775807 := ⟨by omega, by omega⟩
        generalize UInt8.ofNat (48 + k % 10) = bt at HCA HT
        generalize -((k / 10 : Nat) : Int) = kq at K HT hq hqw hkq
        have hcv := HCA.out w.heap.size (w.alloc (.cells #[.int .u8 c] 5)) (cell_new w _ _ 0)
        have hcvd := HCA.out w.heap.size (w.alloc (.cells #[.int .u8 c] 5)).drew (cell_new w _ _ 0)
        have hs1 : (ByteArray.mk #[bt]).size = 1 := rfl
        obtain ⟨L, hL, hs2⟩ : ∃ L, L ≤ 21 ∧ (tx kq).size = L := ⟨_, tx_size kq hkq.1 hkq.2, rfl⟩
        have hs3 : ¬ (9223372036854775807 : Int) < (L : Int) + 1 := by omega
        have hs4 : (L : Int) + 1 ≤ 9223372036854775807 := by omega
        have hs5 : ¬ (9223372036854775807 : Int) < ((L + 1 : Nat) : Int) := by omega
        have hs6 : ¬ 9223372036854775807 < L + 1 := by omega
        have hs7 : L + 1 ≤ 9223372036854775807 := by omega
        clear hkq hL
        clear ih hm hn h0 h1 hb2 hb3 hb5 hk
        go_enter Tryd.func31, Tryd.ntmps31
        go_wp2_with fail
        go_region_with (go_at_call 31; with_reducible refine (K.out _).mono ?_; rintro e w3 ⟨rfl, hb⟩; have hc1 := HCA.out w3.heap.size (w3.alloc (.cells #[.int .u8 c] 5)) (cell_new w3 _ _ 0); (first | (have hc2 := HCA.out w.heap.size w3 (keep2 hb)) | skip))
        all_goals (go_wp2; go_ret; refine ⟨by rw [HT.out]; rfl, ?_⟩; first | exact belW1 hb | exact belW2 hb)
    · obtain ⟨k, rfl⟩ := Int.eq_ofNat_of_zero_le (show 0 ≤ n by omega)
      have d0 : decide ((k : Int) < 0) = false := dec_n h0
      by_cases h1 : k < 10
      · have d1 : decide ((k : Int) < 10) = true := dec_t (by omega)
        have d1n : decide (k < 10) = true := dec_t h1
        have hw : IntKind.i64.wrap (48 + (k : Int)) = 48 + (k : Int) := IntWalk.i64_in _ ⟨by omega, by omega⟩
        have hw2 : IntKind.u8.wrap (48 + (k : Int)) = 48 + (k : Int) := u8_in _ (by omega) (by omega)
        have hcv := convert_one (48 + (k : Int)) (by omega) (by omega) w
        have HT := Lib.hid (tx_small k h1)
        rw [show (48 + (k : Int)).toNat = 48 + k by omega] at hcv
        generalize UInt8.ofNat (48 + k) = bt at hcv HT
        clear ih hm hn h0 h1
        go_enter Tryd.func31, Tryd.ntmps31
        go_wp2
        go_ret
        exact ⟨by rw [HT.out]; rfl, (Below.refl _ _).alloc (Nat.le_refl _) _⟩
      · have d1 : decide ((k : Int) < 10) = false := dec_n (by omega)
        have d1n : decide (k < 10) = false := dec_n h1
        have K := Lib.hid (fun W => ih (m - 1) (by omega) ((k / 10 : Nat) : Int) W (by omega) (by unfold I64; omega))
        have HT := Lib.hid (tx_step k h1)
        obtain ⟨b, hb1, hb2, hb3, hb4⟩ : ∃ b : Int, Int.tmod (k : Int) 10 = b ∧ 0 ≤ b ∧ b < 10 ∧ (48 + b).toNat = 48 + k % 10 := ⟨((k % 10 : Nat) : Int), rfl, by omega, by omega, by omega⟩
        have hq : Int.tdiv (k : Int) 10 = ((k / 10 : Nat) : Int) := rfl
        have hqw : IntKind.i64.wrap ((k / 10 : Nat) : Int) = ((k / 10 : Nat) : Int) := IntWalk.i64_in _ ⟨by omega, by omega⟩
        have hbw : IntKind.i64.wrap b = b := IntWalk.i64_in _ ⟨by omega, by omega⟩
        have hw : IntKind.i64.wrap (48 + b) = 48 + b := IntWalk.i64_in _ ⟨by omega, by omega⟩
        have hw2 : IntKind.u8.wrap (48 + b) = 48 + b := u8_in _ (by omega) (by omega)
        have HCA := Lib.hid (fun g X hc => convert_at (48 + b) (by omega) (by omega) g X hc)
        rw [hb4] at HCA
        generalize UInt8.ofNat (48 + k % 10) = bt at HCA HT
        have hkq : -9223372036854775808 ≤ ((k / 10 : Nat) : Int) ∧ ((k / 10 : Nat) : Int) ≤ 9223372036854775807 := ⟨by omega, by omega⟩
        generalize ((k / 10 : Nat) : Int) = kq at K HT hq hqw hkq
        have hcv := HCA.out w.heap.size (w.alloc (.cells #[.int .u8 (48 + b)] 5)) (cell_new w _ _ 0)
        have hcvd := HCA.out w.heap.size (w.alloc (.cells #[.int .u8 (48 + b)] 5)).drew (cell_new w _ _ 0)
        have hs1 : (ByteArray.mk #[bt]).size = 1 := rfl
        obtain ⟨L, hL, hs2⟩ : ∃ L, L ≤ 21 ∧ (tx kq).size = L := ⟨_, tx_size kq hkq.1 hkq.2, rfl⟩
        have hs3 : ¬ (9223372036854775807 : Int) < (L : Int) + 1 := by omega
        have hs4 : (L : Int) + 1 ≤ 9223372036854775807 := by omega
        have hs5 : ¬ (9223372036854775807 : Int) < ((L + 1 : Nat) : Int) := by omega
        have hs6 : ¬ 9223372036854775807 < L + 1 := by omega
        have hs7 : L + 1 ≤ 9223372036854775807 := by omega
        clear hkq hL
        clear ih hm hn h0 h1 hb2 hb3 hb4
        go_enter Tryd.func31, Tryd.ntmps31
        go_wp2_with fail
        go_region_with (go_at_call 31; with_reducible refine (K.out _).mono ?_; rintro e w3 ⟨rfl, hb⟩; have hc1 := HCA.out w3.heap.size (w3.alloc (.cells #[.int .u8 (48 + b)] 5)) (cell_new w3 _ _ 0); (first | (have hc2 := HCA.out w.heap.size w3 (keep2 hb)) | skip))
        all_goals (go_wp2; go_ret; refine ⟨by rw [HT.out]; rfl, ?_⟩; first | exact belW1 hb | exact belW2 hb)
end Go.Proofs.YtahlegempjlbbaaDoor
