/- The walk of TodNext (layer 7). -/
import Derived.Test.YtediadckcpedkaaDoorTodP
namespace Go.Proofs.YtediadckcpedkaaDoor
open Go.RowKit
set_option linter.unusedVariables false

theorem count_lt {p : Nat → Bool} {u v : Nat} (hp : p u = true) (h : u < v) : (numsP p u).length < (numsP p v).length := by
  have h1 := count_up p (u + 1) (v - (u + 1))
  rw [show u + 1 + (v - (u + 1)) = v by omega, numsP_yes p u hp, List.length_append] at h1
  simp at h1
  omega
theorem count_le {p : Nat → Bool} {u v : Nat} (h : u ≤ v) : (numsP p u).length ≤ (numsP p v).length := by
  have h1 := count_up p u (v - u)
  rwa [show u + (v - u) = v by omega] at h1
theorem count_inj {p : Nat → Bool} {u v : Nat} (hu : p u = true) (hv : p v = true) (h : (numsP p u).length = (numsP p v).length) : u = v := by
  rcases Nat.lt_trichotomy u v with g | g | g
  · have := count_lt hu g; omega
  · exact g
  · have := count_lt hv g; omega
theorem early {p : Nat → Bool} {s : Int} {n t x : Nat} (hm : max s 0 = (n : Int)) (ht : IsNext p n t) (hx : p x = true) (h : (numsP p x).length < (numsP p t).length) : (x : Int) < s := by
  have hxt : x < t := by
    rcases Nat.lt_or_ge x t with g | g
    · exact g
    · have := count_le (p := p) g; omega
  rcases Nat.lt_or_ge x n with g | g
  · omega
  · have := ht.2.2.2 x g hxt; rw [hx] at this; cases this
theorem ahead {p : Nat → Bool} {s : Int} {n x : Nat} (hm : max s 0 = (n : Int)) (hn : NoNext p n) (hx : p x = true) (h : x < 86400) : (x : Int) < s := by
  rcases Nat.lt_or_ge x n with g | g
  · omega
  · have := hn x g h; rw [hx] at this; cases this
theorem last_count {p : Nat → Bool} {T : Nat} (hT : T < 86400) (h1 : p T = true) (h2 : ∀ u, T < u → p u = false) : (numsP p 86400).length = (numsP p T).length + 1 := by
  rw [numsP_to p (T + 1) 86400 (by omega) fun i a b => h2 i (by omega), numsP_yes p T h1, List.length_append]
  rfl
/-- a row that reads so, cell by cell -/
def Cells (w : World) (A : Option Addr) (L : Nat) (f : Nat → Int) : Prop := ∀ j, j < L → ∃ b o, A = some ⟨b, o, none⟩ ∧ w.cell? ⟨b, o + j, none⟩ = some (.int .i64 (f j))
theorem Cells.one {w : World} {A : Option Addr} {L : Nat} {f : Nat → Int} (h : Cells w A L f) (hL : 0 < L) : ∃ b o, A = some ⟨b, o, none⟩ ∧ ∀ j, j < L → w.cell? ⟨b, o + j, none⟩ = some (.int .i64 (f j)) := by
  obtain ⟨b, o, e, _⟩ := h 0 hL
  refine ⟨b, o, e, fun j hj => ?_⟩
  obtain ⟨b', o', e', hc⟩ := h j hj
  rw [e] at e'
  cases e'
  exact hc
/-- what the law's list is: as many numbers as there are seconds -/
def AllIs (H M S L : Nat) (f : Nat → Int) : Prop := ∀ W, Calls Tryd.prog 26 #[.int .u64 H, .int .u64 M, .int .u64 S] W fun e w' => ∃ A c, e = .returned (.slice A L c) ∧ Cells w' A L f ∧ Below W.heap.size W w'
theorem allIs (H M S : Nat) (hH : H < 18446744073709551616) (hM : M < 18446744073709551616) (hS : S < 18446744073709551616) (zs : List Int) (hz : numsP (pM H M S) 86400 = zs) : AllIs H M S zs.length fun j => zs[j]?.getD 0 := by
  intro W
  have K := rall_any H M S hH hM hS W
  rw [hz] at K
  refine K.mono ?_
  rintro e w' ⟨A, c, h1, h2, h3⟩
  refine ⟨A, c, h1, fun j hj => ?_, h3⟩
  obtain ⟨b, o, g1, _, g3⟩ := h2 j hj
  exact ⟨b, o, g1, g3⟩
set_option maxHeartbeats 3200000 in
set_option maxRecDepth 100000 in
theorem tn_some (s : Int) (H M S L : Nat) (f : Nat → Int) (KA : AllIs H M S L f) (hL : L ≤ 86400) (ln i0 t T : Nat) (hln : L = ln + 1) (hi : i0 ≤ ln) (hf : ∀ j, j < i0 → f j < s) (hft : f i0 = (t : Int)) (hts : s ≤ (t : Int)) (hfl : f ln = (T : Int)) (KN : ∀ w, Tab w → Calls Tryd.prog 27 #[.int .i64 s, .int .u64 H, .int .u64 M, .int .u64 S] w fun e w' => e = .returned (.tuple #[.int .i64 (t : Int), .bool true]) ∧ w = w') (KL : ∀ w, Calls Tryd.prog 28 #[.int .u64 H, .int .u64 M, .int .u64 S] w fun e w' => e = .returned (.tuple #[.int .i64 (T : Int), .bool true]) ∧ w = w') (KLEN : ∀ w, Calls Tryd.prog 29 #[.int .u64 H, .int .u64 M, .int .u64 S] w fun e w' => e = .returned (.int .i64 (L : Int)) ∧ w = w') (w : World) (hT : Tab w) :
    Calls Tryd.prog 6 #[.int .i64 s, .agg #[.int .u64 H, .int .u64 M, .int .u64 S]] w fun e w' => e = .returned (.bool true) ∧ Below w.heap.size w w' := by
  have hb2 : Below w.heap.size w (w.alloc (.cells #[.int .u64 H, .int .u64 M, .int .u64 S] 46)) := (Below.refl _ _).alloc (Nat.le_refl _) _
  have HT := Lib.hid (hT.below hb2)
  have HB := Lib.hid hb2
  have KLV := fun W hW => lives07_any W hW
  have hg0 := blk_new w (.cells #[.int .u64 H, .int .u64 M, .int .u64 S] 46)
  have HG0 := Lib.hid hg0
  have q9 : IntKind.i64.wrap ((L : Int) - 1) = (ln : Int) := by rw [IntWalk.i64_in _ ⟨by omega, by omega⟩]; omega
  have r0 : (0 : Int) ≤ (ln : Int) := by omega
  have r1 : (ln : Int) < (L : Int) := by omega
  have dL : decide ((0 : Int) < (L : Int)) = true := dec_t (by omega)
  have dLL : ((L : Int) == (L : Int)) = true := by rw [beq_iff_eq]
  have dTT : ((T : Int) != (T : Int)) = false := by rw [bne_eq_false_iff_eq]
  have HLN := Lib.hid hln
  have HLL := Lib.hid hL
  clear hln hL
  have dtt : ((t : Int) != (t : Int)) = false := by rw [bne_eq_false_iff_eq]
  have dt0 : decide ((0 : Int) ≤ (t : Int)) = true := dec_t (by omega)
  have dt1 : decide ((t : Int) < 0) = false := dec_n (by omega)
  have dst : decide (s ≤ (t : Int)) = true := dec_t hts
  have HI := Lib.hid hi
  have HF := Lib.hid hf
  have HFT := Lib.hid hft
  have HFL := Lib.hid hfl
  clear hi hf hft hts hfl
  clear hb2 hT hg0
  unfold AllIs at KA
  go_enter Tryd.func6, Tryd.ntmps6
  go_wp2_with fail
  refine (KA _).mono ?_
  rintro e w3 ⟨A, c, rfl, hcs, hb3⟩
  have hg := (hb3.block _ (lt_of_block HG0.out)).trans HG0.out
  have x0 : w3.cell? ⟨w.heap.size, 0, none⟩ = some (.int .u64 H) := blk_cell hg 0
  have x1 : w3.cell? ⟨w.heap.size, 1, none⟩ = some (.int .u64 M) := blk_cell hg 1
  have x2 : w3.cell? ⟨w.heap.size, 2, none⟩ = some (.int .u64 S) := blk_cell hg 2
  have HT3 := Lib.hid (HT.out.below hb3)
  have HB3 := Lib.hid (HB.out.trans (hb3.mono HB.out.size))
  obtain ⟨g, o, rfl, hcell⟩ := hcs.one (by have := HLN.out; omega)
  have HC := Lib.hid hcell
  have cl : w3.cell? ⟨g, o + ln, none⟩ = some (.int .i64 (T : Int)) := by rw [HC.out ln (by have := HLN.out; omega), HFL.out]
  clear KA hcs hcell hb3 hg
  go_wp2
  go_loop [6, 7] (fun a i => ∃ k : Nat, k ≤ i0 + 1 ∧ i = .int .i64 k ∧ a = .int .i64 (if i0 < k then (t : Int) else -1)) (fun _ i => i0 + 2 - (intOf i).toNat)
  case atStart => exact ⟨0, by omega, rfl, by simp⟩
  case round =>
    obtain ⟨k, hk, rfl, rfl⟩ := hrel
    by_cases hlt : k ≤ i0
    · have hkl : k < L := by have := HI.out; have := HLN.out; omega
      have ck := HC.out k hkl
      have ik0 : (0 : Int) ≤ (k : Int) := by omega
      have ik1 : (k : Int) < (L : Int) := by omega
      have dk : decide ((k : Int) < (L : Int)) = true := dec_t ik1
      have q5 : IntKind.i64.wrap ((k : Int) + 1) = (k : Int) + 1 := IntWalk.i64_in _ ⟨by omega, by have := HLL.out; omega⟩
      rw [if_neg (by omega)]
      by_cases h : k = i0
      · subst h
        rw [HFT.out] at ck
        have HX := Lib.hid (show (if k < k + 1 then (t : Int) else -1) = (t : Int) from if_pos (by omega))
        clear hkl
        go_wp2
        go_round
        case rel => exact ⟨k + 1, by omega, by go_num, by rw [HX.out]⟩
        case measure => simp [intOf]
      · have HX := Lib.hid (show (if i0 < k + 1 then (t : Int) else -1) = -1 from if_neg (by omega))
        have hx := HF.out k (by omega)
        generalize f k = x at ck hx
        have dx : decide (s ≤ x) = false := dec_n (by omega)
        have HLT := Lib.hid hlt
        clear hkl hx h
        go_wp2
        go_round
        case rel => exact ⟨k + 1, by omega, by go_num, by rw [HX.out]⟩
        case measure => simp [intOf]; omega
    · obtain rfl : k = i0 + 1 := by omega
      rw [if_pos (by omega)]
      clear hlt hk
      by_cases hz : i0 + 1 < L
      · have dk : decide ((i0 : Int) + 1 < (L : Int)) = true := dec_t (by omega)
        go_wp2_with fail
        refine (KN _ HT3.out).mono ?_
        rintro e w' ⟨rfl, rfl⟩
        go_wp2_with fail
        refine (KL _).mono ?_
        rintro e w' ⟨rfl, rfl⟩
        go_wp2_with fail
        refine (KLEN _).mono ?_
        rintro e w' ⟨rfl, rfl⟩
        go_wp2_with fail
        refine (KLV _ HT3.out).mono ?_
        rintro e w' ⟨rfl, rfl⟩
        go_wp2
        go_ret
        exact ⟨rfl, HB3.out⟩
      · have dk : decide ((i0 : Int) + 1 < (L : Int)) = false := dec_n (by omega)
        go_wp2_with fail
        refine (KN _ HT3.out).mono ?_
        rintro e w' ⟨rfl, rfl⟩
        go_wp2_with fail
        refine (KL _).mono ?_
        rintro e w' ⟨rfl, rfl⟩
        go_wp2_with fail
        refine (KLEN _).mono ?_
        rintro e w' ⟨rfl, rfl⟩
        go_wp2_with fail
        refine (KLV _ HT3.out).mono ?_
        rintro e w' ⟨rfl, rfl⟩
        go_wp2
        go_ret
        exact ⟨rfl, HB3.out⟩
set_option maxHeartbeats 3200000 in
set_option maxRecDepth 100000 in
theorem tn_none (s : Int) (H M S L : Nat) (f : Nat → Int) (KA : AllIs H M S L f) (hL : L ≤ 86400) (ln T : Nat) (hln : L = ln + 1) (hf : ∀ j, j < L → f j < s) (hfl : f ln = (T : Int)) (KN : ∀ w, Tab w → Calls Tryd.prog 27 #[.int .i64 s, .int .u64 H, .int .u64 M, .int .u64 S] w fun e w' => e = .returned (.tuple #[.int .i64 0, .bool false]) ∧ w = w') (KL : ∀ w, Calls Tryd.prog 28 #[.int .u64 H, .int .u64 M, .int .u64 S] w fun e w' => e = .returned (.tuple #[.int .i64 (T : Int), .bool true]) ∧ w = w') (KLEN : ∀ w, Calls Tryd.prog 29 #[.int .u64 H, .int .u64 M, .int .u64 S] w fun e w' => e = .returned (.int .i64 (L : Int)) ∧ w = w') (w : World) (hT : Tab w) :
    Calls Tryd.prog 6 #[.int .i64 s, .agg #[.int .u64 H, .int .u64 M, .int .u64 S]] w fun e w' => e = .returned (.bool true) ∧ Below w.heap.size w w' := by
  have hb2 : Below w.heap.size w (w.alloc (.cells #[.int .u64 H, .int .u64 M, .int .u64 S] 46)) := (Below.refl _ _).alloc (Nat.le_refl _) _
  have HT := Lib.hid (hT.below hb2)
  have HB := Lib.hid hb2
  have KLV := fun W hW => lives07_any W hW
  have hg0 := blk_new w (.cells #[.int .u64 H, .int .u64 M, .int .u64 S] 46)
  have HG0 := Lib.hid hg0
  have q9 : IntKind.i64.wrap ((L : Int) - 1) = (ln : Int) := by rw [IntWalk.i64_in _ ⟨by omega, by omega⟩]; omega
  have r0 : (0 : Int) ≤ (ln : Int) := by omega
  have r1 : (ln : Int) < (L : Int) := by omega
  have dL : decide ((0 : Int) < (L : Int)) = true := dec_t (by omega)
  have dLL : ((L : Int) == (L : Int)) = true := by rw [beq_iff_eq]
  have dTT : ((T : Int) != (T : Int)) = false := by rw [bne_eq_false_iff_eq]
  have HLN := Lib.hid hln
  have HLL := Lib.hid hL
  clear hln hL
  have HF := Lib.hid hf
  have HFL := Lib.hid hfl
  clear hf hfl
  clear hb2 hT hg0
  unfold AllIs at KA
  go_enter Tryd.func6, Tryd.ntmps6
  go_wp2_with fail
  refine (KA _).mono ?_
  rintro e w3 ⟨A, c, rfl, hcs, hb3⟩
  have hg := (hb3.block _ (lt_of_block HG0.out)).trans HG0.out
  have x0 : w3.cell? ⟨w.heap.size, 0, none⟩ = some (.int .u64 H) := blk_cell hg 0
  have x1 : w3.cell? ⟨w.heap.size, 1, none⟩ = some (.int .u64 M) := blk_cell hg 1
  have x2 : w3.cell? ⟨w.heap.size, 2, none⟩ = some (.int .u64 S) := blk_cell hg 2
  have HT3 := Lib.hid (HT.out.below hb3)
  have HB3 := Lib.hid (HB.out.trans (hb3.mono HB.out.size))
  obtain ⟨g, o, rfl, hcell⟩ := hcs.one (by have := HLN.out; omega)
  have HC := Lib.hid hcell
  have cl : w3.cell? ⟨g, o + ln, none⟩ = some (.int .i64 (T : Int)) := by rw [HC.out ln (by have := HLN.out; omega), HFL.out]
  clear KA hcs hcell hb3 hg
  go_wp2
  go_loop [6, 7] (fun a i => ∃ k : Nat, k ≤ L ∧ i = .int .i64 k ∧ a = .int .i64 (-1)) (fun _ i => L - (intOf i).toNat)
  case atStart => exact ⟨0, by omega, rfl, rfl⟩
  case round =>
    obtain ⟨k, hk, rfl, rfl⟩ := hrel
    by_cases hlt : k < L
    · have ck := HC.out k hlt
      have ik0 : (0 : Int) ≤ (k : Int) := by omega
      have ik1 : (k : Int) < (L : Int) := by omega
      have dk : decide ((k : Int) < (L : Int)) = true := dec_t ik1
      have q5 : IntKind.i64.wrap ((k : Int) + 1) = (k : Int) + 1 := IntWalk.i64_in _ ⟨by omega, by have := HLL.out; omega⟩
      have hx := HF.out k hlt
      generalize f k = x at ck hx
      have dx : decide (s ≤ x) = false := dec_n (by omega)
      have HLT := Lib.hid hlt
      clear hx hlt
      go_wp2
      go_round
      case rel => exact ⟨k + 1, HLT.out, by go_num, rfl⟩
      case measure => have := HLT.out; simp [intOf]; omega
    · obtain rfl : k = L := by omega
      have dk : decide ((k : Int) < (k : Int)) = false := dec_n (by omega)
      clear hlt hk
      go_wp2_with fail
      refine (KN _ HT3.out).mono ?_
      rintro e w' ⟨rfl, rfl⟩
      go_wp2_with fail
      refine (KL _).mono ?_
      rintro e w' ⟨rfl, rfl⟩
      go_wp2_with fail
      refine (KLEN _).mono ?_
      rintro e w' ⟨rfl, rfl⟩
      go_wp2_with fail
      refine (KLV _ HT3.out).mono ?_
      rintro e w' ⟨rfl, rfl⟩
      go_wp2
      go_ret
      exact ⟨rfl, HB3.out⟩
set_option maxHeartbeats 3200000 in
set_option maxRecDepth 100000 in
theorem tn_nil (s : Int) (H M S L : Nat) (f : Nat → Int) (KA : AllIs H M S L f) (hL : L ≤ 86400) (hln : L = 0) (KN : ∀ w, Tab w → Calls Tryd.prog 27 #[.int .i64 s, .int .u64 H, .int .u64 M, .int .u64 S] w fun e w' => e = .returned (.tuple #[.int .i64 0, .bool false]) ∧ w = w') (KL : ∀ w, Calls Tryd.prog 28 #[.int .u64 H, .int .u64 M, .int .u64 S] w fun e w' => e = .returned (.tuple #[.int .i64 0, .bool false]) ∧ w = w') (KLEN : ∀ w, Calls Tryd.prog 29 #[.int .u64 H, .int .u64 M, .int .u64 S] w fun e w' => e = .returned (.int .i64 (L : Int)) ∧ w = w') (w : World) (hT : Tab w) :
    Calls Tryd.prog 6 #[.int .i64 s, .agg #[.int .u64 H, .int .u64 M, .int .u64 S]] w fun e w' => e = .returned (.bool true) ∧ Below w.heap.size w w' := by
  have hb2 : Below w.heap.size w (w.alloc (.cells #[.int .u64 H, .int .u64 M, .int .u64 S] 46)) := (Below.refl _ _).alloc (Nat.le_refl _) _
  have HT := Lib.hid (hT.below hb2)
  have HB := Lib.hid hb2
  have KLV := fun W hW => lives07_any W hW
  have hg0 := blk_new w (.cells #[.int .u64 H, .int .u64 M, .int .u64 S] 46)
  have HG0 := Lib.hid hg0
  subst hln
  clear hL
  clear hb2 hT hg0
  unfold AllIs at KA
  go_enter Tryd.func6, Tryd.ntmps6
  go_wp2_with fail
  refine (KA _).mono ?_
  rintro e w3 ⟨A, c, rfl, hcs, hb3⟩
  have hg := (hb3.block _ (lt_of_block HG0.out)).trans HG0.out
  have x0 : w3.cell? ⟨w.heap.size, 0, none⟩ = some (.int .u64 H) := blk_cell hg 0
  have x1 : w3.cell? ⟨w.heap.size, 1, none⟩ = some (.int .u64 M) := blk_cell hg 1
  have x2 : w3.cell? ⟨w.heap.size, 2, none⟩ = some (.int .u64 S) := blk_cell hg 2
  have HT3 := Lib.hid (HT.out.below hb3)
  have HB3 := Lib.hid (HB.out.trans (hb3.mono HB.out.size))
  clear KA hcs hb3 hg
  go_wp2
  go_loop [6, 7] (fun a i => i = .int .i64 0 ∧ a = .int .i64 (-1)) (fun _ i => 0)
  case atStart => exact ⟨rfl, rfl⟩
  case round =>
    obtain ⟨rfl, rfl⟩ := hrel
    go_wp2_with fail
    refine (KN _ HT3.out).mono ?_
    rintro e w' ⟨rfl, rfl⟩
    go_wp2_with fail
    refine (KL _).mono ?_
    rintro e w' ⟨rfl, rfl⟩
    go_wp2_with fail
    refine (KLEN _).mono ?_
    rintro e w' ⟨rfl, rfl⟩
    go_wp2_with fail
    refine (KLV _ HT3.out).mono ?_
    rintro e w' ⟨rfl, rfl⟩
    go_wp2
    go_ret
    exact ⟨rfl, HB3.out⟩
theorem todNext_core (s : Int) (hs : I64 s) (H M S : Nat) (hH : H < 18446744073709551616) (hM : M < 18446744073709551616) (hS : S < 18446744073709551616) (w : World) (hT : Tab w) :
    Calls Tryd.prog 6 #[.int .i64 s, .agg #[.int .u64 H, .int .u64 M, .int .u64 S]] w fun e w' => e = .returned (.bool true) ∧ Below w.heap.size w w' := by
  have hm : max s 0 = ((max s 0).toNat : Int) := by omega
  generalize (max s 0).toNat = n at hm
  have KNX := tnext_or s n hm H M S hH hM hS
  have KLEN := fun W => tlen_any H M S hH hM hS W
  obtain ⟨zs, hz⟩ : ∃ zs, numsP (pM H M S) 86400 = zs := ⟨_, rfl⟩
  have KA := allIs H M S hH hM hS zs hz
  have hle := numsP_le (pM H M S) 86400
  have hsp : ∀ j, j < zs.length → ∃ x : Nat, x < 86400 ∧ pM H M S x = true ∧ zs[j]?.getD 0 = (x : Int) ∧ (numsP (pM H M S) x).length = j := fun j hj => by
    rw [← hz] at hj ⊢
    exact nth_spec _ 86400 j hj
  have hlc : ∀ T, T < 86400 → pM H M S T = true → (∀ u, T < u → pM H M S u = false) → zs.length = (numsP (pM H M S) T).length + 1 := fun T a b c => by
    rw [← hz]
    exact last_count a b c
  have hcl : ∀ t, t < 86400 → pM H M S t = true → (numsP (pM H M S) t).length < zs.length := fun t a b => by
    rw [← hz]
    exact count_lt b a
  have hno : (∀ u, pM H M S u = false) → zs.length = 0 := fun h => by
    rw [← hz]
    exact numsP_none _ _ fun i _ => h i
  rw [hz] at KLEN hle
  clear hz
  have hlast : ∀ T, T < 86400 → pM H M S T = true → (∀ u, T < u → pM H M S u = false) → zs[(numsP (pM H M S) T).length]?.getD 0 = (T : Int) := fun T a b c => by
    obtain ⟨x, _, h2, h3, h4⟩ := hsp _ (hcl T a b)
    rw [h3, count_inj h2 b h4]
  have hL : (∃ t : Nat, t < 86400 ∧ pM H M S t = true ∧ (∀ u, t < u → pM H M S u = false) ∧ ∀ w, Calls Tryd.prog 28 #[.int .u64 H, .int .u64 M, .int .u64 S] w fun e w' => e = .returned (.tuple #[.int .i64 (t : Int), .bool true]) ∧ w = w') ∨
      ((∀ u, pM H M S u = false) ∧ ∀ w, Calls Tryd.prog 28 #[.int .u64 H, .int .u64 M, .int .u64 S] w fun e w' => e = .returned (.tuple #[.int .i64 0, .bool false]) ∧ w = w') := by
    cases hb : okT (hd H) (_root_.Go.Proofs.YtediadckcpedkaaDoor.hm M) (_root_.Go.Proofs.YtediadckcpedkaaDoor.hm S)
    · exact .inr ⟨no_mask hb, fun w => tlast_no H M S hH hM hS hb w⟩
    · exact .inl (tlast_yes H M S hH hM hS hb)
  rcases KNX with ⟨t, ht, KN⟩ | ⟨hn, KN⟩
  · rcases hL with ⟨T, t1, t2, t3, KL⟩ | ⟨h0, _⟩
    · refine tn_some s H M S zs.length _ KA hle (numsP (pM H M S) T).length (numsP (pM H M S) t).length t T (hlc T t1 t2 t3) (by have := hcl t ht.2.1 ht.2.2.1; have := hlc T t1 t2 t3; omega) (fun j hj => ?_) ?_ (by have := ht.1; omega) (hlast T t1 t2 t3) KN KL KLEN w hT
      · obtain ⟨x, _, h2, h3, h4⟩ := hsp j (by have := hcl t ht.2.1 ht.2.2.1; omega)
        rw [h3]
        exact early hm ht h2 (by omega)
      · obtain ⟨x, _, h2, h3, h4⟩ := hsp _ (hcl t ht.2.1 ht.2.2.1)
        rw [h3, count_inj h2 ht.2.2.1 h4]
    · have := ht.2.2.1
      rw [h0 t] at this
      cases this
  · rcases hL with ⟨T, t1, t2, t3, KL⟩ | ⟨h0, KL⟩
    · refine tn_none s H M S zs.length _ KA hle (numsP (pM H M S) T).length T (hlc T t1 t2 t3) (fun j hj => ?_) (hlast T t1 t2 t3) KN KL KLEN w hT
      obtain ⟨x, h1, h2, h3, h4⟩ := hsp j hj
      rw [h3]
      exact ahead hm hn h2 h1
    · exact tn_nil s H M S zs.length _ KA hle (hno h0) KN KL KLEN w hT
theorem todNext_walk (s : Int) (ms : List Int) (w : World) (ws : (Lit.int .i64 s).wf = true) (hm : ms.length = 3) (hmw : ∀ z ∈ ms, (Lit.int .u64 z).wf = true) (hT : Tab w) :
    Calls Tryd.prog 6 #[.int .i64 s, .agg (ms.map (Value.int .u64)).toArray] w fun e w' => e = .returned (.bool true) ∧ Below w.heap.size w w' := by
  match ms, hm, hmw with
  | [H', M', S'], _, hmw =>
    obtain ⟨H, rfl, hH⟩ := wf_u64 (hmw H' (by simp))
    obtain ⟨M, rfl, hM⟩ := wf_u64 (hmw M' (by simp))
    obtain ⟨S, rfl, hS⟩ := wf_u64 (hmw S' (by simp))
    exact todNext_core s (wf_i64 ws) H M S (by omega) (by omega) (by omega) w hT
end Go.Proofs.YtediadckcpedkaaDoor
