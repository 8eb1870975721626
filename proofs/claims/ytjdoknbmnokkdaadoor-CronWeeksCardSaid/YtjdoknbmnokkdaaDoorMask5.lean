/- Contracts of mask.Span and of the document's Of (layer 2). Contracts of bits.TrailingZeros64 over its table, of mask.Least and mask.Next (layer 2). Contracts of the document's List and Span (layer 2). How many bits a number has, byte by byte; the library's OnesCount64, mask.Len (layer 2). The library's OnesCount64 and mask.Len (layer 2). -/
import Derived.Test.YtjdoknbmnokkdaaDoorMaskA
import Derived.Lib.TrailingZeros
import Derived.Laws.Bits64b
import Derived.Test.YtjdoknbmnokkdaaDoorOwn
import Derived.Laws.Bits128
namespace Go.Proofs.YtjdoknbmnokkdaaDoor
open Go.RowKit
set_option linter.unusedVariables false

theorem bv_step (p : Nat → Bool) (n : Nat) (h : n < 64) : bv p n (64 - n) = (if p n = true then 1 else 0) + 2 * bv p (n + 1) (63 - n) := by
  rw [show 64 - n = 63 - n + 1 by omega]; rfl
theorem bv_small (p : Nat → Bool) (n : Nat) : bv p (n + 1) (63 - n) < 9223372036854775808 :=
  Nat.lt_of_lt_of_le (bv_lt p (63 - n) (n + 1)) (show 2 ^ (63 - n) ≤ 2 ^ 63 from Nat.pow_le_pow_right (by decide) (by omega))
/-- none of the first k is this number -/
def noneOf (zs : List Int) (k : Nat) (n : Int) : Prop := ∀ j, j < k → zs[j]?.getD 0 ≠ n
theorem noneOf_all {zs : List Int} {n : Nat} (h : noneOf zs zs.length n) : inL zs n = false := by
  unfold inL
  apply decide_eq_false
  intro hm
  obtain ⟨j, hj, e⟩ := List.getElem_of_mem hm
  exact h j hj (by rw [List.getElem?_eq_getElem hj]; exact e)
theorem in_of {zs : List Int} {k n : Nat} (hk : k < zs.length) (h : zs[k]?.getD 0 = (n : Int)) : inL zs n = true := by
  unfold inL
  apply decide_eq_true
  rw [List.getElem?_eq_getElem hk] at h
  rw [← show zs[k] = (n : Int) from h]
  exact List.getElem_mem hk
set_option maxHeartbeats 800000 in
theorem rof_any (A : Option Addr) (c : Nat) (zs : List Int) (w : World) (hl : zs.length ≤ 1000000) (hc : Ints .i64 w A zs) :
    Calls Tryd.prog 46 #[.slice A zs.length c] w fun e w' => e = .returned (.int .u64 (mk (inL zs) : Nat)) ∧ w = w' := by
  have HC := Lib.hid hc
  clear hc
  go_enter Tryd.func46, Tryd.ntmps46
  go_wp2
  go_loop [3, 4] (fun m i => ∃ n : Nat, n ≤ 64 ∧ i = .int .i64 ((n : Int) - 1) ∧ m = .int .u64 (bv (inL zs) n (64 - n) : Nat)) (fun _ i => (intOf i + 1).toNat)
  case atStart => exact ⟨64, Nat.le_refl _, rfl, rfl⟩
  case round =>
    obtain ⟨n', hn, rfl, rfl⟩ := hrel
    cases n' with
    | zero =>
      have HM := Lib.hid (mk_bv (inL zs)).symm
      go_wp2
      go_ret
      exact ⟨by rw [← HM.out]; rfl, rfl⟩
    | succ n =>
      rw [show ((n + 1 : Nat) : Int) - 1 = (n : Int) by omega]
      have hs := bv_small (inL zs) n
      have HB := Lib.hid (bv_step (inL zs) n (by omega))
      rw [show 64 - (n + 1) = 63 - n by omega]
      generalize hM : bv (inL zs) (n + 1) (63 - n) = M at hs HB ⊢
      have i0 : (M : Int) < 9223372036854775808 := by omega
      clear hM hs
      go_wp2
      go_loop [3, 5] (fun x i => ∃ k : Nat, k ≤ zs.length ∧ x = .int .u64 (2 * (M : Int)) ∧ i = .int .i64 k ∧ Hid (noneOf zs k n)) (fun _ i => zs.length - (intOf i).toNat)
      case atStart => exact ⟨0, Nat.zero_le _, rfl, rfl, Lib.hid (fun j hj => by omega)⟩
      case round =>
        obtain ⟨k, hk, rfl, rfl, HN⟩ := hrel
        by_cases hlt : k < zs.length
        · obtain ⟨b, off, rfl, hb, hcell⟩ := HC.out k hlt
          have d3 := dec_t hlt
          by_cases he : zs[k]?.getD 0 = (n : Int)
          · have HX := Lib.hid (show bv (inL zs) n (64 - n) = 2 * M + 1 by rw [HB.out, in_of hlt he]; simp; omega)
            rw [he] at hcell
            clear he
            go_wp2
            go_round
            case rel => exact ⟨n, by omega, rfl, by rw [HX.out]; go_num⟩
            case measure => simp [intOf]
          · have d4 : (zs[k]?.getD 0 == (n : Int)) = false := by rw [beq_eq_false_iff_ne]; exact he
            have HN2 := Lib.hid (show noneOf zs (k + 1) n from fun j hj => by
              by_cases e : j = k
              · subst e; exact he
              · exact HN.out j (by omega))
            generalize zs[k]?.getD 0 = z at hcell d4
            clear he
            go_wp2
            go_round
            case rel => exact ⟨k + 1, by omega, rfl, by go_num, HN2⟩
            case measure => simp [intOf]; omega
        · obtain rfl : k = zs.length := by omega
          have HX := Lib.hid (show bv (inL zs) n (64 - n) = 2 * M by rw [HB.out, noneOf_all HN.out]; simp)
          go_wp2
          go_round
          case rel => exact ⟨n, by omega, rfl, by rw [HX.out]; go_num⟩
          case measure => simp [intOf]
end Go.Proofs.YtjdoknbmnokkdaaDoor
namespace Go.Proofs.YtjdoknbmnokkdaaDoor
open Go.RowKit
set_option linter.unusedVariables false

/-- the library's table in its variable -/
def Tab (w : World) : Prop := ∀ j, j < 64 → w.cell? ⟨5, j, none⟩ = some (.int .u8 (Lib.deBruijn64tab.getD j 0 : Nat))
theorem Tab.below {w w' : World} (h : Tab w) (hb : Below w.heap.size w w') : Tab w' := by
  intro j hj
  have h1 := h j hj
  have hlt : 5 < w.heap.size := by
    rcases Nat.lt_or_ge 5 w.heap.size with h' | h'
    · exact h'
    · simp [World.cell?, Array.getElem?_eq_none h'] at h1
  rw [hb.cell (p := ⟨5, j, none⟩) hlt]
  exact h1
theorem Tab.quiet {w w' : World} (h : Tab w) (q : Quiet w w') : Tab w' := by obtain ⟨n, rfl⟩ := q; exact h
theorem Tab.lt {w : World} (h : Tab w) : 5 < w.heap.size := by
  have h1 := h 0 (by decide)
  rcases Nat.lt_or_ge 5 w.heap.size with h' | h'
  · exact h'
  · simp [World.cell?, Array.getElem?_eq_none h'] at h1
theorem tz_key (x a : Nat) (hx : x < 18446744073709551616) (hx0 : x ≠ 0) (hlow : x &&& (18446744073709551616 - x) = a) :
    IntKind.u64.wrap (bits BinOp.and IntKind.u64 (x : Int) (IntKind.u64.wrap (-(x : Int))) * 285870213051353865) / 288230376151711744 = ((a * 285870213051353865 % 18446744073709551616 / 288230376151711744 : Nat) : Int) := by
  have e1 : IntKind.u64.wrap (-(x : Int)) = ((18446744073709551616 - x : Nat) : Int) := by rw [IntKind.wrap_u64]; omega
  rw [e1, u64_and_nat x _ hx (by omega), hlow, IntKind.wrap_u64]
  omega
theorem tz_core (x k idx : Nat) (w : World) (hx0 : ((x : Int) == 0) = false)
    (key : IntKind.u64.wrap (bits BinOp.and IntKind.u64 (x : Int) (IntKind.u64.wrap (-(x : Int))) * 285870213051353865) / 288230376151711744 = (idx : Int))
    (hi : idx < 64) (hk : k < 64) (hcell : w.cell? ⟨5, idx, none⟩ = some (.int .u8 k)) :
    Calls Tryd.prog 193 #[.int .u64 x] w fun e w' => e = .returned (.int .i64 k) ∧ w = w' := by
  go_enter Tryd.func193, Tryd.ntmps193
  go_wp2_with (simp only [key])
  go_ret
  exact ⟨rfl, rfl⟩
/-- the least number of a mask -/
def lo (x : Nat) : Nat := Lib.ctz 64 x
theorem tz_any (x : Nat) (w : World) (hx : x < 18446744073709551616) (hx0 : x ≠ 0) (hT : Tab w) :
    Calls Tryd.prog 193 #[.int .u64 x] w fun e w' => e = .returned (.int .i64 (lo x)) ∧ w = w' := by
  obtain ⟨hlow, hk⟩ := Lib.lowest_bit 64 x hx0 hx
  obtain ⟨hi, htab⟩ := Lib.deBruijn64_at _ hk
  have hcell := hT _ hi
  rw [htab] at hcell
  exact tz_core x _ _ w (by rw [beq_eq_false_iff_ne]; omega) (tz_key x _ hx hx0 hlow) hi hk hcell
theorem lo_spec (x : Nat) (hx : x < 18446744073709551616) (hx0 : x ≠ 0) : lo x < 64 ∧ x.testBit (lo x) = true ∧ ∀ i, i < lo x → x.testBit i = false := by
  obtain ⟨m, hm, hk⟩ := Lib.ctzFrom_spec 64 x (by omega) hx
  have e : lo x = Lib.ctzFrom 64 x := by unfold lo Lib.ctz; rw [if_neg hx0]
  rw [e]
  generalize Lib.ctzFrom 64 x = k at hm hk
  refine ⟨hk, ?_, ?_⟩
  · rw [hm, Nat.mul_comm, Nat.testBit_mul_two_pow]
    simp [Nat.testBit_zero]
  · intro i hi
    rw [hm, Nat.mul_comm, Nat.testBit_mul_two_pow]
    rw [dec_n (show ¬ k ≤ i by omega)]; rfl
/-- what a mask tells as its least number -/
def leastV (x : Nat) : Value := if x = 0 then .tuple #[.int .i64 0, .bool false] else .tuple #[.int .i64 (lo x), .bool true]
/-- the numbers of a mask above another one -/
def above (m : Nat) (n : Int) : Nat := mk fun i => m.testBit i && decide (n < i)
theorem above_lt (m : Nat) (n : Int) : above m n < 18446744073709551616 := mk_lt _
theorem above_far (m : Nat) (n : Int) (h : 63 ≤ n) : above m n = 0 := by
  unfold above
  rw [mk_congr (q := fun _ => false) fun i hi => by rw [dec_n (by omega)]; simp]
  exact mk_none
theorem above_all (m : Nat) (n : Int) (hm : m < 18446744073709551616) (h : n < 0) : above m n = m := by
  unfold above
  rw [mk_congr (q := fun i => m.testBit i) fun i hi => by rw [dec_t (by omega)]; simp]
  exact mk_self m hm
theorem low_ones (n i : Nat) : (2 * 2 ^ n - 1).testBit i = decide (i ≤ n) := by
  rw [show 2 * 2 ^ n = 2 ^ (n + 1) by rw [Nat.pow_succ]; omega, Nat.testBit_two_pow_sub_one]
  by_cases h : i ≤ n
  · rw [dec_t h, dec_t (by omega)]
  · rw [dec_n h, dec_n (by omega)]
theorem clear_low (m n : Nat) (hm : m < 18446744073709551616) (hn : n < 63) :
    bits BinOp.andNot IntKind.u64 (m : Int) (IntKind.u64.wrap (IntKind.u64.wrap (2 * 2 ^ n) - 1)) = (above m n : Nat) := by
  have h2 : 2 * 2 ^ n < 18446744073709551616 := by
    have : 2 ^ (n + 1) < 2 ^ 64 := Nat.pow_lt_pow_right (by decide) (by omega)
    rw [Nat.pow_succ] at this
    omega
  have h1 : 0 < 2 ^ n := Nat.pow_pos (by decide)
  have e1 : IntKind.u64.wrap (IntKind.u64.wrap (2 * 2 ^ n) - 1) = ((2 * 2 ^ n - 1 : Nat) : Int) := by
    rw [IntKind.wrap_u64, IntKind.wrap_u64]
    rw [show (2 : Int) ^ n = ((2 ^ n : Nat) : Int) by push_cast; rfl]
    generalize (2 ^ n : Nat) = x at h2 h1 ⊢
    omega
  rw [e1, u64_andNot_nat m _ hm (by omega)]
  refine congrArg (fun x : Nat => (x : Int)) ?_
  unfold above
  refine mk_eq _ (Nat.lt_of_le_of_lt Nat.and_le_left hm) ?_
  · intro i hi
    rw [Nat.testBit_and]
    refine congrArg (fun b => m.testBit i && b) ?_
    rw [show 18446744073709551615 - (2 * 2 ^ n - 1) = 2 ^ 64 - ((2 * 2 ^ n - 1) + 1) by omega, Nat.testBit_two_pow_sub_succ (show 2 * 2 ^ n - 1 < 2 ^ 64 by omega), low_ones]
    rw [dec_t hi]
    by_cases h : i ≤ n
    · rw [dec_t h, dec_n (by omega)]; rfl
    · rw [dec_n h, dec_t (by omega)]; rfl
end Go.Proofs.YtjdoknbmnokkdaaDoor
namespace Go.Proofs.YtjdoknbmnokkdaaDoor
open Go.RowKit
set_option linter.unusedVariables false

def ListAt (m : Nat) (w : World) (v i : Value) (wr : World) : Prop := ∃ k : Nat, k ≤ 64 ∧ i = .int .i64 k ∧ OwnI wr w.heap.size v (numsP m.testBit k) ∧ Below w.heap.size w wr
end Go.Proofs.YtjdoknbmnokkdaaDoor
namespace Go.Proofs.YtjdoknbmnokkdaaDoor
open Go.RowKit
set_option linter.unusedVariables false

def s1 (a : Nat) : Nat := (a / 2 &&& 85) + (a &&& 85)
def s2 (a : Nat) : Nat := (a / 4 &&& 51) + (a &&& 51)
def s3 (a : Nat) : Nat := (a / 16 + a) &&& 15
def s12 (a : Nat) : Nat := s2 (s1 a)
def pc (a : Nat) : Nat := s3 (s12 a)
def comb (f : Nat → Nat) : Nat → Nat → Nat
  | 0, _ => 0
  | n + 1, x => f (x % 256) + 256 * comb f n (x / 256)
def rep (m : Nat) : Nat → Nat
  | 0 => 0
  | n + 1 => m + 256 * rep m n
theorem comb_succ (f : Nat → Nat) (n x : Nat) : comb f (n + 1) x = f (x % 256) + 256 * comb f n (x / 256) := rfl
theorem rep_succ (m n : Nat) : rep m (n + 1) = m + 256 * rep m n := rfl
theorem and_split (a c y d : Nat) (ha : a < 256) (hc : c < 256) : (a + 256 * y) &&& (c + 256 * d) = (a &&& c) + 256 * (y &&& d) := by
  have h : (a &&& c) < 2 ^ 8 := Nat.lt_of_le_of_lt Nat.and_le_left ha
  apply Nat.eq_of_testBit_eq
  intro i
  rw [Nat.testBit_and, show a + 256 * y = 2 ^ 8 * y + a by omega, show c + 256 * d = 2 ^ 8 * d + c by omega, show (a &&& c) + 256 * (y &&& d) = 2 ^ 8 * (y &&& d) + (a &&& c) by omega,
    Nat.testBit_two_pow_mul_add _ ha, Nat.testBit_two_pow_mul_add _ hc, Nat.testBit_two_pow_mul_add _ h]
  split
  · rw [Nat.testBit_and]
  · rw [Nat.testBit_and]
set_option maxRecDepth 100000 in
theorem key1 : ∀ a, a < 256 → ∀ r, r < 2 → (a / 2 + 128 * r) &&& 85 = a / 2 &&& 85 := by decide +kernel
set_option maxRecDepth 100000 in
theorem key2 : ∀ a, a < 256 → ∀ r, r < 4 → (a / 4 + 64 * r) &&& 51 = a / 4 &&& 51 := by decide +kernel
set_option maxRecDepth 100000 in
theorem key3 : ∀ a, a < 256 → ∀ r, r < 5 → s12 a / 16 + 16 * r + s12 a < 256 ∧ (s12 a / 16 + 16 * r + s12 a) &&& 15 = pc a := by decide +kernel
set_option maxRecDepth 100000 in
theorem key4 : ∀ a, a < 256 → s1 a ≤ 170 ∧ s12 a ≤ 68 ∧ s12 a % 16 ≤ 4 ∧ pc a ≤ 8 ∧ (numsP (fun i => a.testBit i) 8).length = pc a := by decide +kernel
theorem step1 : ∀ n x, (x / 2 &&& rep 85 n) + (x &&& rep 85 n) = comb s1 n x
  | 0, x => by simp [rep, comb]
  | n + 1, x => by
    have ih := step1 n (x / 256)
    have e1 : x / 2 = (x % 256 / 2 + 128 * (x / 256 % 2)) + 256 * (x / 256 / 2) := by omega
    have e2 : x = x % 256 + 256 * (x / 256) := by omega
    have h := key1 (x % 256) (by omega) (x / 256 % 2) (by omega)
    rw [rep_succ, comb_succ, ← ih, show s1 (x % 256) = (x % 256 / 2 &&& 85) + (x % 256 &&& 85) from rfl]
    clear ih
    generalize hy : x / 256 = y at *
    generalize ha : x % 256 = a at *
    rw [e1, and_split _ _ _ _ (by omega) (by omega), h]
    conv => lhs; rhs; rw [e2]
    rw [and_split _ _ _ _ (by omega) (by omega)]
    omega
theorem step2 : ∀ n x, (x / 4 &&& rep 51 n) + (x &&& rep 51 n) = comb s2 n x
  | 0, x => by simp [rep, comb]
  | n + 1, x => by
    have ih := step2 n (x / 256)
    have e1 : x / 4 = (x % 256 / 4 + 64 * (x / 256 % 4)) + 256 * (x / 256 / 4) := by omega
    have e2 : x = x % 256 + 256 * (x / 256) := by omega
    have h := key2 (x % 256) (by omega) (x / 256 % 4) (by omega)
    rw [rep_succ, comb_succ, ← ih, show s2 (x % 256) = (x % 256 / 4 &&& 51) + (x % 256 &&& 51) from rfl]
    clear ih
    generalize hy : x / 256 = y at *
    generalize ha : x % 256 = a at *
    rw [e1, and_split _ _ _ _ (by omega) (by omega), h]
    conv => lhs; rhs; rw [e2]
    rw [and_split _ _ _ _ (by omega) (by omega)]
    omega
theorem comb_comb (f g : Nat → Nat) (hf : ∀ a, a < 256 → f a < 256) : ∀ n x, comb g n (comb f n x) = comb (fun a => g (f a)) n x
  | 0, x => rfl
  | n + 1, x => by
    have h := hf (x % 256) (by omega)
    have ih := comb_comb f g hf n (x / 256)
    rw [comb_succ, comb_succ f, comb_succ]
    generalize comb f n (x / 256) = t at ih ⊢
    rw [show (f (x % 256) + 256 * t) % 256 = f (x % 256) by omega, show (f (x % 256) + 256 * t) / 256 = t by omega, ih]
theorem comb_le (f : Nat → Nat) (M : Nat) (hf : ∀ a, a < 256 → f a ≤ M) : ∀ n x, comb f n x ≤ M * rep 1 n
  | 0, x => Nat.zero_le _
  | n + 1, x => by
    have h := hf (x % 256) (by omega)
    have ih := comb_le f M hf n (x / 256)
    rw [comb_succ, rep_succ]
    rw [Nat.mul_add, Nat.mul_one, Nat.mul_left_comm]
    omega
theorem comb_low (n x : Nat) : comb s12 n x % 16 ≤ 4 := by
  cases n with
  | zero => simp [comb]
  | succ n =>
    have h := (key4 (x % 256) (by omega)).2.2.1
    unfold comb
    omega
theorem step3 : ∀ n x, (comb s12 n x / 16 + comb s12 n x) &&& rep 15 n = comb pc n x
  | 0, x => by simp [rep, comb]
  | n + 1, x => by
    have ih := step3 n (x / 256)
    have hl := comb_low n (x / 256)
    have hk := key4 (x % 256) (by omega)
    obtain ⟨h1, h2⟩ := key3 (x % 256) (by omega) (comb s12 n (x / 256) % 16) (by omega)
    rw [rep_succ, comb_succ, comb_succ pc, ← ih, ← h2]
    generalize comb s12 n (x / 256) = t at *
    generalize s12 (x % 256) = a at *
    rw [show (a + 256 * t) / 16 + (a + 256 * t) = (a / 16 + 16 * (t % 16) + a) + 256 * (t / 16 + t) by omega, and_split _ _ _ _ (by omega) (by omega)]
theorem numsP_congr {p q : Nat → Bool} (k : Nat) (h : ∀ i, i < k → p i = q i) : numsP p k = numsP q k := by
  unfold numsP
  rw [List.filter_congr fun i hi => h i (List.mem_range.1 hi)]
theorem numsP_add (p : Nat → Bool) (a n : Nat) : (numsP p (a + n)).length = (numsP p a).length + (numsP (fun i => p (a + i)) n).length := by
  induction n with
  | zero => rfl
  | succ n ih =>
    rw [← Nat.add_assoc]
    cases h : p (a + n)
    · rw [numsP_no p (a + n) h, numsP_no (fun i => p (a + i)) n h, ih]
    · rw [numsP_yes p (a + n) h, numsP_yes (fun i => p (a + i)) n h, List.length_append, List.length_append, ih]
      simp; omega
/-- the bytes' counts together -/
def sumB : Nat → Nat → Nat
  | 0, _ => 0
  | n + 1, x => pc (x % 256) + sumB n (x / 256)
theorem count_bytes : ∀ n x, (numsP (fun i => x.testBit i) (8 * n)).length = sumB n x
  | 0, x => rfl
  | n + 1, x => by
    have ih := count_bytes n (x / 256)
    have hk := (key4 (x % 256) (by omega)).2.2.2.2
    rw [show 8 * (n + 1) = 8 + 8 * n by omega, numsP_add]
    unfold sumB
    rw [← ih, ← hk]
    congr 1
    · refine congrArg List.length (numsP_congr 8 fun i hi => ?_)
      rw [show 256 = 2 ^ 8 from rfl, Nat.testBit_mod_two_pow]
      simp [hi]
    · refine congrArg List.length (numsP_congr _ fun i hi => ?_)
      rw [show 256 = 2 ^ 8 from rfl, Nat.testBit_div_two_pow, Nat.add_comm]
theorem div1 (a b x : Nat) (h : a < 256) (e : x = a + 256 * b) : x / 256 = b := by
  rw [e, Nat.add_mul_div_left _ _ (by decide), Nat.div_eq_of_lt h, Nat.zero_add]
theorem div2 (a b x : Nat) (h : a < 65536) (e : x = a + 65536 * b) : x / 65536 = b := by
  rw [e, Nat.add_mul_div_left _ _ (by decide), Nat.div_eq_of_lt h, Nat.zero_add]
theorem div3 (a b x : Nat) (h : a < 4294967296) (e : x = a + 4294967296 * b) : x / 4294967296 = b := by
  rw [e, Nat.add_mul_div_left _ _ (by decide), Nat.div_eq_of_lt h, Nat.zero_add]
theorem fold1 (c0 c1 c2 r1 r2 r3 : Nat) (q1 : r1 = c1 + 256 * r2) (q2 : r2 = c2 + 256 * r3) : c0 + 256 * r1 + r1 = ((c0 + c1) + 256 * (c1 + c2)) + 65536 * (r2 + r3) := by
  subst q2; subst q1; omega
theorem fold2 (c2 c3 c4 r2 r3 r4 r5 : Nat) (q2 : r2 = c2 + 256 * r3) (q3 : r3 = c3 + 256 * r4) (q4 : r4 = c4 + 256 * r5) : r2 + r3 = ((c2 + c3) + 256 * (c3 + c4)) + 65536 * (r4 + r5) := by
  subst q4; subst q3; subst q2; omega
theorem fold3 (p0 p2 p4 u v w t : Nat) (a : u = p2 + 65536 * v) (b : v = p4 + 65536 * w) : p0 + 65536 * u + u = (p0 + p2 + 65536 * (p2 + p4)) + 4294967296 * (v + w) := by
  subst b; subst a; omega
theorem fold4 (c0 c1 c2 c3 c4 c5 c6 c7 k v : Nat) (h : c0 + (c1 + (c2 + (c3 + (c4 + (c5 + (c6 + c7)))))) < 128) (z : k = 2 * (c1 + c2) + 2 * (c3 + c4) + 512 * v) : (((c0 + c1) + 256 * (c1 + c2)) + ((c2 + c3) + 256 * (c3 + c4)) + 65536 * v) % 128 = (c0 + c1 + (c2 + c3)) % 128 := by
  omega
theorem fold5 (c0 c1 c2 c3 c4 c5 c6 c7 w : Nat) (hb : w = c6 + c7 + 256 * c7) (h : c0 + (c1 + (c2 + (c3 + (c4 + (c5 + (c6 + c7)))))) < 128) (A V : Nat) (ha : A % 128 = (c0 + c1 + (c2 + c3)) % 128) (hv : V = ((c4 + c5) + 256 * (c5 + c6)) + 65536 * w) :
    (A + 4294967296 * (V + w) + (V + w)) % 128 = c0 + (c1 + (c2 + (c3 + (c4 + (c5 + (c6 + c7)))))) := by
  subst hb; subst hv; omega
end Go.Proofs.YtjdoknbmnokkdaaDoor
namespace Go.Proofs.YtjdoknbmnokkdaaDoor
open Go.RowKit
set_option linter.unusedVariables false

theorem bnd5 (A V w : Nat) (h1 : A ≤ 600000000) (h2 : V ≤ 140000000) (h3 : w ≤ 2064) : A + 4294967296 * (V + w) + (V + w) < 9223372036854775808 := by omega
theorem bndA (c0 c1 c2 c3 c4 c5 c6 : Nat) (h0 : c0 ≤ 8) (h1 : c1 ≤ 8) (h2 : c2 ≤ 8) (h3 : c3 ≤ 8) (h4 : c4 ≤ 8) (h5 : c5 ≤ 8) (h6 : c6 ≤ 8) :
    ((c0 + c1) + 256 * (c1 + c2)) + ((c2 + c3) + 256 * (c3 + c4)) + 65536 * (((c2 + c3) + 256 * (c3 + c4)) + ((c4 + c5) + 256 * (c5 + c6))) ≤ 600000000 := by omega
theorem bnd2 (c0 c1 c2 : Nat) (h0 : c0 ≤ 8) (h1 : c1 ≤ 8) (h2 : c2 ≤ 8) : (c0 + c1) + 256 * (c1 + c2) < 65536 := by omega
theorem hwL (c6 c7 r6 : Nat) (h6 : c6 ≤ 8) (h7 : c7 ≤ 8) (q6 : r6 = c6 + 256 * c7) : r6 + c7 = c6 + c7 + 256 * c7 ∧ r6 + c7 ≤ 2064 := by omega
theorem hvL (c4 c5 c6 v w : Nat) (h4 : c4 ≤ 8) (h5 : c5 ≤ 8) (h6 : c6 ≤ 8) (hw : w ≤ 2064) (e : v = ((c4 + c5) + 256 * (c5 + c6)) + 65536 * w) : v ≤ 140000000 := by omega
theorem hsL (c0 c1 c2 c3 c4 c5 c6 c7 : Nat) (h0 : c0 ≤ 8) (h1 : c1 ≤ 8) (h2 : c2 ≤ 8) (h3 : c3 ≤ 8) (h4 : c4 ≤ 8) (h5 : c5 ≤ 8) (h6 : c6 ≤ 8) (h7 : c7 ≤ 8) : c0 + (c1 + (c2 + (c3 + (c4 + (c5 + (c6 + c7)))))) < 128 := by omega
theorem fold_all (c0 c1 c2 c3 c4 c5 c6 c7 r1 r2 r3 r4 r5 r6 x4 x5 x6 : Nat) (h0 : c0 ≤ 8) (h1 : c1 ≤ 8) (h2 : c2 ≤ 8) (h3 : c3 ≤ 8) (h4 : c4 ≤ 8) (h5 : c5 ≤ 8) (h6 : c6 ≤ 8) (h7 : c7 ≤ 8)
    (q6 : r6 = c6 + 256 * c7) (q5 : r5 = c5 + 256 * r6) (q4 : r4 = c4 + 256 * r5) (q3 : r3 = c3 + 256 * r4) (q2 : r2 = c2 + 256 * r3) (q1 : r1 = c1 + 256 * r2)
    (e4 : x4 = (c0 + 256 * r1) + (c0 + 256 * r1) / 256) (e5 : x5 = x4 + x4 / 65536) (e6 : x6 = x5 + x5 / 4294967296) :
    x4 < 9223372036854775808 ∧ x5 < 9223372036854775808 ∧ x6 < 9223372036854775808 ∧ x6 % 128 = c0 + (c1 + (c2 + (c3 + (c4 + (c5 + (c6 + c7)))))) := by
  rw [div1 c0 r1 _ (Nat.lt_of_le_of_lt h0 (by decide)) rfl, fold1 c0 c1 c2 r1 r2 r3 q1 q2] at e4
  rw [div2 _ (r2 + r3) x4 (bnd2 c0 c1 c2 h0 h1 h2) e4] at e5
  have g2 := fold2 c2 c3 c4 r2 r3 r4 r5 q2 q3 q4
  have g4 := fold2 c4 c5 c6 r4 r5 r6 c7 q4 q5 q6
  rw [e4, fold3 _ _ _ _ _ _ 0 g2 g4] at e5
  obtain ⟨hw, hw2⟩ := hwL c6 c7 r6 h6 h7 q6
  have hv2 : r4 + r5 ≤ 140000000 := hvL c4 c5 c6 _ _ h4 h5 h6 hw2 g4
  have hA := bndA c0 c1 c2 c3 c4 c5 c6 h0 h1 h2 h3 h4 h5 h6
  rw [div3 _ (r4 + r5 + (r6 + c7)) x5 (Nat.lt_of_le_of_lt hA (by decide)) e5] at e6
  have hs : c0 + (c1 + (c2 + (c3 + (c4 + (c5 + (c6 + c7)))))) < 128 := hsL _ _ _ _ _ _ _ _ h0 h1 h2 h3 h4 h5 h6 h7
  have hA4 := fold4 c0 c1 c2 c3 c4 c5 c6 c7 _ (((c2 + c3) + 256 * (c3 + c4)) + ((c4 + c5) + 256 * (c5 + c6))) hs rfl
  have h5' := fold5 c0 c1 c2 c3 c4 c5 c6 c7 (r6 + c7) hw hs _ (r4 + r5) hA4 g4
  have hb := bnd5 _ _ _ hA hv2 hw2
  rw [← e5, ← e6] at hb
  rw [← e5, ← e6] at h5'
  have l1 : x5 ≤ x6 := by rw [e6]; exact Nat.le_add_right _ _
  have l2 : x4 ≤ x5 := by
    rw [e5, ← fold3 _ _ _ _ _ _ 0 g2 g4, ← e4]; exact Nat.le_add_right _ _
  exact ⟨Nat.lt_of_le_of_lt (Nat.le_trans l2 l1) hb, Nat.lt_of_le_of_lt l1 hb, hb, h5'⟩
theorem pc_le (x : Nat) : pc (x % 256) ≤ 8 := (key4 (x % 256) (Nat.mod_lt _ (by decide))).2.2.2.1
theorem last_sum (m x4 x5 x6 : Nat) (e4 : x4 = comb pc 8 m + comb pc 8 m / 256) (e5 : x5 = x4 + x4 / 65536) (e6 : x6 = x5 + x5 / 4294967296) :
    x4 < 9223372036854775808 ∧ x5 < 9223372036854775808 ∧ x6 < 9223372036854775808 ∧ x6 % 128 = sumB 8 m := by
  have hs : sumB 8 m = pc (m % 256) + (pc (m / 256 % 256) + (pc (m / 256 / 256 % 256) + (pc (m / 256 / 256 / 256 % 256) + (pc (m / 256 / 256 / 256 / 256 % 256) + (pc (m / 256 / 256 / 256 / 256 / 256 % 256) + (pc (m / 256 / 256 / 256 / 256 / 256 / 256 % 256) + pc (m / 256 / 256 / 256 / 256 / 256 / 256 / 256 % 256))))))) := rfl
  rw [hs]
  rw [comb_succ pc 7] at e4
  exact fold_all _ _ _ _ _ _ _ _ (comb pc 7 (m / 256)) (comb pc 6 (m / 256 / 256)) (comb pc 5 (m / 256 / 256 / 256)) (comb pc 4 (m / 256 / 256 / 256 / 256)) (comb pc 3 (m / 256 / 256 / 256 / 256 / 256)) (comb pc 2 (m / 256 / 256 / 256 / 256 / 256 / 256)) x4 x5 x6
    (pc_le _) (pc_le _) (pc_le _) (pc_le _) (pc_le _) (pc_le _) (pc_le _) (pc_le _) rfl rfl rfl rfl rfl rfl e4 e5 e6
theorem wrapN (x : Nat) (h : x < 18446744073709551616) : IntKind.u64.wrap ((x : Nat) : Int) = (x : Int) := by rw [IntKind.wrap_u64]; omega
theorem wrapA (x y : Nat) (h : x + y < 18446744073709551616) : IntKind.u64.wrap ((x : Int) + (y : Int)) = ((x + y : Nat) : Int) := by rw [IntKind.wrap_u64]; omega
theorem divN (x d : Nat) : (x : Int) / (d : Int) = ((x / d : Nat) : Int) := (Int.natCast_ediv x d).symm
theorem rep1_8 : rep 1 8 = 72340172838076673 := by decide
end Go.Proofs.YtjdoknbmnokkdaaDoor
