/- What numbers items have: item.numbers, and blocks of ten thousand truths (layer 12). -/
import Derived.Test.YtjdoknbmnokkdaaDoorItmC
import Derived.Test.YtjdoknbmnokkdaaDoorWdP
import Derived.Test.YtjdoknbmnokkdaaDoorMaskE
import Derived.Deep.WholeRow
import Derived.BigQuiet
namespace Go.Proofs.YtjdoknbmnokkdaaDoor
open Go.RowKit
set_option linter.unusedVariables false

/-- so many untruths? -/
def allF : List Value → Nat → Bool
  | [], 0 => true
  | .bool false :: l, k + 1 => allF l k
  | _, _ => false
theorem allF_eq : ∀ (l : List Value) (n : Nat), allF l n = true → l = List.replicate n (.bool false)
  | [], 0, _ => rfl
  | .bool false :: l, k + 1, h => by
    unfold allF at h
    rw [List.replicate_succ, allF_eq l k h]
def zl (i : TypeInfo) : List Value := match i.zero with | some (.agg ⟨l⟩) => l | _ => []
/-- thousand by thousand: the kernel does not go ten thousand deep -/
def chk : Nat → List Value → Bool
  | 0, l => l.isEmpty
  | k + 1, l => allF (l.take 1000) 1000 && chk k (l.drop 1000)
theorem chk_eq : ∀ (k : Nat) (l : List Value), chk k l = true → l = List.replicate (1000 * k) (.bool false)
  | 0, l, h => by
    unfold chk at h
    rw [List.isEmpty_iff] at h
    rw [h]; rfl
  | k + 1, l, h => by
    unfold chk at h
    rw [Bool.and_eq_true] at h
    have e1 := allF_eq _ _ h.1
    have e2 := chk_eq k _ h.2
    rw [← List.take_append_drop 1000 l, e1, e2, List.replicate_append_replicate]
    exact congrArg (fun n => List.replicate n (Value.bool false)) (by omega)
theorem info10f : (Tryd.prog.info? 158).map (fun i => (i.size, chk 10 (zl i))) = some (10000, true) := by kernel_rfl
theorem info10k : (Tryd.prog.info? 158).map (fun i => (i.zero, i.size)) = some (some (.agg (Array.replicate 10000 (.bool false))), 10000) := by
  have h := info10f
  cases hi : Tryd.prog.info? 158 with
  | none => rw [hi] at h; cases h
  | some i =>
    rw [hi] at h
    simp only [Option.map_some, Option.some.injEq, Prod.mk.injEq] at h ⊢
    obtain ⟨h2, h1⟩ := h
    refine ⟨?_, h2⟩
    have e := chk_eq 10 _ h1
    unfold zl at e
    split at e
    · rename_i l hz
      rw [hz, e]
      exact congrArg (fun x => some (Value.agg x)) (Array.ext' (by rw [Array.toList_replicate]))
    · exact absurd (congrArg List.length e) (by rw [List.length_replicate]; exact Nat.noConfusion)
/-- a block of ten thousand truths -/
def Bt (w : World) (b : Nat) (f : Nat → Bool) : Prop := ∃ cs, w.heap[b]? = some (.cells cs 158 (0, 0)) ∧ cs.size = 10000 ∧ ∀ j, j < 10000 → cs[j]? = some (.bool (f j))
theorem Bt.cell {w : World} {b : Nat} {f : Nat → Bool} (h : Bt w b f) (k : Nat) (hk : k < 10000) : w.cell? ⟨b, k, none⟩ = some (.bool (f k)) := by
  obtain ⟨cs, h1, h2, h3⟩ := h
  rw [blk_cell h1 k, h3 k hk]
theorem Bt.lt {w : World} {b : Nat} {f : Nat → Bool} (h : Bt w b f) : b < w.heap.size := by
  obtain ⟨cs, h1, h2, h3⟩ := h
  exact lt_of_block h1
theorem Bt.free {w : World} {b : Nat} {f : Nat → Bool} (h : Bt w b f) (k : Nat) : w.frozen? ⟨b, k, none⟩ = false := by
  obtain ⟨cs, h1, h2, h3⟩ := h
  exact blk_free h1 k
theorem Bt.congr {w : World} {b : Nat} {f g : Nat → Bool} (h : Bt w b f) (e : ∀ j, j < 10000 → f j = g j) : Bt w b g := by
  obtain ⟨cs, h1, h2, h3⟩ := h
  exact ⟨cs, h1, h2, fun j hj => by rw [h3 j hj, e j hj]⟩
theorem Bt.put {w : World} {b : Nat} {f : Nat → Bool} (h : Bt w b f) (k : Nat) (hk : k < 10000) (x : Bool) : Bt (w.setCell ⟨b, k, none⟩ (.bool x)) b (fun j => if j = k then x else f j) := by
  obtain ⟨cs, h1, h2, h3⟩ := h
  refine ⟨_, blk_put h1 k (.bool x), by simp [h2], fun j hj => ?_⟩
  by_cases e : j = k
  · subst e
    rw [Array.getElem?_setIfInBounds_self_of_lt (by omega)]; simp
  · rw [Array.getElem?_setIfInBounds_ne (fun q => e q.symm), h3 j hj]; simp [e]
theorem Bt.below {w w' : World} {b : Nat} {f : Nat → Bool} (h : Bt w b f) (hb : Below w.heap.size w w') : Bt w' b f := by
  obtain ⟨cs, h1, h2, h3⟩ := h
  exact ⟨cs, (hb.block _ (lt_of_block h1)).trans h1, h2, h3⟩
theorem Bt.alloc {w : World} {b : Nat} {f : Nat → Bool} (h : Bt w b f) (o : Obj) : Bt (w.alloc o) b f := by
  obtain ⟨cs, h1, h2, h3⟩ := h
  exact ⟨cs, blk_more h1 o, h2, h3⟩
theorem Bt.new (w : World) : Bt (w.alloc (.cells (Array.replicate 10000 (.bool false)) 158)) w.heap.size (fun _ => false) := ⟨_, blk_new w _, Array.size_replicate, fun j hj => by rw [Array.getElem?_replicate, if_pos hj]⟩
/-- the first and the last number of an item that may be, and how far apart they are -/
def nb (lo hi : Int) (q : Q4) : Int × Int × Int := if q.1 = 0 then (lo, hi, q.2.2.2) else if q.1 = 1 then (q.2.1, q.2.1, 1) else if q.1 = 2 then (q.2.1, q.2.2.1, q.2.2.2) else (q.2.1, hi, q.2.2.2)
theorem nb_bd (lo hi : Int) (q : Q4) (h : mayB lo hi q = true) : lo ≤ (nb lo hi q).1 ∧ (nb lo hi q).1 ≤ (nb lo hi q).2.1 ∧ (nb lo hi q).2.1 ≤ hi ∧ 1 ≤ (nb lo hi q).2.2 ∧ (nb lo hi q).2.2 ≤ 999 := by
  unfold mayB at h
  rw [decide_eq_true_eq] at h
  obtain ⟨⟨h1, h2, h3⟩, h⟩ := h
  unfold nb
  rcases h with h | h | h | h
  · rw [if_pos h.1]; simp only; omega
  · rw [if_neg (by omega), if_pos h.1]; simp only; omega
  · rw [if_neg (by omega), if_neg (by omega), if_pos h.1]; simp only; omega
  · rw [if_neg (by omega), if_neg (by omega), if_neg (by omega)]; simp only; omega
def hitN (f l st : Int) (j : Nat) : Bool := decide (f ≤ (j : Int) ∧ (j : Int) ≤ l ∧ ((j : Int) - f) % st = 0)
def hitQ (lo hi : Int) (q : Q4) (j : Nat) : Bool := mayB lo hi q && hitN (nb lo hi q).1 (nb lo hi q).2.1 (nb lo hi q).2.2 j
/-- the numbers of items -/
def valsP (lo hi : Int) (qs : List Q4) (j : Nat) : Bool := decide (lo ≤ (j : Int)) && qs.any fun q => hitQ lo hi q j
def valsL (lo hi : Int) (qs : List Q4) : List Int := if fieldB lo hi = true then numsP (valsP lo hi qs) (hi.toNat + 1) else []
/-- how far the walk over one item has got -/
def upTo (f st n : Int) (j : Nat) : Bool := decide (f ≤ (j : Int) ∧ (j : Int) < n ∧ ((j : Int) - f) % st = 0)
theorem upTo_none (f st : Int) (j : Nat) : upTo f st f j = false := decide_eq_false (by omega)
theorem same_res {f st n j : Int} (hst : 1 ≤ st) (h1 : (n - f) % st = 0) (h2 : (j - f) % st = 0) (h3 : n - st < j) (h4 : j < n + st) : j = n := by
  have d1 := Int.dvd_of_emod_eq_zero h1
  have d2 := Int.dvd_of_emod_eq_zero h2
  have d3 : st ∣ (j - n) := by
    have := Int.dvd_sub d2 d1
    rwa [show j - f - (n - f) = j - n by omega] at this
  by_cases h : 0 ≤ j - n
  · have e := Int.emod_eq_of_lt h (show j - n < st by omega)
    rw [Int.emod_eq_zero_of_dvd d3] at e
    omega
  · have d4 : st ∣ (n - j) := by
      have := Int.dvd_neg.2 d3
      rwa [show -(j - n) = n - j by omega] at this
    have e := Int.emod_eq_of_lt (show 0 ≤ n - j by omega) (show n - j < st by omega)
    rw [Int.emod_eq_zero_of_dvd d4] at e
    omega
theorem upTo_step (f st : Int) (n j : Nat) (hst : 1 ≤ st) (hf : f ≤ n) (hn : ((n : Int) - f) % st = 0) : upTo f st ((n : Int) + st) j = (decide (j = n) || upTo f st n j) := by
  rw [Bool.eq_iff_iff, Bool.or_eq_true]
  unfold upTo
  rw [decide_eq_true_eq, decide_eq_true_eq, decide_eq_true_eq]
  constructor
  · rintro ⟨h1, h2, h3⟩
    by_cases h : (j : Int) < n
    · exact .inr ⟨h1, h, h3⟩
    · left
      have := same_res hst hn h3 (by omega) h2
      omega
  · rintro (h | ⟨h1, h2, h3⟩)
    · subst h; exact ⟨hf, by omega, hn⟩
    · exact ⟨h1, by omega, h3⟩
theorem upTo_end (f l st n : Int) (j : Nat) (hst : 1 ≤ st) (hn : (n - f) % st = 0) (hl : l < n) (hs : n = f ∨ n - st ≤ l) : upTo f st n j = hitN f l st j := by
  rw [Bool.eq_iff_iff]
  unfold upTo hitN
  rw [decide_eq_true_eq, decide_eq_true_eq]
  constructor
  · rintro ⟨h1, h2, h3⟩
    refine ⟨h1, ?_, h3⟩
    rcases hs with h | h
    · omega
    · by_cases h' : (j : Int) ≤ l
      · exact h'
      · have := same_res hst hn h3 (by omega) (by omega)
        omega
  · rintro ⟨h1, h2, h3⟩
    exact ⟨h1, by omega, h3⟩
set_option maxHeartbeats 800000 in
set_option maxRecDepth 20000 in
theorem numbers_any (q : Q4) (lo hi : Int) (w : World) : Calls Tryd.prog 159 #[qv q, .int .i64 lo, .int .i64 hi] w fun e w' => e = .returned (.tuple #[.int .i64 (nb lo hi q).1, .int .i64 (nb lo hi q).2.1, .int .i64 (nb lo hi q).2.2]) ∧ Below w.heap.size w w' := by
  obtain ⟨a, b, c, d⟩ := q
  have HB0 := Lib.hid (show Below w.heap.size w (w.alloc (.cells #[.int .i64 a, .int .i64 b, .int .i64 c, .int .i64 d] 32)) from (Below.refl _ _).alloc (Nat.le_refl _) _)
  have hx := blk_new w (.cells #[.int .i64 a, .int .i64 b, .int .i64 c, .int .i64 d] 32)
  have x0 := blk_cell hx 0
  have x1 := blk_cell hx 1
  have x2 := blk_cell hx 2
  have x3 := blk_cell hx 3
  unfold qv nb
  simp only
  generalize hW0 : w.alloc (.cells #[.int .i64 a, .int .i64 b, .int .i64 c, .int .i64 d] 32) = W0 at *
  clear hx
  by_cases h0 : a = 0
  · rw [if_pos h0]
    have e0 : (a == 0) = true := by rw [beq_iff_eq]; exact h0
    clear h0
    go_enter Tryd.func159, Tryd.ntmps159
    go_wp2
    go_quiet (fail)
    go_wp2
    go_ret3
    exact ⟨rfl, Below.but HB0.out ((But.refl (fun _ => False) W0).drewN _) (fun _ _ h => h)⟩
  · rw [if_neg h0]
    have e0 : (a == 0) = false := by rw [beq_eq_false_iff_ne]; exact h0
    by_cases h1 : a = 1
    · rw [if_pos h1]
      have e1 : (a == 1) = true := by rw [beq_iff_eq]; exact h1
      clear h0 h1
      go_enter Tryd.func159, Tryd.ntmps159
      go_wp2
      go_quiet (fail)
      go_wp2
      go_ret3
      exact ⟨rfl, Below.but HB0.out ((But.refl (fun _ => False) W0).drewN _) (fun _ _ h => h)⟩
    · rw [if_neg h1]
      have e1 : (a == 1) = false := by rw [beq_eq_false_iff_ne]; exact h1
      by_cases h2 : a = 2
      · rw [if_pos h2]
        have e2 : (a == 2) = true := by rw [beq_iff_eq]; exact h2
        clear h0 h1 h2
        go_enter Tryd.func159, Tryd.ntmps159
        go_wp2
        go_quiet (fail)
        go_wp2
        go_ret3
        exact ⟨rfl, Below.but HB0.out ((But.refl (fun _ => False) W0).drewN _) (fun _ _ h => h)⟩
      · rw [if_neg h2]
        have e2 : (a == 2) = false := by rw [beq_eq_false_iff_ne]; exact h2
        clear h0 h1 h2
        go_enter Tryd.func159, Tryd.ntmps159
        go_wp2
        go_quiet (fail)
        go_wp2
        go_ret3
        exact ⟨rfl, Below.but HB0.out ((But.refl (fun _ => False) W0).drewN _) (fun _ _ h => h)⟩
end Go.Proofs.YtjdoknbmnokkdaaDoor
