/- Seconds of masks as lists of lists; the function of TodAll (layer 7). -/
import Derived.Test.YtjpdfbljhbgbcaaDoorTodP
import Derived.Test.YtjpdfbljhbgbcaaDoorWdM
namespace Go.Proofs.YtjpdfbljhbgbcaaDoor
open Go.RowKit
set_option linter.unusedVariables false

/-- a second, of whatever parts -/
def jW (h m s : Int) : Int := wrap64 (wrap64 (wrap64 (3600 * h) + wrap64 (60 * m)) + s)
theorem jW_in {h m s : Int} (i : IsTod h m s) : jW h m s = 3600 * h + 60 * m + s := by
  obtain ⟨h1, h2, h3, h4, h5, h6⟩ := i
  unfold jW
  rw [IntWalk.wrap64_in (3600 * h) ⟨by omega, by omega⟩, IntWalk.wrap64_in (60 * m) ⟨by omega, by omega⟩, IntWalk.wrap64_in (3600 * h + 60 * m) ⟨by omega, by omega⟩, IntWalk.wrap64_in _ ⟨by omega, by omega⟩]
theorem join_gen (h m s : Int) (w : World) : Calls Tryd.prog 37 #[.int .i64 h, .int .i64 m, .int .i64 s] w fun e w' => e = .returned (.int .i64 (jW h m s)) ∧ w = w' := by
  go_enter Tryd.func37, Tryd.ntmps37
  go_wp2
  go_ret
  exact ⟨rfl, rfl⟩
theorem block_list (p q : Nat → Bool) (n : Nat) (g : Nat → List Int) (h : ∀ k, numsP (fun i => p (n * k + i)) n = if q k = true then g k else []) : ∀ K, numsP p (n * K) = (numsP q K).flatMap fun x => (g x.toNat).map fun y => (n : Int) * x + y
  | 0 => by simp [numsP]
  | K + 1 => by
    rw [Nat.mul_succ, numsP_app, h K, block_list p q n g h K]
    cases hq : q K
    · rw [numsP_no q K hq]; simp
    · rw [numsP_yes q K hq, List.flatMap_append]; simp
theorem nums_false (n : Nat) : numsP (fun _ => false) n = [] := by
  rw [List.eq_nil_iff_forall_not_mem]
  intro z hz
  obtain ⟨i, _, hp, _⟩ := mem_numsP.1 hz
  cases hp
/-- all seconds, by hours and minutes -/
def mins (B C : List Int) (h : Int) : List Int := B.flatMap fun m => C.map (jW h m)
def hours (A B C : List Int) : List Int := A.flatMap (mins B C)
theorem flat_congr {xs : List Int} {f g : Int → List Int} (h : ∀ x ∈ xs, f x = g x) : xs.flatMap f = xs.flatMap g := by
  induction xs with
  | nil => rfl
  | cons x xs ih =>
    simp only [List.flatMap_cons]
    rw [h x (by simp), ih fun y hy => h y (by simp [hy])]
theorem far_nums {p : Nat → Bool} {n : Nat} (hn : n ≤ 64) (h : ∀ i, p i = true → i < n) : numsP p 64 = numsP p n := numsP_skip p n 64 hn fun i h1 _ => by
  cases e : p i
  · rfl
  · have := h i e; omega
theorem hours_eq (a b c : Nat → Bool) (ha : ∀ i, a i = true → i < 24) (hb : ∀ i, b i = true → i < 60) (hc : ∀ i, c i = true → i < 60) : hours (numsP a 64) (numsP b 64) (numsP c 64) = numsP (pT a b c) 86400 := by
  rw [far_nums (by omega) ha, far_nums (by omega) hb, far_nums (by omega) hc]
  have e1 : numsP (fun i => b (i / 60) && c (i % 60)) 3600 = (numsP b 60).flatMap fun m => (numsP c 60).map fun s => (60 : Int) * m + s := by
    have q := block_list (fun i => b (i / 60) && c (i % 60)) b 60 (fun _ => numsP c 60) (fun k => by
      rw [numsP_congr (q := fun i => b k && c i) 60 fun i hi => by
        show (b ((60 * k + i) / 60) && c ((60 * k + i) % 60)) = _
        rw [show (60 * k + i) / 60 = k by omega, show (60 * k + i) % 60 = i by omega]]
      cases b k
      · simp [nums_false]
      · simp) 60
    exact q
  have e2 := block_list (pT a b c) a 3600 (fun _ => numsP (fun i => b (i / 60) && c (i % 60)) 3600) (fun k => by
    rw [numsP_congr (q := fun i => a k && (b (i / 60) && c (i % 60))) 3600 fun i hi => by
      show (a ((3600 * k + i) / 3600) && (b ((3600 * k + i) / 60 % 60) && c ((3600 * k + i) % 60))) = _
      rw [show (3600 * k + i) / 3600 = k by omega, show (3600 * k + i) / 60 % 60 = i / 60 by omega, show (3600 * k + i) % 60 = i % 60 by omega]]
    cases a k
    · simp [nums_false]
    · simp) 24
  rw [show (86400 : Nat) = 3600 * 24 by decide, e2, e1]
  unfold hours mins
  refine flat_congr fun h hh => ?_
  obtain ⟨i, hi, _, rfl⟩ := mem_numsP.1 hh
  rw [List.map_flatMap]
  refine flat_congr fun m hm => ?_
  obtain ⟨j, hj, _, rfl⟩ := mem_numsP.1 hm
  rw [List.map_map]
  refine List.map_congr_left fun s hs => ?_
  obtain ⟨k, hk, _, rfl⟩ := mem_numsP.1 hs
  rw [jW_in ⟨by omega, by omega, by omega, by omega, by omega, by omega⟩]
  show _ = (((3600 : Nat) : Int) * (i : Int) + (60 * (j : Int) + (k : Int)))
  omega
/-- does it go on behind so many? -/
def contB (mo k : Nat) : Bool := !decide (k = mo) && decide (k < 90000)
theorem pre_step (l told : List Int) (s : Int) (b : Bool) (hb : decide (told <+: l) = b) : decide (told ++ [s] <+: l) = (b && (decide (told.length < l.length) && decide (l[told.length]?.getD 0 = s))) := by
  subst hb
  rw [Bool.eq_iff_iff]
  simp only [decide_eq_true_eq, Bool.and_eq_true]
  constructor
  · rintro ⟨t, rfl⟩
    refine ⟨⟨[s] ++ t, by simp⟩, by simp, ?_⟩
    simp
  · rintro ⟨⟨t, rfl⟩, h2, h3⟩
    cases t with
    | nil => simp at h2
    | cons x t =>
      simp at h3
      subst h3
      exact ⟨t, by simp⟩
end Go.Proofs.YtjpdfbljhbgbcaaDoor
