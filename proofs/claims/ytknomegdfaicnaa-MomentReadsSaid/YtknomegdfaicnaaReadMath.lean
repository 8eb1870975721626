/- Reading an instant's text: places, digits, numbers; plain words, nothing of the program is spoken of (layer 8). -/
import Derived.Test.YtknomegdfaicnaaStampTexts
namespace Go.Proofs.Ytknomegdfaicnaa
open Go.RowKit Civ

/-- a byte fits its place: the T at 8, else a digit -/
def fitB (k : Nat) (c : Nat) : Bool := if k = 8 then c == 84 else decide (48 ≤ c ∧ c ≤ 57)
/-- from the k-th place on, of which n are left: where, and what, is wrong first -/
def scan (l : List UInt8) : Nat → Nat → Int × Int
  | _, 0 => (15, 0)
  | k, n + 1 => if l.length ≤ k then ((k : Int), 2) else if fitB k (l.getD k 0).toNat = true then scan l (k + 1) n else ((k : Int), 3)
theorem scan_end (l : List UInt8) (k n : Nat) (h : l.length ≤ k) : scan l k (n + 1) = ((k : Int), 2) := by
  unfold scan; rw [if_pos h]
theorem scan_bad (l : List UInt8) (k n : Nat) (h : k < l.length) (hb : fitB k (l.getD k 0).toNat = false) : scan l k (n + 1) = ((k : Int), 3) := by
  unfold scan; rw [if_neg (by omega), if_neg (by rw [hb]; simp)]
theorem scan_go (l : List UInt8) (k n : Nat) (h : k < l.length) (hb : fitB k (l.getD k 0).toNat = true) : scan l k (n + 1) = scan l (k + 1) n := by
  conv => lhs; unfold scan
  rw [if_neg (by omega), if_pos hb]
theorem scan_res (l : List UInt8) : ∀ n k, k + n = 15 → scan l k n = (15, 0) ∨ (∃ i : Nat, i < 15 ∧ i = l.length ∧ scan l k n = ((i : Int), 2)) ∨ (∃ i : Nat, i < 15 ∧ i < l.length ∧ scan l k n = ((i : Int), 3)) ∨ l.length < k
  | 0, k, _ => .inl rfl
  | n + 1, k, h => by
    by_cases c : k < l.length
    · cases hb : fitB k (l.getD k 0).toNat
      · exact .inr (.inr (.inl ⟨k, by omega, c, scan_bad l k n c hb⟩))
      · rw [scan_go l k n c hb]
        rcases scan_res l n (k + 1) (by omega) with h1 | h1 | h1 | h1
        · exact .inl h1
        · exact .inr (.inl h1)
        · exact .inr (.inr (.inl h1))
        · omega
    · by_cases e : k = l.length
      · exact .inr (.inl ⟨k, by omega, e, scan_end l k n (by omega)⟩)
      · exact .inr (.inr (.inr (by omega)))
theorem scan_fits (l : List UInt8) : ∀ n k, k + n = 15 → scan l k n = (15, 0) → ∀ i, k ≤ i → i < 15 → i < l.length ∧ fitB i (l.getD i 0).toNat = true
  | 0, k, h, _ => fun i h1 h2 => by omega
  | n + 1, k, h, hs => by
    intro i h1 h2
    by_cases c : k < l.length
    · cases hb : fitB k (l.getD k 0).toNat
      · rw [scan_bad l k n c hb] at hs
        simp at hs
      · rw [scan_go l k n c hb] at hs
        by_cases e : i = k
        · subst e; exact ⟨c, hb⟩
        · exact scan_fits l n (k + 1) (by omega) hs i (by omega) h2
    · rw [scan_end l k n (by omega)] at hs
      simp at hs
theorem scan_ok (l : List UInt8) : ∀ n k, k + n = 15 → (∀ i, k ≤ i → i < 15 → i < l.length ∧ fitB i (l.getD i 0).toNat = true) → scan l k n = (15, 0)
  | 0, _, _, _ => rfl
  | n + 1, k, h, hf => by
    obtain ⟨c, hb⟩ := hf k (Nat.le_refl _) (by omega)
    rw [scan_go l k n c hb]
    exact scan_ok l n (k + 1) (by omega) fun i h1 h2 => hf i (by omega) h2

/-- the number of digits -/
def numL (l : List UInt8) : Int := l.foldl (fun n c => 10 * n + ((c.toNat : Int) - 48)) 0
theorem numL_snoc (l : List UInt8) (c : UInt8) : numL (l ++ [c]) = 10 * numL l + ((c.toNat : Int) - 48) := by
  unfold numL; rw [List.foldl_append]; rfl
def Digits (l : List UInt8) : Prop := ∀ c ∈ l, 48 ≤ c.toNat ∧ c.toNat ≤ 57
theorem numL_bd : ∀ (l : List UInt8) (n : Int) (B : Int), 0 ≤ n → n ≤ B → Digits l → 0 ≤ l.foldl (fun n c => 10 * n + ((c.toNat : Int) - 48)) n ∧ l.foldl (fun n c => 10 * n + ((c.toNat : Int) - 48)) n ≤ (B + 1) * 10 ^ l.length - 1
  | [], n, B, h1, h2, _ => by simp; omega
  | c :: l, n, B, h1, h2, hd => by
    have hc := hd c (by simp)
    have := numL_bd l (10 * n + ((c.toNat : Int) - 48)) (10 * B + 9) (by omega) (by omega) (fun x hx => hd x (by simp [hx]))
    rw [List.foldl_cons, List.length_cons]
    refine ⟨this.1, Int.le_trans this.2 ?_⟩
    rw [show (10 * B + 9 + 1 : Int) = (B + 1) * 10 by omega, Int.pow_succ, Int.mul_assoc, Int.mul_comm 10]
    exact Int.le_refl _
/-- the part from a place up to another one -/
def partI (l : List UInt8) (a b : Nat) : Int := numL ((l.drop a).take (b - a))
def RdSt (l : List UInt8) : Prop := IsStamp (partI l 0 4) (partI l 4 6) (partI l 6 8) (partI l 9 11) (partI l 11 13) (partI l 13 15)
def atL (l : List UInt8) : Int := 86400 * dayI (partI l 0 4) (partI l 4 6) (partI l 6 8) + secI (partI l 9 11) (partI l 11 13) (partI l 13 15)
/-- what reading a text tells: the instant, the place, the error -/
def ReadIs (l : List UInt8) (T A E : Int) : Prop :=
  (∃ k e : Int, scan l 0 15 = (k, e) ∧ (e = 2 ∨ e = 3) ∧ T = 0 ∧ A = k ∧ E = e) ∨
  (scan l 0 15 = (15, 0) ∧ ¬ RdSt l ∧ T = 0 ∧ A = 0 ∧ E = 4) ∨
  (scan l 0 15 = (15, 0) ∧ RdSt l ∧ (l.length = 15 ∨ 15 < l.length ∧ (l.getD 15 0).toNat ≠ 90) ∧ T = 0 ∧ A = 15 ∧ E = 7) ∨
  (scan l 0 15 = (15, 0) ∧ RdSt l ∧ 16 < l.length ∧ (l.getD 15 0).toNat = 90 ∧ T = 0 ∧ A = 16 ∧ E = 7) ∨
  (scan l 0 15 = (15, 0) ∧ RdSt l ∧ l.length = 16 ∧ (l.getD 15 0).toNat = 90 ∧ T = atL l ∧ A = 16 ∧ E = 0)

theorem num2 (a : Int) (h1 : 0 ≤ a) (h2 : a ≤ 99) : numL [dg (a / 10 % 10), dg (a % 10)] = a := by
  simp only [numL, List.foldl_cons, List.foldl_nil]
  rw [dg_nat _ (by omega) (by omega), dg_nat _ (by omega) (by omega)]
  omega
theorem num4 (a : Int) (h1 : 0 ≤ a) (h2 : a ≤ 9999) : numL [dg (a / 10 / 10 / 10 % 10), dg (a / 10 / 10 % 10), dg (a / 10 % 10), dg (a % 10)] = a := by
  simp only [numL, List.foldl_cons, List.foldl_nil]
  rw [dg_nat _ (by omega) (by omega), dg_nat _ (by omega) (by omega), dg_nat _ (by omega) (by omega), dg_nat _ (by omega) (by omega)]
  omega
theorem dg_of (c : UInt8) (a : Int) (h : (c.toNat : Int) = 48 + a) (h1 : 0 ≤ a) (h2 : a ≤ 9) : dg a = c := by
  have := dg_nat a h1 h2
  apply UInt8.toNat_inj.1
  omega
theorem dg2 (c d : UInt8) (h1 : 48 ≤ c.toNat ∧ c.toNat ≤ 57) (h2 : 48 ≤ d.toNat ∧ d.toNat ≤ 57) : dg (numL [c, d] / 10 % 10) = c ∧ dg (numL [c, d] % 10) = d := by
  simp only [numL, List.foldl_cons, List.foldl_nil]
  exact ⟨dg_of _ _ (by omega) (by omega) (by omega), dg_of _ _ (by omega) (by omega) (by omega)⟩
theorem dg4 (a b c d : UInt8) (h1 : 48 ≤ a.toNat ∧ a.toNat ≤ 57) (h2 : 48 ≤ b.toNat ∧ b.toNat ≤ 57) (h3 : 48 ≤ c.toNat ∧ c.toNat ≤ 57) (h4 : 48 ≤ d.toNat ∧ d.toNat ≤ 57) :
    dg (numL [a, b, c, d] / 10 / 10 / 10 % 10) = a ∧ dg (numL [a, b, c, d] / 10 / 10 % 10) = b ∧ dg (numL [a, b, c, d] / 10 % 10) = c ∧ dg (numL [a, b, c, d] % 10) = d := by
  simp only [numL, List.foldl_cons, List.foldl_nil]
  exact ⟨dg_of _ _ (by omega) (by omega) (by omega), dg_of _ _ (by omega) (by omega) (by omega), dg_of _ _ (by omega) (by omega) (by omega), dg_of _ _ (by omega) (by omega) (by omega)⟩
theorem fit_dig {k c : Nat} (h : k ≠ 8) : fitB k c = true ↔ 48 ≤ c ∧ c ≤ 57 := by unfold fitB; rw [if_neg h]; simp
theorem fit_T {c : Nat} : fitB 8 c = true ↔ c = 84 := by unfold fitB; rw [if_pos rfl]; simp

/-- a list of sixteen -/
theorem sixteen (l : List UInt8) (h : l.length = 16) : ∃ a0 a1 a2 a3 a4 a5 a6 a7 a8 a9 a10 a11 a12 a13 a14 a15, l = [a0, a1, a2, a3, a4, a5, a6, a7, a8, a9, a10, a11, a12, a13, a14, a15] := by
  match l, h with
  | [a0, a1, a2, a3, a4, a5, a6, a7, a8, a9, a10, a11, a12, a13, a14, a15], _ => exact ⟨a0, a1, a2, a3, a4, a5, a6, a7, a8, a9, a10, a11, a12, a13, a14, a15, rfl⟩
theorem stamp_date {y m d hh hm hs : Int} (h : IsStamp y m d hh hm hs) : IsDate ((86400 * dayI y m d + secI hh hm hs) / 86400) y m d ∧ 0 ≤ 86400 * dayI y m d + secI hh hm hs ∧ 86400 * dayI y m d + secI hh hm hs < 12622780800
    ∧ (86400 * dayI y m d + secI hh hm hs) % 86400 / 3600 = hh ∧ (86400 * dayI y m d + secI hh hm hs) % 86400 / 60 % 60 = hm ∧ (86400 * dayI y m d + secI hh hm hs) % 60 = hs := by
  obtain ⟨h1, h2, h3, h4⟩ := h
  have dw := day_win h1 h2 h3
  obtain ⟨t1, t2, t3, t4, t5, t6⟩ := h4
  have hsb : 0 ≤ secI hh hm hs ∧ secI hh hm hs < 86400 := by unfold secI; omega
  have e : (86400 * dayI y m d + secI hh hm hs) / 86400 = dayI y m d := by omega
  refine ⟨?_, by omega, by omega, ?_, ?_, ?_⟩
  · rw [e]
    obtain ⟨_, _, a1, a2, a3, a4⟩ := h3
    exact ⟨a1, a2, a3, a4, rfl⟩
  · unfold secI at hsb ⊢; omega
  · unfold secI at hsb ⊢; omega
  · unfold secI at hsb ⊢; omega
/-- a text that is read is the one that is told -/
theorem read_back (l : List UInt8) (hs : scan l 0 15 = (15, 0)) (hl : l.length = 16) (hz : (l.getD 15 0).toNat = 90) :
    (strOfNums (putAll basF (partI l 0 4) (partI l 4 6) (partI l 6 8) (partI l 9 11) (partI l 11 13) (partI l 13 15))).toList = l := by
  have hf := fun i h => (scan_fits l 15 0 rfl hs i (Nat.zero_le _) h).2
  obtain ⟨a0, a1, a2, a3, a4, a5, a6, a7, a8, a9, a10, a11, a12, a13, a14, a15, rfl⟩ := sixteen l hl
  have f0 := (fit_dig (by decide)).1 (hf 0 (by decide))
  have f1 := (fit_dig (by decide)).1 (hf 1 (by decide))
  have f2 := (fit_dig (by decide)).1 (hf 2 (by decide))
  have f3 := (fit_dig (by decide)).1 (hf 3 (by decide))
  have f4 := (fit_dig (by decide)).1 (hf 4 (by decide))
  have f5 := (fit_dig (by decide)).1 (hf 5 (by decide))
  have f6 := (fit_dig (by decide)).1 (hf 6 (by decide))
  have f7 := (fit_dig (by decide)).1 (hf 7 (by decide))
  have f8 := fit_T.1 (hf 8 (by decide))
  have f9 := (fit_dig (by decide)).1 (hf 9 (by decide))
  have f10 := (fit_dig (by decide)).1 (hf 10 (by decide))
  have f11 := (fit_dig (by decide)).1 (hf 11 (by decide))
  have f12 := (fit_dig (by decide)).1 (hf 12 (by decide))
  have f13 := (fit_dig (by decide)).1 (hf 13 (by decide))
  have f14 := (fit_dig (by decide)).1 (hf 14 (by decide))
  have e8 : a8 = 84 := UInt8.toNat_inj.1 f8
  have e15 : a15 = 90 := UInt8.toNat_inj.1 hz
  subst e8
  subst e15
  rw [bas_list]
  simp only [partI, List.drop_zero, Nat.sub_zero, List.drop_succ_cons, List.take_succ_cons, List.take_zero, Nat.reduceSub]
  have g0 := dg4 a0 a1 a2 a3 f0 f1 f2 f3
  have g1 := dg2 a4 a5 f4 f5
  have g2 := dg2 a6 a7 f6 f7
  have g3 := dg2 a9 a10 f9 f10
  have g4 := dg2 a11 a12 f11 f12
  have g5 := dg2 a13 a14 f13 f14
  rw [g0.1, g0.2.1, g0.2.2.1, g0.2.2.2, g1.1, g1.2, g2.1, g2.2, g3.1, g3.2, g4.1, g4.2, g5.1, g5.2]
/-- a text that is told is read -/
theorem told_read (y m d hh hm hs : Int) (hy : 0 ≤ y ∧ y ≤ 9999) (h1 : P2 m) (h2 : P2 d) (h3 : P2 hh) (h4 : P2 hm) (h5 : P2 hs) : let l := (strOfNums (putAll basF y m d hh hm hs)).toList
    scan l 0 15 = (15, 0) ∧ l.length = 16 ∧ (l.getD 15 0).toNat = 90 ∧ partI l 0 4 = y ∧ partI l 4 6 = m ∧ partI l 6 8 = d ∧ partI l 9 11 = hh ∧ partI l 11 13 = hm ∧ partI l 13 15 = hs := by
  intro l
  have hl : l = _ := bas_list y m d hh hm hs
  have hd : ∀ a : Int, 48 ≤ (dg (a % 10)).toNat ∧ (dg (a % 10)).toNat ≤ 57 := fun a => by
    have := dg_nat (a % 10) (by omega) (by omega)
    omega
  rw [hl]
  refine ⟨?_, rfl, rfl, ?_, ?_, ?_, ?_, ?_, ?_⟩
  · refine scan_ok _ 15 0 rfl fun i _ hi => ?_
    have : i = 0 ∨ i = 1 ∨ i = 2 ∨ i = 3 ∨ i = 4 ∨ i = 5 ∨ i = 6 ∨ i = 7 ∨ i = 8 ∨ i = 9 ∨ i = 10 ∨ i = 11 ∨ i = 12 ∨ i = 13 ∨ i = 14 := by omega
    rcases this with rfl | rfl | rfl | rfl | rfl | rfl | rfl | rfl | rfl | rfl | rfl | rfl | rfl | rfl | rfl
    case _ => exact ⟨by simp, (fit_dig (by decide)).2 (hd _)⟩
    case _ => exact ⟨by simp, (fit_dig (by decide)).2 (hd _)⟩
    case _ => exact ⟨by simp, (fit_dig (by decide)).2 (hd _)⟩
    case _ => exact ⟨by simp, (fit_dig (by decide)).2 (hd _)⟩
    case _ => exact ⟨by simp, (fit_dig (by decide)).2 (hd _)⟩
    case _ => exact ⟨by simp, (fit_dig (by decide)).2 (hd _)⟩
    case _ => exact ⟨by simp, (fit_dig (by decide)).2 (hd _)⟩
    case _ => exact ⟨by simp, (fit_dig (by decide)).2 (hd _)⟩
    case _ => exact ⟨by simp, fit_T.2 rfl⟩
    case _ => exact ⟨by simp, (fit_dig (by decide)).2 (hd _)⟩
    case _ => exact ⟨by simp, (fit_dig (by decide)).2 (hd _)⟩
    case _ => exact ⟨by simp, (fit_dig (by decide)).2 (hd _)⟩
    case _ => exact ⟨by simp, (fit_dig (by decide)).2 (hd _)⟩
    case _ => exact ⟨by simp, (fit_dig (by decide)).2 (hd _)⟩
    case _ => exact ⟨by simp, (fit_dig (by decide)).2 (hd _)⟩
  · exact num4 y hy.1 hy.2
  · exact num2 m h1.1 h1.2
  · exact num2 d h2.1 h2.2
  · exact num2 hh h3.1 h3.2
  · exact num2 hm h4.1 h4.2
  · exact num2 hs h5.1 h5.2
end Go.Proofs.Ytknomegdfaicnaa
