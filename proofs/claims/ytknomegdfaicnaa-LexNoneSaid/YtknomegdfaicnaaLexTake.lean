/- The reader of layer 11: contracts of take, Word, Blanks, one, Is. -/
import Derived.Test.YtknomegdfaicnaaLex
namespace Go.Proofs.Ytknomegdfaicnaa
open Go.RowKit
set_option linter.unusedVariables false

/-- how many of the first bytes are such ones -/
def runN (p : UInt8 → Bool) : List UInt8 → Nat
  | [] => 0
  | c :: l => if p c = true then runN p l + 1 else 0
theorem runN_le (p : UInt8 → Bool) : ∀ l, runN p l ≤ l.length
  | [] => Nat.le_refl _
  | c :: l => by
    unfold runN
    have := runN_le p l
    split
    · simp; omega
    · exact Nat.zero_le _
/-- where such bytes end, from a place on -/
def endOf (p : UInt8 → Bool) (s : ByteArray) (k : Nat) : Nat := k + runN p (s.data.toList.drop k)
theorem len_list (s : ByteArray) : s.data.toList.length = s.size := by rw [Array.length_toList]; rfl
theorem endOf_ge (p : UInt8 → Bool) (s : ByteArray) (k : Nat) : k ≤ endOf p s k := by unfold endOf; omega
theorem endOf_le (p : UInt8 → Bool) (s : ByteArray) (k : Nat) (h : k ≤ s.size) : endOf p s k ≤ s.size := by
  have := runN_le p (s.data.toList.drop k)
  rw [List.length_drop, len_list] at this
  unfold endOf; omega
theorem drop_byte (s : ByteArray) (k : Nat) (h : k < s.size) : s.data.toList.drop k = (s[k]'h) :: s.data.toList.drop (k + 1) := by
  rw [List.drop_eq_getElem_cons (by rw [len_list]; exact h)]; rfl
theorem endOf_go (p : UInt8 → Bool) (s : ByteArray) (k : Nat) (h : k < s.size) (hp : p (s[k]'h) = true) : endOf p s (k + 1) = endOf p s k := by
  unfold endOf
  rw [drop_byte s k h]
  conv => rhs; unfold runN
  rw [if_pos hp]; omega
theorem endOf_stop (p : UInt8 → Bool) (s : ByteArray) (k : Nat) (h : k < s.size) (hp : p (s[k]'h) = false) : endOf p s k = k := by
  unfold endOf
  rw [drop_byte s k h]
  unfold runN
  rw [if_neg (by rw [hp]; simp)]; rfl
theorem endOf_end (p : UInt8 → Bool) (s : ByteArray) (k : Nat) (h : s.size ≤ k) : endOf p s k = k := by
  unfold endOf
  rw [List.drop_of_length_le (by rw [len_list]; exact h)]
  rfl
theorem cut_none (s : ByteArray) (k : Nat) : s.extract k k = ⟨#[]⟩ := by
  rw [Lib.extract_eq, Nat.sub_self, List.take_zero]
theorem cut_size (s : ByteArray) (a b : Nat) (h1 : a ≤ b) (h2 : b ≤ s.size) : (s.extract a b).size = b - a := by
  rw [← len_list, Lib.extract_data, List.length_take, List.length_drop, len_list]; omega
def TakeAt (p : UInt8 → Bool) (s : ByteArray) (R a : Nat) (wh : Int) (w : World) (g : Nat) (wr : World) : Prop :=
  ∃ k, a ≤ k ∧ k ≤ s.size ∧ g = s.size - k ∧ Rd wr R s k wh 0 ∧ But (fun b => b = R) w wr ∧ endOf p s k = endOf p s a
set_option maxHeartbeats 800000 in
theorem take_any (F : Nat) (p : UInt8 → Bool) (hF : ∀ (c : UInt8) (w : World), Calls Try.prog F #[.int .u8 c.toNat] w fun e w' => e = .returned (.bool (p c)) ∧ w' = w)
    (hC : ∀ (args : Array Value) (w : World), Sem.run Try.prog (callFunc F args) w = .ok (.enter F args) w) (R : Nat) (s : ByteArray) (a : Nat) (wh : Int) (w : World) (h : Rd w R s a wh 0) (ha : a ≤ s.size) (hs : s.size ≤ 10000) :
    Calls Try.prog 59 #[.pointer (some ⟨R, 0, none⟩), .func (.func F) #[] #[]] w fun e w' => e = .returned (.string (s.extract a (endOf p s a))) ∧ Rd w' R s (endOf p s a) wh 0 ∧ But (fun b => b = R) w w' := by
  have HF := Lib.hid hF
  clear hF
  by_cases hz : a < s.size
  case neg =>
    have k := done_yes R s a wh w h (by omega)
    have e1 := endOf_end p s a (by omega)
    rw [e1, cut_none]
    have H := Lib.hid h
    clear h e1
    go_enter Try.func59, Try.ntmps59
    go_wp2_with fail
    refine k.mono ?_
    rintro e w1 ⟨rfl, q⟩
    go_wp2
    go_ret
    exact ⟨rfl, H.out.quiet q, q.but _⟩
  have k := done_no R s a wh w h hz
  have H := Lib.hid h
  clear h
  go_enter Try.func59, Try.ntmps59
  go_wp2_with fail
  refine k.mono ?_
  rintro e w1 ⟨rfl, q⟩
  have h1 := H.out.quiet q
  have c1 := h1.c1
  have H1 := Lib.hid h1
  clear k h1
  go_wp2
  clear c1
  go_loopg [] (s.size - a) (fun g wr => TakeAt p s R a wh w g wr)
  case atStart => exact ⟨a, Nat.le_refl _, ha, rfl, H1.out, q.but _, rfl⟩
  case round =>
    obtain ⟨k, hk1, hk2, hg, hr, hb, he⟩ := hrel
    have HB := Lib.hid hb
    have HE := Lib.hid he
    have HR := Lib.hid hr
    have c0 := hr.c0
    have c1 := hr.c1
    have fz := hr.fz 1
    have HG := Lib.hid hg
    clear hb he hr hg H1 q
    have i0 : (0 : Int) ≤ (k : Int) := by omega
    by_cases hlt : k < s.size
    · have d : decide (k < s.size) = true := decide_eq_true hlt
      have i1 : (k : Int) < (s.size : Int) := by omega
      cases hp : p (s[k]'hlt)
      · have kF := HF.out (s[k]'hlt)
        rw [hp] at kF
        have HX := Lib.hid ((endOf_stop p s k hlt hp).symm.trans HE.out)
        have KF := Lib.hid kF
        have i2 : (a : Int) ≤ (k : Int) := by omega
        clear hp kF
        go_wp2
        go_quiet ((refine Calls.quiet_of_same (KF.out _)))
        go_wp2
        go_quiet (fail)
        go_wp2
        go_ret
        exact ⟨by rw [← HX.out]; rfl, by rw [← HX.out]; exact HR.out.quiet ((Quiet.of _ _).trans (Quiet.of _ _)), (HB.out.drewN _).drewN _⟩
      · have kF := HF.out (s[k]'hlt)
        rw [hp] at kF
        have HX := Lib.hid ((endOf_go p s k hlt hp).trans HE.out)
        have KF := Lib.hid kF
        clear hp kF
        go_wp2
        go_quiet ((refine Calls.quiet_of_same (KF.out _)))
        go_wp2
        go_roundg (s.size - (k + 1))
        case measure => rw [HG.out]; omega
        case rel => exact ⟨k + 1, by omega, by omega, rfl, (HR.out.set (k + 1)).quiet (Quiet.of _ _), (HB.out.setCell (.inr rfl) _).drewN _, HX.out⟩
    · have d : decide (k < s.size) = false := decide_eq_false hlt
      have HX := Lib.hid ((endOf_end p s k (by omega)).symm.trans HE.out)
      have i1 : (k : Int) ≤ (s.size : Int) := by omega
      have i2 : (a : Int) ≤ (k : Int) := by omega
      clear hlt
      go_wp2
      go_quiet (fail)
      go_wp2
      go_quiet (fail)
      go_wp2
      go_ret
      exact ⟨by rw [← HX.out]; rfl, by rw [← HX.out]; exact HR.out.quiet ((Quiet.of _ _).trans (Quiet.of _ _)), (HB.out.drewN _).drewN _⟩
end Go.Proofs.Ytknomegdfaicnaa
