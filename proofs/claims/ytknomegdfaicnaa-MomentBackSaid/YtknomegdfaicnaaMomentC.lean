/- Contracts of moment.Join, Long, Basic, of the document's In, and the walk of lives of layer 8. -/
import Derived.Test.YtknomegdfaicnaaMomentB
namespace Go.Proofs.Ytknomegdfaicnaa
open Go.RowKit Civ

theorem mJoin_yes (d s : Int) (w : World) (h1 : 0 ≤ d) (h2 : d < 146097) (h3 : 0 ≤ s) (h4 : s < 86400) : Calls Try.prog 18 #[.int .i64 d, .int .i64 s] w fun e w' => e = .returned (.tuple #[.int .i64 (d * 86400 + s), .bool true]) ∧ w = w' := by
  have n1 := dec_f (show ¬ d < 0 by omega)
  have n2 := dec_f (show ¬ 146097 ≤ d by omega)
  have n3 := dec_f (show ¬ s < 0 by omega)
  have n4 := dec_f (show ¬ 86400 ≤ s by omega)
  go_enter Try.func18, Try.ntmps18
  go_wp2
  go_ret2
  exact ⟨rfl, rfl⟩
theorem mJoin_no (d s : Int) (w : World) (h : d < 0 ∨ 146097 ≤ d ∨ s < 0 ∨ 86400 ≤ s) : Calls Try.prog 18 #[.int .i64 d, .int .i64 s] w fun e w' => e = .returned (.tuple #[.int .i64 0, .bool false]) ∧ w = w' := by
  by_cases h1 : d < 0
  · clear h
    go_enter Try.func18, Try.ntmps18
    go_wp2
    go_ret2
    exact ⟨rfl, rfl⟩
  · have n1 := dec_f h1
    by_cases h2 : 146097 ≤ d
    · clear h h1
      go_enter Try.func18, Try.ntmps18
      go_wp2
      go_ret2
      exact ⟨rfl, rfl⟩
    · have n2 := dec_f h2
      by_cases h3 : s < 0
      · clear h h1 h2
        go_enter Try.func18, Try.ntmps18
        go_wp2
        go_ret2
        exact ⟨rfl, rfl⟩
      · have n3 := dec_f h3
        have h4 : 86400 ≤ s := by omega
        clear h h1 h2 h3
        go_enter Try.func18, Try.ntmps18
        go_wp2
        go_ret2
        exact ⟨rfl, rfl⟩
/-- how great a unit below a day is -/
def sz (u : Int) : Int := if u = 0 then 1 else if u = 1 then 60 else if u = 2 then 3600 else 0

def bytesOf (l : List UInt8) : ByteArray := ⟨l.toArray⟩
theorem basic_any (t y m d hh hm hs : Int) (w : World) (h1 : 0 ≤ t) (h2 : t < 12622780800) (hd : IsDate (t / 86400) y m d) (hy : 0 ≤ y) (hy2 : y ≤ 9999)
    (eh : t % 86400 / 3600 = hh) (em : t % 86400 / 60 % 60 = hm) (es : t % 60 = hs) :
    Calls Try.prog 21 #[.int .i64 t] w fun e w' => e = .returned (.string (strOfNums (putAll ⟨#[121, 121, 121, 121, 110, 110, 100, 100, 84, 104, 104, 109, 109, 115, 115, 90]⟩ y m d hh hm hs))) ∧ Below w.heap.size w w' := by
  go_enter Try.func21, Try.ntmps21
  go_wp2_with (go_at_call 58; refine (written_any _ t y m d hh hm hs _ h1 h2 hd hy hy2 (by decide) eh em es).mono ?_; rintro e w' ⟨rfl, hb⟩)
  go_ret
  exact ⟨rfl, hb⟩
theorem long_any (t y m d hh hm hs : Int) (w : World) (h1 : 0 ≤ t) (h2 : t < 12622780800) (hd : IsDate (t / 86400) y m d) (hy : 0 ≤ y) (hy2 : y ≤ 9999)
    (eh : t % 86400 / 3600 = hh) (em : t % 86400 / 60 % 60 = hm) (es : t % 60 = hs) :
    Calls Try.prog 22 #[.int .i64 t] w fun e w' => e = .returned (.string (strOfNums (putAll ⟨#[121, 121, 121, 121, 45, 110, 110, 45, 100, 100, 32, 104, 104, 58, 109, 109, 58, 115, 115]⟩ y m d hh hm hs))) ∧ Below w.heap.size w w' := by
  go_enter Try.func22, Try.ntmps22
  go_wp2_with (go_at_call 58; refine (written_any _ t y m d hh hm hs _ h1 h2 hd hy hy2 (by decide) eh em es).mono ?_; rintro e w' ⟨rfl, hb⟩)
  go_ret
  exact ⟨rfl, hb⟩
theorem date_0 : IsDate 0 1970 1 1 := by refine ⟨by omega, by omega, by omega, ?_, ?_⟩ <;> decide
theorem date_1 : IsDate 1 1970 1 2 := by refine ⟨by omega, by omega, by omega, ?_, ?_⟩ <;> decide
theorem lives08_any (w : World) : Calls Try.prog 13 #[] w fun e w' => e = .returned (.bool true) ∧ Below w.heap.size w w' := by
  have e1 : strOfNums (putAll ⟨#[121, 121, 121, 121, 110, 110, 100, 100, 84, 104, 104, 109, 109, 115, 115, 90]⟩ 1970 1 1 23 59 59) = ⟨#[49, 57, 55, 48, 48, 49, 48, 49, 84, 50, 51, 53, 57, 53, 57, 90]⟩ := by decide
  have e2 : strOfNums (putAll ⟨#[121, 121, 121, 121, 45, 110, 110, 45, 100, 100, 32, 104, 104, 58, 109, 109, 58, 115, 115]⟩ 1970 1 2 0 0 0) = ⟨#[49, 57, 55, 48, 45, 48, 49, 45, 48, 50, 32, 48, 48, 58, 48, 48, 58, 48, 48]⟩ := by decide
  have k1 := fun w => basic_any 86399 1970 1 1 23 59 59 w (by omega) (by omega) date_0 (by omega) (by omega) (by omega) (by omega) (by omega)
  have k2 := fun w => long_any 86400 1970 1 2 0 0 0 w (by omega) (by omega) date_1 (by omega) (by omega) (by omega) (by omega) (by omega)
  rw [e1] at k1
  rw [e2] at k2
  clear e1 e2
  go_enter Try.func13, Try.ntmps13
  go_wp2_with fail
  refine (k1 _).mono ?_
  rintro e w1 ⟨rfl, hb⟩
  go_wp2_with fail
  refine (k2 _).mono ?_
  rintro e w2 ⟨rfl, hb2⟩
  go_wp2
  go_ret
  exact ⟨rfl, hb.trans (hb2.mono hb.size)⟩
end Go.Proofs.Ytknomegdfaicnaa
