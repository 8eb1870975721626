/- Texts in small letters, and contracts of the weekdays' names (layer 6). -/
import Derived.Test.YtediadckcpedkaaDoorUnA
import Derived.Test.YtediadckcpedkaaDoorOwn
import Derived.Lib.Strings
import Derived.Laws.BytesArg
namespace Go.Proofs.YtediadckcpedkaaDoor
open Go.RowKit
set_option linter.unusedVariables false

theorem llen (s : ByteArray) : s.data.toList.length = s.size := by rw [Array.length_toList]; rfl
/-- a byte, of a great letter the small one -/
def smI (c : Int) : Int := if 65 ≤ c ∧ c ≤ 90 then c + 32 else c
def lowB (c : UInt8) : UInt8 := if 65 ≤ c.toNat ∧ c.toNat ≤ 90 then c + 32 else c
theorem smI_low (c : UInt8) : smI (c.toNat : Int) = ((lowB c).toNat : Int) := by
  unfold smI lowB
  by_cases h : 65 ≤ c.toNat ∧ c.toNat ≤ 90
  · rw [if_pos h, if_pos (by omega), UInt8.toNat_add]
    have : (32 : UInt8).toNat = 32 := rfl
    rw [this]
    omega
  · rw [if_neg h, if_neg (by omega)]
/-- a text in small letters -/
def low (s : ByteArray) : ByteArray := ⟨(s.data.toList.map lowB).toArray⟩
def lowL (s : ByteArray) (k : Nat) : List Int := (s.data.toList.take k).map fun c => smI (c.toNat : Int)
theorem low_str (s : ByteArray) : strOfNums (lowL s s.size) = low s := by
  unfold strOfNums lowL low
  rw [List.take_of_length_le (by rw [llen]; omega), List.map_map]
  congr 2
  refine List.map_congr_left fun c _ => ?_
  show UInt8.ofNat (smI (c.toNat : Int)).toNat = lowB c
  rw [smI_low]
  simp
theorem lowL_len (s : ByteArray) (k : Nat) (h : k ≤ s.size) : (lowL s k).length = k := by
  unfold lowL
  rw [List.length_map, List.length_take]
  have := llen s
  omega
theorem lowL_step (s : ByteArray) (k : Nat) (h : k < s.size) : lowL s (k + 1) = lowL s k ++ [smI ((s[k]'h).toNat : Int)] := by
  have hl : k < s.data.toList.length := by rw [llen]; exact h
  unfold lowL
  rw [List.take_succ_eq_append_getElem hl, List.map_append]
  rfl
theorem low_size (s : ByteArray) : (low s).size = s.size := by rw [← llen, ← llen]; simp [low]
theorem low_at {a b : ByteArray} (h : low a = low b) (k : Nat) (ha : k < a.size) (hb : k < b.size) : smI ((a[k]'ha).toNat : Int) = smI ((b[k]'hb).toNat : Int) := by
  have h1 : a.data.toList.map lowB = b.data.toList.map lowB := by
    have := congrArg (fun s : ByteArray => s.data.toList) h
    simpa [low] using this
  have h2 := congrArg (fun l => l[k]?) h1
  have la : k < a.data.toList.length := by rw [llen]; exact ha
  have lb : k < b.data.toList.length := by rw [llen]; exact hb
  simp only [List.getElem?_map, List.getElem?_eq_getElem la, List.getElem?_eq_getElem lb, Option.map_some, Option.some.injEq] at h2
  rw [smI_low, smI_low]
  exact congrArg (fun c : UInt8 => (c.toNat : Int)) h2
theorem low_same {a b : ByteArray} (hs : a.size = b.size) (h : ∀ k (ha : k < a.size) (hb : k < b.size), smI ((a[k]'ha).toNat : Int) = smI ((b[k]'hb).toNat : Int)) : low a = low b := by
  unfold low
  congr 2
  have la := llen a
  have lb := llen b
  refine List.ext_getElem (by simp only [List.length_map]; omega) fun k h1 h2 => ?_
  rw [List.getElem_map, List.getElem_map]
  rw [List.length_map] at h1 h2
  have := h k (by omega) (by omega)
  rw [smI_low, smI_low] at this
  exact UInt8.toNat_inj.1 (Int.ofNat.inj this)
theorem smI_bd {c : Int} (h1 : 0 ≤ c) (h2 : c < 256) : 0 ≤ smI c ∧ smI c < 256 := by unfold smI; split <;> omega
theorem small_any (c : Int) (w : World) (h1 : 0 ≤ c) (h2 : c < 256) : Calls Tryd.prog 64 #[.int .u8 c] w fun e w' => e = .returned (.int .u8 (smI c)) ∧ w = w' := by
  by_cases g1 : 65 ≤ c
  · by_cases g2 : c ≤ 90
    · have HE := Lib.hid (show smI c = c + 32 from if_pos ⟨g1, g2⟩)
      have d1 : decide (65 ≤ c) = true := dec_t g1
      have d2 : decide (c ≤ 90) = true := dec_t g2
      go_enter Tryd.func64, Tryd.ntmps64
      go_wp2
      go_ret
      exact ⟨by rw [HE.out]; rfl, rfl⟩
    · have HE := Lib.hid (show smI c = c from if_neg (fun h => g2 h.2))
      have d1 : decide (65 ≤ c) = true := dec_t g1
      have d2 : decide (c ≤ 90) = false := dec_n g2
      go_enter Tryd.func64, Tryd.ntmps64
      go_wp2
      go_ret
      exact ⟨by rw [HE.out]; rfl, rfl⟩
  · have HE := Lib.hid (show smI c = c from if_neg (fun h => g1 h.1))
    have d1 : decide (65 ≤ c) = false := dec_n g1
    go_enter Tryd.func64, Tryd.ntmps64
    go_wp2
    go_ret
    exact ⟨by rw [HE.out]; rfl, rfl⟩
theorem ubd (c : UInt8) : 0 ≤ (c.toNat : Int) ∧ (c.toNat : Int) < 256 := ⟨by omega, by have := c.toNat_lt; omega⟩
set_option maxHeartbeats 800000 in
set_option maxRecDepth 20000 in
theorem alike_any (a b : ByteArray) (hz : a.size ≤ 1000) (r : Bool) (hr : r = decide (low a = low b)) (w : World) : Calls Tryd.prog 32 #[.string a, .string b] w fun e w' => e = .returned (.bool r) ∧ Quiet w w' := by
  subst hr
  by_cases hs : a.size = b.size
  · have hsi : (a.size != b.size) = false := by rw [bne_eq_false_iff_eq]; exact hs
    have hsi2 : ((a.size : Int) != (b.size : Int)) = false := by rw [bne_eq_false_iff_eq]; omega
    have HS := Lib.hid hs
    clear hs
    go_enter Tryd.func32, Tryd.ntmps32
    go_wp2
    go_loopw [13] (fun i w' => ∃ k : Nat, k ≤ a.size ∧ i = .int .i64 k ∧ Quiet w w' ∧ ∀ j (ha : j < a.size) (hb : j < b.size), j < k → smI ((a[j]'ha).toNat : Int) = smI ((b[j]'hb).toNat : Int)) (fun i _ => a.size - (intOf i).toNat)
    case atStart => exact ⟨0, Nat.zero_le _, rfl, Quiet.refl _, fun j _ _ h => absurd h (by omega)⟩
    case round =>
      obtain ⟨k, hk, rfl, hq, hall⟩ := hrel
      have HQ := Lib.hid hq
      have HA := Lib.hid hall
      clear hq hall
      by_cases hlt : k < a.size
      · have hltb : k < b.size := by have := HS.out; omega
        have dk : decide ((k : Int) < (a.size : Int)) = true := dec_t (by omega)
        have ik0 : (0 : Int) ≤ (k : Int) := by omega
        have ik1 : (k : Int) < (a.size : Int) := by omega
        have ik2 : (k : Int) < (b.size : Int) := by omega
        have K1 := fun W => small_any ((a[k]'hlt).toNat : Int) W (ubd _).1 (ubd _).2
        have K2 := fun W => small_any ((b[k]'hltb).toNat : Int) W (ubd _).1 (ubd _).2
        by_cases he : smI ((a[k]'hlt).toNat : Int) = smI ((b[k]'hltb).toNat : Int)
        · have HA' := Lib.hid (show ∀ j (ha : j < a.size) (hb : j < b.size), j < k + 1 → smI ((a[j]'ha).toNat : Int) = smI ((b[j]'hb).toNat : Int) from fun j ha hb hj => by
            by_cases e : j = k
            · subst e; exact he
            · exact HA.out j ha hb (by omega))
          have hne : (smI ((a[k]'hlt).toNat : Int) != smI ((b[k]'hltb).toNat : Int)) = false := by rw [bne_eq_false_iff_eq]; exact he
          clear he
          go_wp2
          go_quiet (first | (go_at_call 64; with_reducible exact Calls.quiet_of_same ((K1 _).mono fun _ _ ⟨h, h'⟩ => ⟨h, h'.symm⟩)) | (go_at_call 64; with_reducible exact Calls.quiet_of_same ((K2 _).mono fun _ _ ⟨h, h'⟩ => ⟨h, h'.symm⟩)))
          go_wp2
          go_roundw
          case rel => exact ⟨k + 1, by omega, by go_num, HQ.out.trans (Quiet.of _ _), HA'.out⟩
          case measure => simp [intOf]; omega
        · have hne : (smI ((a[k]'hlt).toNat : Int) != smI ((b[k]'hltb).toNat : Int)) = true := by rw [bne_iff_ne]; exact he
          have HX := Lib.hid (show decide (low a = low b) = false from dec_n fun h => he (low_at h k hlt hltb))
          clear he
          go_wp2
          go_quiet (first | (go_at_call 64; with_reducible exact Calls.quiet_of_same ((K1 _).mono fun _ _ ⟨h, h'⟩ => ⟨h, h'.symm⟩)) | (go_at_call 64; with_reducible exact Calls.quiet_of_same ((K2 _).mono fun _ _ ⟨h, h'⟩ => ⟨h, h'.symm⟩)))
          go_wp2
          go_ret
          exact ⟨by rw [HX.out]; rfl, HQ.out.trans (Quiet.of _ _)⟩
      · obtain rfl : k = a.size := by omega
        have dk : decide ((a.size : Int) < (a.size : Int)) = false := dec_n (by omega)
        have HX := Lib.hid (show decide (low a = low b) = true from dec_t (low_same HS.out fun j ha hb => HA.out j ha hb ha))
        go_wp2
        go_ret
        exact ⟨by rw [HX.out]; rfl, HQ.out⟩
  · have hsi : (a.size != b.size) = true := by rw [bne_iff_ne]; exact hs
    have hsi2 : ((a.size : Int) != (b.size : Int)) = true := by rw [bne_iff_ne]; omega
    have HX := Lib.hid (show decide (low a = low b) = false from dec_n fun h => hs (by rw [← low_size a, h, low_size]))
    clear hs
    go_enter Tryd.func32, Tryd.ntmps32
    go_wp2
    go_ret
    exact ⟨by rw [HX.out]; rfl, Quiet.refl _⟩
end Go.Proofs.YtediadckcpedkaaDoor
