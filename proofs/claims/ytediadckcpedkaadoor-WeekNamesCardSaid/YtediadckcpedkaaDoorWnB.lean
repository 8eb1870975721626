/- The weekdays' names: contracts of Of, Name, of the document's Names and Small (layer 6). -/
import Derived.Test.YtediadckcpedkaaDoorWnA
import Derived.Test.YtediadckcpedkaaDoorUnC
namespace Go.Proofs.YtediadckcpedkaaDoor
open Go.RowKit
set_option linter.unusedVariables false

def tabWk : List (List UInt8) := [[77, 111, 110], [84, 117, 101], [87, 101, 100], [84, 104, 117], [70, 114, 105], [83, 97, 116], [83, 117, 110]]
def nmW (j : Nat) : ByteArray := ⟨(tabWk[j]?.getD []).toArray⟩
def TabWk (w : World) : Prop := ∀ j, j < 7 → w.cell? ⟨0, j, none⟩ = some (.string (nmW j))
theorem TabWk.lt {w : World} (h : TabWk w) : 0 < w.heap.size := ucell_lt (h 0 (by decide))
theorem TabWk.below {w w' : World} (h : TabWk w) (hb : Below w.heap.size w w') : TabWk w' := fun j hj => (hb.cell (p := ⟨0, j, none⟩) h.lt).trans (h j hj)
theorem nmW_size (j : Nat) (h : j < 7) : (nmW j).size = 3 := by
  match j, h with
  | 0, _ => rfl
  | 1, _ => rfl
  | 2, _ => rfl
  | 3, _ => rfl
  | 4, _ => rfl
  | 5, _ => rfl
  | 6, _ => rfl
theorem nmW_low : ∀ i j, i < 7 → j < 7 → low (nmW i) = low (nmW j) → i = j := by
  intro i j hi hj h
  have h' : ∀ i : Fin 7, ∀ j : Fin 7, ((tabWk[i.val]?.getD []).map lowB) = ((tabWk[j.val]?.getD []).map lowB) → i = j := by decide +kernel
  have e : ((tabWk[i]?.getD []).map lowB) = ((tabWk[j]?.getD []).map lowB) := by
    have := congrArg (fun b : ByteArray => b.data.toList) h
    simpa [low, nmW] using this
  exact congrArg Fin.val (h' ⟨i, hi⟩ ⟨j, hj⟩ e)
theorem low_empty (j : Nat) (h : j < 7) : low (nmW j) ≠ low ⟨#[]⟩ := fun e => by
  have h1 := congrArg ByteArray.size e
  rw [low_size, low_size, nmW_size j h] at h1
  cases h1
theorem qbelowW {w w' : World} (h : Quiet w w') : Below w.heap.size w w' := by
  obtain ⟨n, rfl⟩ := h
  exact below_draws _ _ _
set_option maxHeartbeats 800000 in
set_option maxRecDepth 20000 in
theorem wof_yes (i0 : Nat) (hi0 : i0 < 7) (s : ByteArray) (hs : low (nmW i0) = low s) (w : World) (hT : TabWk w) : Calls Tryd.prog 10 #[.string s] w fun e w' => e = .returned (.tuple #[.int .i64 ((i0 : Int) + 1), .bool true]) ∧ Below w.heap.size w w' := by
  have K := Lib.hid (show ∀ j, j < 7 → ∀ W, Calls Tryd.prog 32 #[.string (nmW j), .string s] W fun e w' => e = .returned (.bool (decide (j = i0))) ∧ Quiet W w' from fun j hj W =>
    alike_any (nmW j) s (by rw [nmW_size j hj]; decide) _ (by
      by_cases e : j = i0
      · subst e; rw [dec_t rfl, dec_t hs]
      · rw [dec_n e, dec_n fun h => e (nmW_low j i0 hj hi0 (h.trans hs.symm))]) W)
  have c0 := hT 0 (by decide)
  have c1 := hT 1 (by decide)
  have c2 := hT 2 (by decide)
  have c3 := hT 3 (by decide)
  have c4 := hT 4 (by decide)
  have c5 := hT 5 (by decide)
  have c6 := hT 6 (by decide)
  clear hT hs
  obtain ⟨nm, hnm⟩ : ∃ nm : Nat → ByteArray, nmW = nm := ⟨_, rfl⟩
  rw [hnm] at K c0 c1 c2 c3 c4 c5 c6
  clear hnm
  go_enter Tryd.func10, Tryd.ntmps10
  go_wp2
  go_loopw [7] (fun i wr => ∃ k : Nat, k ≤ i0 ∧ i = .int .i64 k ∧ Quiet w wr) (fun i _ => 7 - (intOf i).toNat)
  case atStart => exact ⟨0, Nat.zero_le _, rfl, Quiet.refl _⟩
  case round =>
    obtain ⟨k, hk, rfl, hq⟩ := hrel
    have HQ := Lib.hid hq
    clear hq
    have hix := idx7 nm k (by omega) wr
    have dk : decide ((k : Int) < 7) = true := dec_t (by omega)
    have KK := fun W => K.out k (by omega) W
    by_cases h : k = i0
    · subst h
      rw [dec_t rfl] at KK
      go_wp2_with fail
      refine (KK _).mono ?_
      rintro e w2 ⟨rfl, hq2⟩
      have HQ2 := Lib.hid (HQ.out.trans hq2)
      clear hq2 KK hix
      go_wp2
      go_ret2
      exact ⟨rfl, qbelowW HQ2.out⟩
    · rw [dec_n h] at KK
      have hk' : k + 1 ≤ i0 := by omega
      clear h
      go_wp2_with fail
      refine (KK _).mono ?_
      rintro e w2 ⟨rfl, hq2⟩
      have HQ2 := Lib.hid (HQ.out.trans hq2)
      clear hq2 KK hix
      go_wp2
      go_roundw
      case rel => exact ⟨k + 1, hk', by go_num, HQ2.out⟩
      case measure => simp [intOf]; omega
set_option maxHeartbeats 800000 in
set_option maxRecDepth 20000 in
theorem wof_no (s : ByteArray) (hs : ∀ i, i < 7 → low (nmW i) ≠ low s) (w : World) (hT : TabWk w) : Calls Tryd.prog 10 #[.string s] w fun e w' => e = .returned (.tuple #[.int .i64 0, .bool false]) ∧ Below w.heap.size w w' := by
  have K := Lib.hid (show ∀ j, j < 7 → ∀ W, Calls Tryd.prog 32 #[.string (nmW j), .string s] W fun e w' => e = .returned (.bool false) ∧ Quiet W w' from fun j hj W =>
    alike_any (nmW j) s (by rw [nmW_size j hj]; decide) _ (dec_n (hs j hj)).symm W)
  have c0 := hT 0 (by decide)
  have c1 := hT 1 (by decide)
  have c2 := hT 2 (by decide)
  have c3 := hT 3 (by decide)
  have c4 := hT 4 (by decide)
  have c5 := hT 5 (by decide)
  have c6 := hT 6 (by decide)
  clear hT hs
  obtain ⟨nm, hnm⟩ : ∃ nm : Nat → ByteArray, nmW = nm := ⟨_, rfl⟩
  rw [hnm] at K c0 c1 c2 c3 c4 c5 c6
  clear hnm
  go_enter Tryd.func10, Tryd.ntmps10
  go_wp2
  go_loopw [7] (fun i wr => ∃ k : Nat, k ≤ 7 ∧ i = .int .i64 k ∧ Quiet w wr) (fun i _ => 7 - (intOf i).toNat)
  case atStart => exact ⟨0, Nat.zero_le _, rfl, Quiet.refl _⟩
  case round =>
    obtain ⟨k, hk, rfl, hq⟩ := hrel
    have HQ := Lib.hid hq
    clear hq
    by_cases hlt : k < 7
    · have hix := idx7 nm k hlt wr
      have dk : decide ((k : Int) < 7) = true := dec_t (by omega)
      have KK := fun W => K.out k hlt W
      go_wp2_with fail
      refine (KK _).mono ?_
      rintro e w2 ⟨rfl, hq2⟩
      have HQ2 := Lib.hid (HQ.out.trans hq2)
      clear hq2 KK hix
      go_wp2
      go_roundw
      case rel => exact ⟨k + 1, by omega, by go_num, HQ2.out⟩
      case measure => simp [intOf]; omega
    · obtain rfl : k = 7 := by omega
      go_wp2
      go_ret2
      exact ⟨rfl, qbelowW HQ.out⟩
theorem wname_any (d : Int) (h1 : 1 ≤ d) (h2 : d ≤ 7) (w : World) (hT : TabWk w) : Calls Tryd.prog 11 #[.int .i64 d] w fun e w' => e = .returned (.string (nmW (d.toNat - 1))) ∧ w = w' := by
  have c := hT (d.toNat - 1) (by omega)
  have d1 : decide (d < 1) = false := dec_n (by omega)
  have d2 : decide (7 < d) = false := dec_n (by omega)
  have h3 : (0 : Int) ≤ d - 1 := by omega
  have h4 : d - 1 < 7 := by omega
  generalize nmW (d.toNat - 1) = s at c ⊢
  clear hT
  go_enter Tryd.func11, Tryd.ntmps11
  go_wp2
  go_ret
  exact ⟨rfl, rfl⟩
theorem wname_no (d : Int) (h : d < 1 ∨ 7 < d) (w : World) : Calls Tryd.prog 11 #[.int .i64 d] w fun e w' => e = .returned (.string ⟨#[]⟩) ∧ w = w' := by
  by_cases h1 : d < 1
  · have d1 : decide (d < 1) = true := dec_t h1
    clear h
    go_enter Tryd.func11, Tryd.ntmps11
    go_wp2
    go_ret
    exact ⟨rfl, rfl⟩
  · have d1 : decide (d < 1) = false := dec_n h1
    have d2 : decide (7 < d) = true := dec_t (by omega)
    clear h
    go_enter Tryd.func11, Tryd.ntmps11
    go_wp2
    go_ret
    exact ⟨rfl, rfl⟩
theorem rwnames_any (w : World) : Calls Tryd.prog 8 #[] w fun e w' => ∃ A c, e = .returned (.slice A 7 c) ∧ NamesAt 7 nmW w' A ∧ Below w.heap.size w w' := by
  go_enter Tryd.func8, Tryd.ntmps8
  go_wp2
  go_ret
  refine ⟨_, _, rfl, ⟨w.heap.size, rfl, by simp, fun j hj => ?_⟩, (Below.refl _ _).alloc (Nat.le_refl _) _⟩
  rw [cell_new]
  match j, hj with
  | 0, _ => rfl
  | 1, _ => rfl
  | 2, _ => rfl
  | 3, _ => rfl
  | 4, _ => rfl
  | 5, _ => rfl
  | 6, _ => rfl
/-- a slice of bytes of the call's own that reads as a list -/
def OwnB (w : World) (base : Nat) (v : Value) (zs : List Int) : Prop := w.ownsRow base 5 1 v zs.length (zs.map (Value.int .u8))
theorem info_b : (Tryd.prog.info? 5).map (fun i => (i.zero, i.size, i.bytes)) = some (some (.int .u8 0), 1, 1) := by kernel_rfl
theorem OwnB.snoc {w' : World} {base : Nat} {v' : Value} {zs : List Int} {x : Int} (h : w'.ownsRow base 5 1 v' (zs.length + 1) (zs.map (Value.int .u8) ++ [.int .u8 x])) : OwnB w' base v' (zs ++ [x]) := by
  unfold OwnB
  rw [List.length_append, List.map_append]
  exact h
theorem OwnB.conv {w : World} {base : Nat} {v : Value} {zs : List Int} (h : OwnB w base v zs) : (convert 55 9 v).run Tryd.prog w = .ok (.string (strOfNums zs)) w := by
  rcases h.2 with ⟨hv, hn⟩ | ⟨g, cap, cur, hv, hg, hh, hc, hm, hs, ht⟩
  · have : zs = [] := List.eq_nil_of_length_eq_zero hn
    subst this
    rw [hv]
    exact run_convert_bytes_nil (P := Tryd.prog) w 55 5 (by kernel_rfl) (by kernel_rfl) _ _ 9 (by kernel_rfl)
  · rw [hv]
    refine run_convert_bytes_arg (P := Tryd.prog) w 55 5 (by kernel_rfl) (by kernel_rfl) g 0 zs.length cap zs rfl (fun j hj => ?_) 9 (by kernel_rfl)
    rw [Nat.zero_add, blk_cell hh j]
    have h1 : (cur.toList.take (zs.length * 1))[j]? = (zs.map (Value.int .u8))[j]? := by rw [ht]
    rw [Nat.mul_one, List.getElem?_take_of_lt hj] at h1
    rw [← Array.getElem?_toList, h1]
    simp [hj, List.getD]
theorem ownB_block {w : World} {base : Nat} {v : Value} {zs : List Int} (h : OwnB w base v zs) : ∀ k, v.ownBlock = some k → base ≤ k := fun k hk => (World.ownsRow.lt h k hk).1
end Go.Proofs.YtediadckcpedkaaDoor
