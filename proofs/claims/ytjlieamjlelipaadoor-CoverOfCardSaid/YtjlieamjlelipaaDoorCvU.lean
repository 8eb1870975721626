/- Contracts of cover.Of, the document's Of and cover.Mask for every input (layer 3). -/
import Derived.Test.YtjlieamjlelipaaDoorCvT
import Derived.Test.YtjlieamjlelipaaDoorCvO
import Derived.Test.YtjlieamjlelipaaDoorIterB
namespace Go.Proofs.YtjlieamjlelipaaDoor
open Go.RowKit
set_option linter.unusedVariables false

theorem OwnI.cap {w : World} {base : Nat} {v : Value} {zs : List Int} (h : OwnI w base v zs) : ∃ A c, v = .slice A zs.length c ∧ Ints .i64 w A zs ∧ zs.length ≤ c := by
  obtain ⟨A, c, hv, hi⟩ := h.ints
  refine ⟨A, c, hv, hi, ?_⟩
  rcases h.2 with ⟨h1, hn⟩ | ⟨g, cap, cur, hv', hg, hh, hc, _⟩
  · omega
  · rw [hv] at hv'; cases hv'; exact hc
set_option maxHeartbeats 800000 in
theorem rof_no (A : Option Addr) (c : Nat) (zs : List Int) (w : World) (hl : zs.length ≤ 100000) (hc : Ints .i64 w A zs) (hr : ¬ Rise zs) :
    Calls Tryd.prog 32 #[.slice A zs.length c] w fun e w' => e = .returned (.slice none 0 0) ∧ Quiet w w' := by
  have K1 := may_any false A c zs w (by omega) hc ⟨fun h => (by cases h), fun h => absurd h hr⟩
  clear hc hr
  go_enter Tryd.func32, Tryd.ntmps32
  go_wp2_with fail
  refine K1.mono ?_
  rintro e w' ⟨rfl, hq⟩
  go_wp2
  go_ret
  exact ⟨rfl, hq⟩
open Classical in
/-- the pieces of any numbers: none where these do not rise -/
noncomputable def pcsOr (zs : List Int) : List P3 := if Rise zs then pieces zs else []
theorem pcsOr_yes {zs : List Int} (h : Rise zs) : pcsOr zs = pieces zs := if_pos h
theorem pcsOr_no {zs : List Int} (h : ¬ Rise zs) : pcsOr zs = [] := if_neg h
theorem pcsOr_le (zs : List Int) : (pcsOr zs).length ≤ zs.length := by
  by_cases h : Rise zs
  · rw [pcsOr_yes h]; exact pieces_le _ _ (Nat.le_refl _)
  · rw [pcsOr_no h]; exact Nat.zero_le _
theorem givesP_nil (w w' : World) (hb : Below w.heap.size w w') : GivesP [] w (.returned (.slice none 0 0)) w' := ⟨none, 0, rfl, fun k hk => absurd hk (Nat.not_lt_zero k), hb, Nat.le_refl _⟩
theorem of_all (A : Option Addr) (c : Nat) (zs : List Int) (w : World) (hl : zs.length ≤ 100000) (hc : Ints .i64 w A zs) (hcap : zs.length ≤ c) :
    Calls Tryd.prog 31 #[.slice A zs.length c] w (GivesP (pcsOr zs) w) := by
  by_cases h : Rise zs
  · rw [pcsOr_yes h]; exact of_yes A c zs w hl hc hcap h
  · rw [pcsOr_no h]
    refine (of_no A c zs w hl hc h).mono ?_
    rintro e w' ⟨rfl, rfl⟩
    exact givesP_nil _ _ (Below.refl _ _)
theorem rof_all (A : Option Addr) (c : Nat) (zs : List Int) (w : World) (hl : zs.length ≤ 100000) (hc : Ints .i64 w A zs) :
    Calls Tryd.prog 32 #[.slice A zs.length c] w (GivesP (pcsOr zs) w) := by
  by_cases h : Rise zs
  · rw [pcsOr_yes h]; exact rof_yes A c zs w hl hc h
  · rw [pcsOr_no h]
    refine (rof_no A c zs w hl hc h).mono ?_
    rintro e w' ⟨rfl, hq⟩
    exact givesP_nil _ _ (quiet_bel _ hq)
set_option maxHeartbeats 1600000 in
set_option maxRecDepth 20000 in
theorem maskp_any (m : Nat) (w : World) (hm : m < 18446744073709551616) (hT : Tab w) :
    Calls Tryd.prog 33 #[.int .u64 m] w (GivesP (pcsOr (numsP m.testBit 64)) w) := by
  have hTl := hT.lt
  have HB0 := Lib.hid (show Below w.heap.size w (w.alloc (.cells #[.int .u64 m] 24)) from (Below.refl _ _).alloc (Nat.le_refl _) _)
  have K1 := all_any (some ⟨w.heap.size, 0, none⟩) 1 [(m : Int)] (w.alloc (.cells #[.int .u64 m] 24)) (by simp) (ints_new .u64 w [(m : Int)] _ 24 rfl) (fun k hk => by
    obtain rfl : k = 0 := by simpa using hk
    exact ⟨m, rfl, hm⟩)
  rw [show [(m : Int)].length = 1 from rfl, bothM_first [(m : Int)] m hm rfl, show (w.alloc (.cells #[.int .u64 m] 24)).heap.size = w.heap.size + 1 by simp] at K1
  have HT := Lib.hid (hT.below HB0.out)
  have HM := Lib.hid (mk_self m hm)
  have hnl := numsP_le m.testBit 64
  clear hT
  go_enter Tryd.func33, Tryd.ntmps33
  go_wp2_with fail
  refine K1.mono ?_
  rintro e w2 ⟨rfl, hbx, hb2⟩
  clear K1
  have hs2 := lt_of_block hbx
  have HB2 := Lib.hid (HB0.out.trans (hb2.mono (by omega)))
  have HT2 := Lib.hid (HT.out.below (by simpa using hb2))
  have K2 := collect_any m.testBit (w.heap.size + 1) w2 hs2 (by rw [blk_cell hbx, HM.out]; rfl) HT2.out
  clear hbx hb2 hs2
  go_wp2_with fail
  refine K2.mono ?_
  rintro e w3 ⟨v3, rfl, ho3, hb3⟩
  obtain ⟨A3, c3, hv3, hi3, hc3⟩ := ho3.cap
  subst hv3
  have HB3 := Lib.hid (HB2.out.trans (hb3.mono HB2.out.size))
  have K3 := of_all A3 c3 (numsP m.testBit 64) w3 (by omega) hi3 hc3
  clear K2 hb3 ho3 hi3 hc3 hnl
  generalize hzs : numsP m.testBit 64 = zs at K3
  have HE := Lib.hid hzs
  clear hzs
  go_wp2_with fail
  refine K3.mono ?_
  rintro e w4 ⟨A4, c4, rfl, hat, hb4, hcc⟩
  have HA := Lib.hid hat
  have HB4 := Lib.hid (HB3.out.trans (hb4.mono HB3.out.size))
  clear K3 hat hb4
  go_wp2
  go_ret
  have e := HE.out
  subst e
  exact ⟨A4, c4, rfl, HA.out, HB4.out, hcc⟩
end Go.Proofs.YtjlieamjlelipaaDoor
