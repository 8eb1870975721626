/- The chapter's examples; item.Mask; the document's Right (layer 12). -/
import Derived.Test.YtbfndcogieiejaaItO
import Derived.Test.YtbfndcogieiejaaVaB
import Derived.Test.YtbfndcogieiejaaMaskA
import Derived.Laws.StructEq
namespace Go.Proofs.Ytbfndcogieiejaa
open Go.RowKit
set_option linter.unusedVariables false

theorem imask_any (lo hi : Int) (A : Option Addr) (c : Nat) (qs : List Q4) (w : World) (hl : qs.length ≤ 1000000) (hq : ItemsAt w A qs) (hz : (valsL lo hi qs).length ≤ 1000000) :
    Calls Try.prog 13 #[.int .i64 lo, .int .i64 hi, .slice A qs.length c] w fun e w' => e = .returned (.int .u64 (mk (inL (valsL lo hi qs)) : Nat)) ∧ Below w.heap.size w w' := by
  have K := values_any lo hi A c qs w hl hq
  have KO := Lib.hid (fun B d W h => of_any B d (valsL lo hi qs) W hz h)
  generalize mk (inL (valsL lo hi qs)) = m at KO ⊢
  generalize valsL lo hi qs = zs at K KO
  clear hz hq hl
  go_enter Try.func13, Try.ntmps13
  go_wp2_with fail
  refine K.mono ?_
  rintro e w1 ⟨B, d, rfl, hi1, hb, hc⟩
  have HB := Lib.hid hb
  have K2 := KO.out B d w1 hi1
  clear K hb hi1 hc
  go_wp2_with fail
  refine K2.mono ?_
  rintro e w2 ⟨rfl, rfl⟩
  go_wp2
  go_ret
  exact ⟨rfl, HB.out⟩
set_option maxRecDepth 100000 in
theorem eq_item (a b c d : Int) (w : World) : (Op.equalIn 10000 27 (.agg #[.int .i64 a, .int .i64 b, .int .i64 c, .int .i64 d]) (.agg #[.int .i64 a, .int .i64 b, .int .i64 c, .int .i64 d])).run Try.prog w = .ok true w := by
  have u3 := Try.underlying3
  have hS : Try.prog.underlying 27 = some (.struct (Try.prog.fieldsOf 27)) := by kernel_rfl
  have hp : Try.prog.stoodInHeld 27 = false := by kernel_rfl
  rw [show (10000 : Nat) = 9999 + 1 from rfl, run_equalIn_agg w 9999 27 _ _ hS hp]
  simp only [Program.fieldsOf, Try.underlying27]
  go_simp
theorem guard_item : Try.prog.eqGuardType Try.prog.depth 27 = false := by kernel_rfl
theorem ex_pieces : pieces [0, 30] = [(0, 0, 1), (30, 30, 1)] := by decide +kernel
theorem ex_items : [((0 : Int), (0 : Int), (1 : Int)), (30, 30, 1)].map itemOf = [(1, 0, 0, 0), (1, 30, 0, 0)] := by decide +kernel
theorem ex_vals : valsL 0 59 [(0, 0, 0, 15)] = [0, 15, 30, 45] := by decide +kernel
theorem ex_mask : mk (inL [0, 15, 30, 45]) = 35185445863425 := by decide +kernel
theorem ex_rise : Rise [0, 30] := by
  intro k hk
  match k, hk with
  | 0, _ => exact ⟨by decide, by decide, fun h => absurd h (by decide)⟩
  | 1, _ => exact ⟨by decide, by decide, fun _ => by decide⟩
set_option maxHeartbeats 1600000 in
set_option maxRecDepth 20000 in
theorem lives12_any (w : World) : Calls Try.prog 5 #[] w fun e w' => e = .returned (.bool true) ∧ Below w.heap.size w w' := by
  have hc0 : Ints .i64 (w.alloc (.cells #[.int .i64 0, .int .i64 30] 3)) (some ⟨w.heap.size, 0, none⟩) [0, 30] := ints_new .i64 w [0, 30] _ _ rfl
  have K := iof_some 0 59 (some ⟨w.heap.size, 0, none⟩) 2 [0, 30] (w.alloc (.cells #[.int .i64 0, .int .i64 30] 3)) (by decide) hc0 (by decide) ex_rise (by decide) (by rw [ex_pieces]; decide) (by rw [ex_pieces]; decide)
    (by
      rw [ex_pieces]
      intro k hk
      match k, hk with
      | 0, _ => exact ⟨⟨by decide, by decide⟩, ⟨by decide, by decide⟩, ⟨by decide, by decide⟩⟩
      | 1, _ => exact ⟨⟨by decide, by decide⟩, ⟨by decide, by decide⟩, ⟨by decide, by decide⟩⟩) rfl (by decide)
  rw [ex_pieces, ex_items] at K
  have HB0 := Lib.hid (show Below w.heap.size w (w.alloc (.cells #[.int .i64 0, .int .i64 30] 3)) from (Below.refl _ _).alloc (Nat.le_refl _) _)
  have he := fun W => eq_item 1 0 0 0 W
  have hgd := guard_item
  have KM := Lib.hid (fun A c W h => imask_any 0 59 A c [(0, 0, 0, 15)] W (by decide) h (by rw [ex_vals]; decide))
  rw [ex_vals, ex_mask] at KM
  clear hc0
  go_enter Try.func5, Try.ntmps5
  go_wp2_with fail
  refine K.mono ?_
  clear K
  rintro e w1 ⟨B, d, rfl, hi, hb⟩
  have HB1 := Lib.hid (HB0.out.trans (hb.mono HB0.out.size))
  have HI := Lib.hid hi
  have hit : ItemsAt (w1.alloc (.cells #[.int .i64 0, .int .i64 0, .int .i64 0, .int .i64 15] 27)) (some ⟨w1.heap.size, 0, none⟩) [(0, 0, 0, 15)] := by
    intro k hk
    match k, hk with
    | 0, _ => exact ⟨w1.heap.size, 0, rfl, by simp, cell_new _ _ _ 0, cell_new _ _ _ 1, cell_new _ _ _ 2, cell_new _ _ _ 3⟩
  have K2 := KM.out (some ⟨w1.heap.size, 0, none⟩) 1 _ hit
  have HB2 := Lib.hid (HB1.out.alloc HB1.out.size (.cells #[.int .i64 0, .int .i64 0, .int .i64 0, .int .i64 15] 27))
  have HIX := Lib.hid (HI.out.below ((Below.refl w1.heap.size w1).alloc (Nat.le_refl _) (.cells #[.int .i64 0, .int .i64 0, .int .i64 0, .int .i64 15] 27)))
  clear hb hi hit KM
  go_wp2_with fail
  refine K2.mono ?_
  clear K2
  rintro e w2 ⟨rfl, hb⟩
  have HB3 := Lib.hid (HB2.out.trans (hb.mono HB2.out.size))
  obtain ⟨b, off, rfl, hbl, x0, x1, x2, x3⟩ := (HIX.out.below hb) 0 (by decide)
  have x0' : w2.cell? ⟨b, off, none⟩ = some (.int .i64 1) := x0
  have x1' : w2.cell? ⟨b, off + 1, none⟩ = some (.int .i64 0) := by rw [show off + 1 = off + 0 * 4 + 1 by omega]; exact x1
  have x2' : w2.cell? ⟨b, off + 2, none⟩ = some (.int .i64 0) := by rw [show off + 2 = off + 0 * 4 + 2 by omega]; exact x2
  have x3' : w2.cell? ⟨b, off + 3, none⟩ = some (.int .i64 0) := by rw [show off + 3 = off + 0 * 4 + 3 by omega]; exact x3
  clear hb x0 x1 x2 x3 hbl
  go_wp2
  go_ret
  exact ⟨rfl, HB3.out⟩
set_option maxHeartbeats 1600000 in
set_option maxRecDepth 20000 in
theorem rright_any (lo hi most : Int) (A : Option Addr) (c : Nat) (qs : List Q4) (w : World) (hl : qs.length ≤ 1000000) (hq : ItemsAt w A qs) :
    Calls Try.prog 9 #[.slice A qs.length c, .int .i64 lo, .int .i64 hi, .int .i64 most] w fun e w' => e = .returned (.bool (rightB lo hi most qs)) ∧ Below w.heap.size w w' := by
  have HQ := Lib.hid hq
  have KM := Lib.hid (fun q W => rimay_any q lo hi W)
  have HE := Lib.hid (show rightB lo hi most qs = (decide (1 ≤ qs.length) && (decide ((qs.length : Int) ≤ most) && qs.all (mayB lo hi))) from rfl)
  generalize rightB lo hi most qs = bb at HE ⊢
  clear hq
  by_cases h0 : qs.length = 0
  · obtain rfl : bb = false := by rw [HE.out, dec_n (show ¬ 1 ≤ qs.length by omega)]; rfl
    have b0 : ((qs.length : Int) == 0) = true := by rw [beq_iff_eq]; omega
    have b1 : (qs.length == 0) = true := by rw [beq_iff_eq]; exact h0
    clear HE
    go_enter Try.func9, Try.ntmps9
    go_wp2
    go_ret
    exact ⟨rfl, Below.refl _ _⟩
  · have b0 : ((qs.length : Int) == 0) = false := by rw [beq_eq_false_iff_ne]; omega
    have b1 : (qs.length == 0) = false := by rw [beq_eq_false_iff_ne]; exact h0
    by_cases h1 : (qs.length : Int) ≤ most
    · have d1 : decide (most < (qs.length : Int)) = false := dec_n (by omega)
      have HE1 := Lib.hid (show bb = qs.all (mayB lo hi) by rw [HE.out, dec_t (show 1 ≤ qs.length by omega), dec_t h1]; rfl)
      clear HE h0 h1
      go_enter Try.func9, Try.ntmps9
      go_wp2
      go_loopw [9] (fun i wr => ∃ k : Nat, k ≤ qs.length ∧ i = .int .i64 k ∧ Below w.heap.size w wr ∧ Hid (∀ j, j < k → mayB lo hi (nthQ qs j) = true)) (fun i _ => qs.length - (intOf i).toNat)
      case atStart => exact ⟨0, by omega, rfl, Below.refl _ _, Lib.hid fun j hj => absurd hj (Nat.not_lt_zero j)⟩
      case round =>
        obtain ⟨k, hk, rfl, hb, HA⟩ := hrel
        have HB := Lib.hid hb
        by_cases hlt : k < qs.length
        · have d0 : decide (k < qs.length) = true := dec_t hlt
          obtain ⟨b, off, rfl, hbl, x0, x1, x2, x3⟩ := (HQ.out.below hb) k hlt
          have K := KM.out (nthQ qs k)
          unfold qv at K
          have HNO := Lib.hid (fun h => all_no (mayB lo hi) qs k hlt h)
          have ik0 : (0 : Int) ≤ (k : Int) := by omega
          have ik1 : (k : Int) < (qs.length : Int) := by omega
          have hw1 : IntKind.i64.wrap ((k : Int) + 1) = (k : Int) + 1 := IntWalk.i64_in _ ⟨by omega, by omega⟩
          clear hb
          cases hm : mayB lo hi (nthQ qs k)
          · rw [hm] at K
            obtain rfl : bb = false := HE1.out.trans (HNO.out hm)
            clear hm HNO HE1
            generalize nthQ qs k = q at *
            go_wp2_with fail
            refine (K _).mono ?_
            rintro e w1 ⟨rfl, hb1⟩
            have HB1 := Lib.hid (HB.out.trans (hb1.mono HB.out.size))
            clear hb1
            go_wp2
            go_ret
            exact ⟨rfl, HB1.out⟩
          · rw [hm] at K
            have HA1 := Lib.hid (show ∀ j, j < k + 1 → mayB lo hi (nthQ qs j) = true from fun j hj => by
              rcases Nat.lt_or_ge j k with g | g
              · exact HA.out j g
              · obtain rfl : j = k := by omega
                exact hm)
            clear hm HNO
            generalize nthQ qs k = q at x0 x1 x2 x3 K
            go_wp2_with fail
            refine (K _).mono ?_
            rintro e w1 ⟨rfl, hb1⟩
            have HB1 := Lib.hid (HB.out.trans (hb1.mono HB.out.size))
            clear hb1
            go_wp2
            go_roundw
            case rel => exact ⟨k + 1, by omega, by go_num, HB1.out, HA1⟩
            case measure => simp [intOf]; omega
        · obtain rfl : k = qs.length := by omega
          obtain rfl : bb = true := HE1.out.trans ((all_iff _ _).2 HA.out)
          clear hb HE1 hlt
          go_wp2
          go_ret
          exact ⟨rfl, HB.out⟩
    · have d1 : decide (most < (qs.length : Int)) = true := dec_t (by omega)
      obtain rfl : bb = false := by rw [HE.out, dec_n h1]; simp
      clear HE h0 h1
      go_enter Try.func9, Try.ntmps9
      go_wp2
      go_ret
      exact ⟨rfl, Below.refl _ _⟩
end Go.Proofs.Ytbfndcogieiejaa
