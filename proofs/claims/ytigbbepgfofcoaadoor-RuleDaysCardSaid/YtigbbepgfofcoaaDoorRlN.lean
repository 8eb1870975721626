/- The function that rule.Times asks three times (layer 32). Is a number in a list: feriaref32.has (layer 32). Is a rule more than is gone through: feriaref32.Great (layer 32). How long a slice in an argument can be, by the form's reach; nothing of the program is spoken of (layer 32). How a law's argument that is a rule is read, with the lengths that the reach allows (layer 32). -/
import Derived.Test.YtigbbepgfofcoaaDoorRlB
import Derived.Test.YtigbbepgfofcoaaDoorMaskA
import Derived.Test.YtigbbepgfofcoaaDoorRlF
import Derived.Test.YtigbbepgfofcoaaDoorRlC
import Derived.Test.YtigbbepgfofcoaaDoorOpen
import Derived.Lib.SmallJoins
import Derived.Deep.SlicePairs
import GoSem.ClaimJoined
import Derived.Test.YtigbbepgfofcoaaDoorRlA
namespace Go.Proofs.YtigbbepgfofcoaaDoor
open Go.RowKit
set_option linter.unusedVariables false

/-- a mask of a list, or of one number, or all -/
def ofM (zs : List Int) (longer : Bool) (x : Int) (all : Nat) : Nat := if 0 < zs.length then mk (inL zs) else if longer = true then mk (inL [x]) else all
set_option maxHeartbeats 800000 in
set_option maxRecDepth 20000 in
theorem times1_any (A : Option Addr) (c : Nat) (zs : List Int) (longer : Bool) (x : Int) (all : Nat) (w : World) (hl : zs.length ≤ 1000000) (hi : Ints .i64 w A zs) :
    Calls Tryd.prog 81 #[.slice A zs.length c, .bool longer, .int .i64 x, .int .u64 all] w fun e w' => e = .returned (.int .u64 (ofM zs longer x all : Nat)) ∧ Below w.heap.size w w' := by
  have K := of_any A c zs w hl hi
  have K1 := of_any (some ⟨w.heap.size, 0, none⟩) 1 [x] (w.alloc (.cells #[.int .i64 x] 3)) (show 1 ≤ 1000000 by omega) (ints_new .i64 w [x] _ 3 rfl)
  have HB := Lib.hid (show Below w.heap.size w (w.alloc (.cells #[.int .i64 x] 3)) from (Below.refl _ _).alloc (Nat.le_refl _) _)
  unfold ofM
  by_cases h : 0 < zs.length
  · have d0 : decide (0 < zs.length) = true := dec_t h
    have d1 : decide ((0 : Int) < (zs.length : Int)) = true := dec_t (by omega)
    rw [if_pos h]
    clear K1 hl hi h
    go_enter Tryd.func81, Tryd.ntmps81
    go_wp2_with fail
    refine K.mono ?_
    rintro e w1 ⟨rfl, rfl⟩
    go_wp2
    go_ret
    exact ⟨rfl, Below.refl _ _⟩
  · have d0 : decide (0 < zs.length) = false := dec_n h
    have d1 : decide ((0 : Int) < (zs.length : Int)) = false := dec_n (by omega)
    rw [if_neg h]
    clear K hl hi h
    cases longer
    · go_enter Tryd.func81, Tryd.ntmps81
      go_wp2_with fail
      go_ret
      exact ⟨rfl, Below.refl _ _⟩
    · go_enter Tryd.func81, Tryd.ntmps81
      go_wp2_with fail
      refine K1.mono ?_
      rintro e w1 ⟨rfl, rfl⟩
      go_wp2
      go_ret
      exact ⟨rfl, HB.out⟩
end Go.Proofs.YtigbbepgfofcoaaDoor
namespace Go.Proofs.YtigbbepgfofcoaaDoor
open Go.RowKit
set_option linter.unusedVariables false

set_option maxHeartbeats 800000 in
set_option maxRecDepth 20000 in
theorem rhas32_any (x : Int) (A : Option Addr) (c : Nat) (zs : List Int) (w : World) (hl : zs.length ≤ 9223372036854775807) (hi2 : Ints .i64 w A zs) :
    Calls Tryd.prog 79 #[.slice A zs.length c, .int .i64 x] w fun e w' => e = .returned (.bool (zs.any fun z => decide (z = x))) ∧ w = w' := by
  have HI := Lib.hid hi2
  have HL := Lib.hid hl
  have HS := Lib.hid (fun k h => any_drop (fun z => decide (z = x)) zs k h)
  have HE := Lib.hid (any_end (fun z => decide (z = x)) zs)
  have H0 := Lib.hid (show (zs.drop 0).any (fun z => decide (z = x)) = zs.any (fun z => decide (z = x)) from rfl)
  generalize zs.any (fun z => decide (z = x)) = b at H0 ⊢
  clear hl hi2
  go_enter Tryd.func79, Tryd.ntmps79
  go_wp2
  go_loop [5] (fun i => ∃ k : Nat, k ≤ zs.length ∧ i = .int .i64 k ∧ Hid ((zs.drop k).any (fun z => decide (z = x)) = b)) (fun i => zs.length - (intOf i).toNat)
  case atStart => exact ⟨0, Nat.zero_le _, rfl, H0⟩
  case round =>
    obtain ⟨k, hk, rfl, HA⟩ := hrel
    by_cases hlt : k < zs.length
    · obtain ⟨bk, off, rfl, hb, hcell⟩ := HI.out k hlt
      have hst := HS.out k hlt
      rw [HA.out] at hst
      have HST := Lib.hid hst
      have hl := HL.out
      have d0 : decide (k < zs.length) = true := dec_t hlt
      have ik0 : (0 : Int) ≤ (k : Int) := by omega
      have ik1 : (k : Int) < (zs.length : Int) := by omega
      have hw1 : IntKind.i64.wrap ((k : Int) + 1) = (k : Int) + 1 := IntWalk.i64_in _ ⟨by omega, by omega⟩
      have HK := Lib.hid (And.intro hk hlt)
      generalize zs[k]?.getD 0 = z at hcell HST
      clear hst hk hlt HA
      by_cases hp : z = x
      · have e1 : (z == x) = true := by simp [hp]
        have HB := Lib.hid (show b = true by rw [HST.out, dec_t hp]; rfl)
        clear HST hp
        go_wp2
        go_ret
        exact ⟨by rw [HB.out]; rfl, rfl⟩
      · have e1 : (z == x) = false := by rw [beq_eq_false_iff_ne]; exact hp
        have HB := Lib.hid (show (zs.drop (k + 1)).any (fun z => decide (z = x)) = b by rw [HST.out, dec_n hp]; rfl)
        clear HST hp
        go_wp2
        go_round
        case rel => exact ⟨k + 1, by have := HK.out; omega, by go_num, HB⟩
        case measure =>
          have := HK.out
          simp [intOf]; omega
    · obtain rfl : k = zs.length := by omega
      have d0 : decide (zs.length < zs.length) = false := dec_n (by omega)
      have HB := Lib.hid (show b = false by rw [← HA.out]; exact HE.out)
      clear hk hlt
      go_wp2
      go_ret
      exact ⟨by rw [HB.out]; rfl, rfl⟩
end Go.Proofs.YtigbbepgfofcoaaDoor
namespace Go.Proofs.YtigbbepgfofcoaaDoor
open Go.RowKit
set_option linter.unusedVariables false

/-- the sum of a rule's lengths -/
def lenR (r : Rl) : Nat := (r.Z 0).length + (r.Z 1).length + r.N.length + (r.Z 2).length + (r.Z 3).length + (r.Z 4).length
set_option maxHeartbeats 1600000 in
set_option maxRecDepth 20000 in
theorem great32_any (r : Rl) (w : World) (hs : lenR r ≤ 9223372036854775807) :
    Calls Tryd.prog 6 #[rlV r] w fun e w' => e = .returned (.bool (decide (600 < lenR r))) ∧ Below w.heap.size w w' := by
  unfold lenR at hs ⊢
  generalize ha : (r.Z 0).length = a at *
  generalize hb : (r.Z 1).length = b at *
  generalize hc : r.N.length = c at *
  generalize hd : (r.Z 2).length = d at *
  generalize he : (r.Z 3).length = e at *
  generalize hf : (r.Z 4).length = f at *
  have w1 : IntKind.i64.wrap ((a : Int) + (b : Int)) = (a : Int) + (b : Int) := IntWalk.i64_in _ ⟨by omega, by omega⟩
  have w2 : IntKind.i64.wrap ((a : Int) + (b : Int) + (c : Int)) = (a : Int) + (b : Int) + (c : Int) := IntWalk.i64_in _ ⟨by omega, by omega⟩
  have w3 : IntKind.i64.wrap ((a : Int) + (b : Int) + (c : Int) + (d : Int)) = (a : Int) + (b : Int) + (c : Int) + (d : Int) := IntWalk.i64_in _ ⟨by omega, by omega⟩
  have w4 : IntKind.i64.wrap ((a : Int) + (b : Int) + (c : Int) + (d : Int) + (e : Int)) = (a : Int) + (b : Int) + (c : Int) + (d : Int) + (e : Int) := IntWalk.i64_in _ ⟨by omega, by omega⟩
  have w5 : IntKind.i64.wrap ((a : Int) + (b : Int) + (c : Int) + (d : Int) + (e : Int) + (f : Int)) = (a : Int) + (b : Int) + (c : Int) + (d : Int) + (e : Int) + (f : Int) := IntWalk.i64_in _ ⟨by omega, by omega⟩
  obtain ⟨p, hp⟩ : ∃ p, decide (600 < a + b + c + d + e + f) = p := ⟨_, rfl⟩
  have hp2 : decide ((600 : Int) < (a : Int) + (b : Int) + (c : Int) + (d : Int) + (e : Int) + (f : Int)) = p := by rw [← hp]; exact decide_eq_decide.2 (by omega)
  rw [hp]
  unfold rlV rlC

  rw [ha, hb, hc, hd, he, hf] at *
  clear hs hp
  go_enter Tryd.func6, Tryd.ntmps6
  go_wp2
  go_ret
  exact ⟨by first | rfl | (rw [hp2]; rfl), (Below.refl _ _).alloc (Nat.le_refl _) _⟩
end Go.Proofs.YtigbbepgfofcoaaDoor
namespace Go.Proofs.YtigbbepgfofcoaaDoor
open Go.ChangeShapes Go.WideShapes Go.ChangeAt Go.RowKit Go.Joins Go.Deep
set_option linter.unusedVariables false

theorem slice_weight {H : Type} {enc : TypeId × Value → H} {P : Program} {w : World} {base : Nat} {sp : Nat → Bool} {held : Bool} {t e : TypeId} {A : Option Addr} {n c fuel : Nat} {x : DataW H × List MemPlace}
    (ht : P.underlying t = some (.slice e)) (hf : DataW.trod enc P w base sp held fuel t [.slice A n c] = some x) (R : Nat) (h : ∀ b ∈ x.1.weights P t, b ≤ R) : n * P.bytesOf e ≤ R := by
  rcases open_slice ht hf with ⟨hcs, rfl⟩ | ⟨a, len, cap, m, k, D, Pl, hcs, hb, hl, hm, hmm, rfl, hx⟩
  · simp at hcs
    obtain ⟨_, rfl, _⟩ := hcs
    simp
  · simp at hcs
    obtain ⟨_, rfl, _⟩ := hcs
    have q := h ((((List.range n).map D).length + ((List.range (m - n)).map fun j => D (n + j)).length) * P.bytesOf e) (by
      unfold DataW.weights
      rw [ht]
      exact List.mem_cons_self ..)
    rw [List.length_map, List.length_range] at q
    exact Nat.le_trans (Nat.mul_le_mul_right _ (Nat.le_add_right _ _)) q
theorem weights_at {H : Type} {P : Program} : ∀ (ts : List TypeId) (ds : List (DataW H)) (k : Nat) (t : TypeId) (d : DataW H), ts[k]? = some t → ds[k]? = some d → ∀ b ∈ d.weights P t, b ∈ DataW.weightsEach P ts ds
  | [], ds, k, t, d, h, _, b, hb => by simp at h
  | t0 :: ts, [], k, t, d, _, h, b, hb => by simp at h
  | t0 :: ts, d0 :: ds, 0, t, d, h1, h2, b, hb => by
    simp at h1 h2
    subst h1 h2
    unfold DataW.weightsEach
    exact List.mem_append_left _ hb
  | t0 :: ts, d0 :: ds, k + 1, t, d, h1, h2, b, hb => by
    unfold DataW.weightsEach
    exact List.mem_append_right _ (weights_at ts ds k t d (by simpa using h1) (by simpa using h2) b hb)
end Go.Proofs.YtigbbepgfofcoaaDoor
namespace Go.Proofs.YtigbbepgfofcoaaDoor
open Go.ChangeShapes Go.WideShapes Go.ChangeAt Go.RowKit Go.Joins Go.Deep
set_option linter.unusedVariables false

theorem open_ruleR {H : Type} {enc : TypeId × Value → H} {P : Program} {w : World} {base b0 : Nat} {r : Reach} {sp : Nat → Bool} {held : Bool} {t e i : TypeId} {f0 f1 g0 g1 g2 g3 g4 g5 g6 g7 g8 g9 g10 : Field} {v : Value} {d : DataW H} {ps : List MemPlace}
    (hs : P.underlying t = some (.struct #[g0, g1, g2, g3, g4, g5, g6, g7, g8, g9, g10])) (hone : oneCellFields P #[g0, g1, g2, g3, g4, g5, g6, g7, g8, g9, g10] = true) (hC : P.cellsOf t = 11)
    (n0 : P.underlying g0.type = some (.int .i64))
    (n1 : P.underlying g1.type = some (.int .i64))
    (n2 : P.underlying g2.type = some (.int .i64))
    (n3 : P.underlying g3.type = some (.int .i64))
    (n4 : P.underlying g4.type = some (.int .i64))
    (n5 : P.underlying g5.type = some (.slice i))
    (n6 : P.underlying g6.type = some (.slice i))
    (n8 : P.underlying g8.type = some (.slice i))
    (n9 : P.underlying g9.type = some (.slice i))
    (n10 : P.underlying g10.type = some (.slice i))
    (n7 : P.underlying g7.type = some (.slice e)) (hi : P.underlying i = some (.int .i64)) (ci : P.cellsOf i = 1)
    (he : P.underlying e = some (.struct #[f0, f1])) (hone2 : oneCellFields P #[f0, f1] = true) (ce : P.cellsOf e = 2) (u0 : P.underlying f0.type = some (.int .i64)) (u1 : P.underlying f1.type = some (.int .i64))
    (hval : Value.okWide P w r b0 t v) (h : DataW.Trod enc P w base sp held t v d ps) (M : Nat) (hM : ∀ b ∈ d.weights P t, b ≤ M) (b8 : 8 ≤ P.bytesOf i) (b16 : 16 ≤ P.bytesOf e) : ∃ R : Rl, v = rlV R ∧ RlAt w R ∧ RlIn R ∧ (∀ j, j < 5 → (R.Z j).length * 8 ≤ M) ∧ R.N.length * 16 ≤ M := by
  obtain ⟨cs, rfl, hsz⟩ := okWide_struct hs hval
  obtain ⟨c0, c1, c2, c3, c4, c5, c6, c7, c8, c9, c10, rfl⟩ := array11 (hsz.trans hC)
  obtain ⟨fuel, hf⟩ := h
  obtain ⟨xs, n, _, hx, _, hlen, hg⟩ := DataW.trod_struct hs hf
  have hMk : ∀ (k : Nat) (tk : TypeId) (y : DataW H × List MemPlace), [g0.type, g1.type, g2.type, g3.type, g4.type, g5.type, g6.type, g7.type, g8.type, g9.type, g10.type][k]? = some tk → xs[k]? = some y → ∀ b ∈ y.1.weights P tk, b ≤ M := fun k tk y h1 h2 b hb => hM b (by
    have hd : d = .agg (xs.map (·.1)) := congrArg Prod.fst hx
    rw [hd]
    unfold DataW.weights
    rw [hs]
    exact weights_at _ _ k tk y.1 (by simpa using h1) (by rw [List.getElem?_map, h2]; rfl) b hb)
  match xs, hlen with
  | [y0, y1, y2, y3, y4, y5, y6, y7, y8, y9, y10], _ =>
    obtain ⟨o0, k0⟩ := hone_of hone 0 g0 rfl
    have t0 : DataW.trod enc P w base sp held n g0.type [c0] = some y0 := by simpa [Value.cells, o0, k0] using hg 0 g0 rfl
    obtain ⟨a0, ea0, _, wz0⟩ := DataW.trod_int n0 t0
    obtain ⟨o1, k1⟩ := hone_of hone 1 g1 rfl
    have t1 : DataW.trod enc P w base sp held n g1.type [c1] = some y1 := by simpa [Value.cells, o1, k1] using hg 1 g1 rfl
    obtain ⟨a1, ea1, _, wz1⟩ := DataW.trod_int n1 t1
    obtain ⟨o2, k2⟩ := hone_of hone 2 g2 rfl
    have t2 : DataW.trod enc P w base sp held n g2.type [c2] = some y2 := by simpa [Value.cells, o2, k2] using hg 2 g2 rfl
    obtain ⟨a2, ea2, _, wz2⟩ := DataW.trod_int n2 t2
    obtain ⟨o3, k3⟩ := hone_of hone 3 g3 rfl
    have t3 : DataW.trod enc P w base sp held n g3.type [c3] = some y3 := by simpa [Value.cells, o3, k3] using hg 3 g3 rfl
    obtain ⟨a3, ea3, _, wz3⟩ := DataW.trod_int n3 t3
    obtain ⟨o4, k4⟩ := hone_of hone 4 g4 rfl
    have t4 : DataW.trod enc P w base sp held n g4.type [c4] = some y4 := by simpa [Value.cells, o4, k4] using hg 4 g4 rfl
    obtain ⟨a4, ea4, _, wz4⟩ := DataW.trod_int n4 t4
    obtain ⟨o5, k5⟩ := hone_of hone 5 g5 rfl
    have t5 : DataW.trod enc P w base sp held n g5.type [c5] = some y5 := by simpa [Value.cells, o5, k5] using hg 5 g5 rfl
    obtain ⟨A5, d5, z5, rfl, h5, hz5, hl5⟩ := open_intsv n5 hi ci t5
    have q5 := Nat.le_trans (Nat.mul_le_mul_left _ b8) (slice_weight n5 t5 M (hMk 5 _ y5 rfl rfl))
    obtain ⟨o6, k6⟩ := hone_of hone 6 g6 rfl
    have t6 : DataW.trod enc P w base sp held n g6.type [c6] = some y6 := by simpa [Value.cells, o6, k6] using hg 6 g6 rfl
    obtain ⟨A6, d6, z6, rfl, h6, hz6, hl6⟩ := open_intsv n6 hi ci t6
    have q6 := Nat.le_trans (Nat.mul_le_mul_left _ b8) (slice_weight n6 t6 M (hMk 6 _ y6 rfl rfl))
    obtain ⟨o7, k7⟩ := hone_of hone 7 g7 rfl
    have t7 : DataW.trod enc P w base sp held n g7.type [c7] = some y7 := by simpa [Value.cells, o7, k7] using hg 7 g7 rfl
    obtain ⟨AW, cw, lw, rfl, hw, hwz, hwl⟩ := open_nths n7 he hone2 ce u0 u1 t7
    have q7 := Nat.le_trans (Nat.mul_le_mul_left _ b16) (slice_weight n7 t7 M (hMk 7 _ y7 rfl rfl))
    obtain ⟨o8, k8⟩ := hone_of hone 8 g8 rfl
    have t8 : DataW.trod enc P w base sp held n g8.type [c8] = some y8 := by simpa [Value.cells, o8, k8] using hg 8 g8 rfl
    obtain ⟨A8, d8, z8, rfl, h8, hz8, hl8⟩ := open_intsv n8 hi ci t8
    have q8 := Nat.le_trans (Nat.mul_le_mul_left _ b8) (slice_weight n8 t8 M (hMk 8 _ y8 rfl rfl))
    obtain ⟨o9, k9⟩ := hone_of hone 9 g9 rfl
    have t9 : DataW.trod enc P w base sp held n g9.type [c9] = some y9 := by simpa [Value.cells, o9, k9] using hg 9 g9 rfl
    obtain ⟨A9, d9, z9, rfl, h9, hz9, hl9⟩ := open_intsv n9 hi ci t9
    have q9 := Nat.le_trans (Nat.mul_le_mul_left _ b8) (slice_weight n9 t9 M (hMk 9 _ y9 rfl rfl))
    obtain ⟨o10, k10⟩ := hone_of hone 10 g10 rfl
    have t10 : DataW.trod enc P w base sp held n g10.type [c10] = some y10 := by simpa [Value.cells, o10, k10] using hg 10 g10 rfl
    obtain ⟨A10, d10, z10, rfl, h10, hz10, hl10⟩ := open_intsv n10 hi ci t10
    have q10 := Nat.le_trans (Nat.mul_le_mul_left _ b8) (slice_weight n10 t10 M (hMk 10 _ y10 rfl rfl))
    simp at ea0 ea1 ea2 ea3 ea4
    subst ea0 ea1 ea2 ea3 ea4
    refine ⟨⟨a0, a1, a2, a3, a4, (fun | 0 => A5 | 1 => A6 | 2 => A8 | 3 => A9 | 4 => A10 | _ => none), (fun | 0 => d5 | 1 => d6 | 2 => d8 | 3 => d9 | 4 => d10 | _ => 0), (fun | 0 => z5 | 1 => z6 | 2 => z8 | 3 => z9 | 4 => z10 | _ => []), AW, cw, lw⟩, rfl, ⟨fun j hj => ?_, hw⟩, ⟨wf_i64 wz0, wf_i64 wz1, wf_i64 wz2, wf_i64 wz3, wf_i64 wz4, fun j hj => ?_, hwz, hwl⟩, fun j hj => ?_, q7⟩
    · match j, hj with
      | 0, _ => exact h5
      | 1, _ => exact h6
      | 2, _ => exact h8
      | 3, _ => exact h9
      | 4, _ => exact h10
    · match j, hj with
      | 0, _ => exact ⟨hz5, hl5⟩
      | 1, _ => exact ⟨hz6, hl6⟩
      | 2, _ => exact ⟨hz8, hl8⟩
      | 3, _ => exact ⟨hz9, hl9⟩
      | 4, _ => exact ⟨hz10, hl10⟩
    · match j, hj with
      | 0, _ => exact q5
      | 1, _ => exact q6
      | 2, _ => exact q8
      | 3, _ => exact q9
      | 4, _ => exact q10
end Go.Proofs.YtigbbepgfofcoaaDoor
