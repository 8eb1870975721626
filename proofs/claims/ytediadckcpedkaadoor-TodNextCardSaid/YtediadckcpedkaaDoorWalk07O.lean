/- The walk of TodOn (layer 7). -/
import Derived.Test.YtediadckcpedkaaDoorTodD
import Derived.Test.YtediadckcpedkaaDoorOpen
namespace Go.Proofs.YtediadckcpedkaaDoor
open Go.RowKit
set_option linter.unusedVariables false

theorem hd_bit (H i : Nat) (h : i < 24) : (hd H).testBit i = H.testBit i := by unfold hd; rw [mod_bit, dec_t h, Bool.true_and]
theorem hm_bit (M i : Nat) (h : i < 60) : (hm M).testBit i = M.testBit i := by unfold hm; rw [mod_bit, dec_t h, Bool.true_and]
theorem pM_in (H M S t : Nat) (ht : t < 86400) : inT (t : Int) H M S = pM H M S t := by
  rw [inT_in _ _ _ _ (by omega) (by omega)]
  rw [show ((t : Int) / 3600) = ((t / 3600 : Nat) : Int) by omega, show ((t : Int) / 60 % 60) = ((t / 60 % 60 : Nat) : Int) by omega, show ((t : Int) % 60) = ((t % 60 : Nat) : Int) by omega]
  rw [inM_in _ _ (by omega), inM_in _ _ (by omega), inM_in _ _ (by omega)]
  unfold pM pT
  rw [hd_bit _ _ (by omega), hm_bit _ _ (by omega), hm_bit _ _ (by omega)]
theorem numsP_skip' (p : Nat → Bool) (j : Nat) : ∀ k, (∀ i, j ≤ i → i < j + k → p i = false) → numsP p (j + k) = numsP p j
  | 0, _ => rfl
  | k + 1, h => by rw [← Nat.add_assoc, numsP_no p (j + k) (h _ (by omega) (by omega)), numsP_skip' p j k fun i h1 h2 => h i h1 (by omega)]
theorem numsP_to (p : Nat → Bool) (j a : Nat) (hj : j ≤ a) (h : ∀ i, j ≤ i → i < a → p i = false) : numsP p a = numsP p j := by
  have := numsP_skip' p j (a - j) fun i h1 h2 => h i h1 (by omega)
  rwa [show j + (a - j) = a by omega] at this
/-- the last one told, ahead of a second -/
def LastOf (p : Nat → Bool) (A : Nat) (L : Int) : Prop := (A = 0 ∧ L = -1) ∨ (∃ l : Nat, A = l + 1 ∧ L = (l : Int) ∧ p l = true)
theorem LastOf.lt {p : Nat → Bool} {A : Nat} {L : Int} (h : LastOf p A L) : -1 ≤ L ∧ L < (A : Int) := by
  rcases h with ⟨h1, h2⟩ | ⟨l, h1, h2, _⟩ <;> omega
theorem LastOf.end {p : Nat → Bool} {A T : Nat} {L : Int} (h : LastOf p A L) (hT : T < 86400) (h1 : p T = true) (h2 : ∀ u, T < u → p u = false) (hn : NoNext p A) : L = (T : Int) ∧ 0 < (numsP p A).length := by
  have hTA : T < A := by
    rcases Nat.lt_or_ge T A with g | g
    · exact g
    · have := hn T g hT; rw [h1] at this; cases this
  rcases h with ⟨q1, _⟩ | ⟨l, q1, q2, q3⟩
  · omega
  · have hl : l ≤ T := by
      rcases Nat.lt_or_ge T l with g | g
      · have := h2 l g; rw [q3] at this; cases this
      · exact g
    refine ⟨by omega, ?_⟩
    rw [q1, numsP_yes p l q3, List.length_append]
    simp
theorem LastOf.none {p : Nat → Bool} {A : Nat} {L : Int} (h : LastOf p A L) (h0 : ∀ u, p u = false) : L = -1 ∧ (numsP p A).length = 0 := by
  rcases h with ⟨q1, q2⟩ | ⟨l, q1, q2, q3⟩
  · subst q1; exact ⟨q2, rfl⟩
  · rw [h0 l] at q3; cases q3
set_option maxHeartbeats 3200000 in
set_option maxRecDepth 100000 in
theorem todOn_core (H M S : Nat) (hH : H < 18446744073709551616) (hM : M < 18446744073709551616) (hS : S < 18446744073709551616) (w : World) (hT : Tab w) :
    Calls Tryd.prog 7 #[.agg #[.int .u64 H, .int .u64 M, .int .u64 S]] w fun e w' => e = .returned (.bool true) ∧ Below w.heap.size w w' := by
  have hb2 : Below w.heap.size w (w.alloc (.cells #[.int .u64 H, .int .u64 M, .int .u64 S] 46)) := (Below.refl _ _).alloc (Nat.le_refl _) _
  have HT := Lib.hid (hT.below hb2)
  have HB := Lib.hid hb2
  have KNX := Lib.hid (fun A : Nat => tnext_or (A : Int) A (by omega) H M S hH hM hS)
  have KIN := Lib.hid (fun (t : Nat) (W : World) (ht : t < 86400) => pM_in H M S t ht ▸ tin_any (t : Int) H M S W hH hM hS)
  have KLEN := Lib.hid (fun W => tlen_any H M S hH hM hS W)
  have KLA := Lib.hid (show (∃ t : Nat, t < 86400 ∧ pM H M S t = true ∧ (∀ u, t < u → pM H M S u = false) ∧ ∀ w, Calls Tryd.prog 28 #[.int .u64 H, .int .u64 M, .int .u64 S] w fun e w' => e = .returned (.tuple #[.int .i64 (t : Int), .bool true]) ∧ w = w') ∨
      ((∀ u, pM H M S u = false) ∧ ∀ w, Calls Tryd.prog 28 #[.int .u64 H, .int .u64 M, .int .u64 S] w fun e w' => e = .returned (.tuple #[.int .i64 0, .bool false]) ∧ w = w') by
    cases hb : okT (hd H) (hm M) (hm S)
    · exact .inr ⟨no_mask hb, fun w => tlast_no H M S hH hM hS hb w⟩
    · exact .inl (tlast_yes H M S hH hM hS hb))
  have KLV := fun W hW => lives07_any W hW
  unfold NextOr at KNX
  obtain ⟨p, hp⟩ : ∃ p, pM H M S = p := ⟨_, rfl⟩
  rw [hp] at KIN KLEN KLA
  simp only [hp] at KNX
  clear hb2 hT hH hM hS hp
  go_enter Tryd.func7, Tryd.ntmps7
  go_wp2
  go_loop [3, 4, 5] (fun a n l => ∃ (A : Nat) (L : Int), A ≤ 86400 ∧ a = .int .i64 A ∧ n = .int .i64 ((numsP p A).length : Nat) ∧ l = .int .i64 L ∧ LastOf p A L) (fun a _ _ => 86401 - (intOf a).toNat)
  case atStart => exact ⟨0, -1, by omega, rfl, rfl, rfl, .inl ⟨rfl, rfl⟩⟩
  case round =>
    obtain ⟨A, L, hA, rfl, rfl, rfl, hL⟩ := hrel
    have HL := Lib.hid hL
    have HA := Lib.hid hA
    have hll := hL.lt
    have hN := numsP_le p A
    have HN := Lib.hid (show (numsP p A).length ≤ 86400 by omega)
    clear hL
    have dn : decide ((((numsP p A).length : Nat) : Int) < 87000) = true := dec_t (by omega)
    rcases KNX.out A with ⟨t, ht, KN⟩ | ⟨hno, KN⟩
    · have ht1 := ht.1
      have ht2 := ht.2.1
      have HP := Lib.hid ht.2.2.1
      have KI := fun W => KIN.out t W ht2
      rw [ht.2.2.1] at KI
      have HS := Lib.hid (show ((numsP p (t + 1)).length : Nat) = (numsP p A).length + 1 by
        rw [numsP_yes p t ht.2.2.1, List.length_append, numsP_to p A t ht.1 ht.2.2.2]; rfl)
      have d1 : decide ((t : Int) ≤ L) = false := dec_n (by omega)
      have d2 : decide ((t : Int) < (A : Int)) = false := dec_n (by omega)
      have HT1 := Lib.hid ht1
      have HT2 := Lib.hid ht2
      clear ht ht1 ht2
      generalize (numsP p A).length = N at HS HN hN dn ⊢
      go_wp2_with fail
      refine (KN _ HT.out).mono ?_
      rintro e w' ⟨rfl, rfl⟩
      clear KN hN dn hA
      go_wp2_with fail
      refine (KI _).mono ?_
      rintro e w' ⟨rfl, rfl⟩
      clear KI
      have b1 : IntKind.i64.wrap ((t : Int) + 1) = (t : Int) + 1 := IntWalk.i64_in _ ⟨by omega, by have := HT2.out; omega⟩
      have b3 : IntKind.i64.wrap ((N : Int) + 1) = (N : Int) + 1 := IntWalk.i64_in _ ⟨by omega, by have := HN.out; omega⟩
      go_wp2
      go_round
      case rel => exact ⟨t + 1, (t : Int), HT2.out, by go_num, by rw [HS.out]; go_num, rfl, .inr ⟨t, rfl, rfl, HP.out⟩⟩
      case measure =>
        have := HT1.out
        have := HA.out
        have := HT2.out
        simp [intOf]; omega
    · have HE := Lib.hid (show (numsP p 86400).length = (numsP p A).length by rw [numsP_to p A 86400 hA hno])
      rw [HE.out] at KLEN
      rcases KLA.out with ⟨T, t1, t2, t3, KL⟩ | ⟨t0, KL⟩
      · obtain ⟨l1, l2⟩ := HL.out.end t1 t2 t3 hno
        have dz : decide ((0 : Int) < (((numsP p A).length : Nat) : Int)) = true := dec_t (by omega)
        have dN : ((((numsP p A).length : Nat) : Int) == (((numsP p A).length : Nat) : Int)) = true := by rw [beq_iff_eq]
        have dT : ((T : Int) == (T : Int)) = true := by rw [beq_iff_eq]
        subst l1
        clear HE t1 t2 t3 hno l2 KLA HL HN
        generalize (numsP p A).length = N at KLEN dn dz dN hN ⊢
        go_wp2_with fail
        refine (KN _ HT.out).mono ?_
        rintro e w' ⟨rfl, rfl⟩
        clear KN hN dn hA hll
        go_wp2_with fail
        refine (KL _).mono ?_
        rintro e w' ⟨rfl, rfl⟩
        go_wp2_with fail
        refine (KLEN.out _).mono ?_
        rintro e w' ⟨rfl, rfl⟩
        go_wp2_with fail
        all_goals first
          | (exfalso; rw [decide_eq_true_eq] at dz; omega)
          | (
            refine (KLV _ HT.out).mono ?_
            rintro e w' ⟨rfl, rfl⟩
            go_wp2
            go_ret
            exact ⟨rfl, HB.out⟩)
      · obtain ⟨l1, l2⟩ := HL.out.none t0
        subst l1
        rw [l2] at KLEN dn hN
        rw [l2]
        clear HE t0 hno KLA HL l2
        go_wp2_with fail
        refine (KN _ HT.out).mono ?_
        rintro e w' ⟨rfl, rfl⟩
        go_wp2_with fail
        refine (KL _).mono ?_
        rintro e w' ⟨rfl, rfl⟩
        go_wp2_with fail
        refine (KLEN.out _).mono ?_
        rintro e w' ⟨rfl, rfl⟩
        go_wp2_with fail
        all_goals (
          refine (KLV _ HT.out).mono ?_
          rintro e w' ⟨rfl, rfl⟩
          go_wp2
          go_ret
          exact ⟨rfl, HB.out⟩)
theorem todOn_walk (ms : List Int) (w : World) (hm : ms.length = 3) (hmw : ∀ z ∈ ms, (Lit.int .u64 z).wf = true) (hT : Tab w) :
    Calls Tryd.prog 7 #[.agg (ms.map (Value.int .u64)).toArray] w fun e w' => e = .returned (.bool true) ∧ Below w.heap.size w w' := by
  match ms, hm, hmw with
  | [H', M', S'], _, hmw =>
    obtain ⟨H, rfl, hH⟩ := wf_u64 (hmw H' (by simp))
    obtain ⟨M, rfl, hM⟩ := wf_u64 (hmw M' (by simp))
    obtain ⟨S, rfl, hS⟩ := wf_u64 (hmw S' (by simp))
    exact todOn_core H M S (by omega) (by omega) (by omega) w hT
end Go.Proofs.YtediadckcpedkaaDoor
