/- Contract of the document's Of over numbers that rise (layer 3): the walk. -/
import Derived.Test.YtjlieamjlelipaaDoorCvP
namespace Go.Proofs.YtjlieamjlelipaaDoor
open Go.RowKit
set_option linter.unusedVariables false

def RIn (zs : List Int) (p : Nat) (w : World) (k : Value) (wr : World) : Prop := ∃ K : Nat, p ≤ K ∧ K < zs.length ∧ k = .int .i64 (K : Int) ∧
  (p < K → extN (zs.drop p) (stepOf (zs.drop p)) (K + 1 - p) (zs.length - p - (K + 1 - p)) = extN (zs.drop p) (stepOf (zs.drop p)) 2 (zs.length - p - 2)) ∧ Quiet w wr
theorem drop_at (zs : List Int) (p k : Nat) (h : p ≤ k) : (zs.drop p)[k - p]?.getD 0 = zs[k]?.getD 0 := by rw [drop_get, show p + (k - p) = k by omega]
/-- the inner loop goes on -/
theorem rin_go (zs : List Int) (p K : Nat) (h1 : p ≤ K) (h2 : K + 1 < zs.length) (hs : zs[K + 1]?.getD 0 - zs[K]?.getD 0 = stepOf (zs.drop p))
    (he : p < K → extN (zs.drop p) (stepOf (zs.drop p)) (K + 1 - p) (zs.length - p - (K + 1 - p)) = extN (zs.drop p) (stepOf (zs.drop p)) 2 (zs.length - p - 2)) :
    extN (zs.drop p) (stepOf (zs.drop p)) (K + 1 + 1 - p) (zs.length - p - (K + 1 + 1 - p)) = extN (zs.drop p) (stepOf (zs.drop p)) 2 (zs.length - p - 2) := by
  by_cases h : p < K
  · rw [← he h, show zs.length - p - (K + 1 - p) = zs.length - p - (K + 1 + 1 - p) + 1 by omega, show K + 1 + 1 - p = K + 1 - p + 1 by omega]
    refine (extN_go _ _ _ _ ?_).symm
    rw [drop_at zs p (K + 1) (by omega), show K + 1 - p - 1 = K - p by omega, drop_at zs p K h1]
    exact hs
  · obtain rfl : p = K := by omega
    rw [show p + 1 + 1 - p = 2 by omega]
/-- the inner loop ends: how far it has come -/
theorem rin_end (zs : List Int) (p K : Nat) (h1 : p < K) (h2 : K < zs.length) (hs : K + 1 = zs.length ∨ zs[K + 1]?.getD 0 - zs[K]?.getD 0 ≠ stepOf (zs.drop p))
    (he : p < K → extN (zs.drop p) (stepOf (zs.drop p)) (K + 1 - p) (zs.length - p - (K + 1 - p)) = extN (zs.drop p) (stepOf (zs.drop p)) 2 (zs.length - p - 2)) :
    extN (zs.drop p) (stepOf (zs.drop p)) 2 (zs.length - p - 2) = K + 1 - p := by
  rw [← he h1]
  by_cases h : K + 1 = zs.length
  · rw [show zs.length - p - (K + 1 - p) = 0 by omega]; rfl
  · rw [show zs.length - p - (K + 1 - p) = zs.length - p - (K + 1 + 1 - p) + 1 by omega]
    refine extN_stop _ _ _ _ ?_
    rw [drop_at zs p (K + 1) (by omega), show K + 1 - p - 1 = K - p by omega, drop_at zs p K (by omega)]
    exact hs.resolve_left h
theorem pi_last (zs : List Int) (p : Nat) (hp : p + 1 = zs.length) : PieceIs zs p p 1 := by
  have h := piece_last zs p hp
  exact ⟨Nat.le_refl _, by omega, by omega, piece_one zs p (by omega) h⟩
theorem pi_alone (zs : List Int) (p K : Nat) (hp : K < zs.length) (hK : K = p + 1) (e : extN (zs.drop p) (stepOf (zs.drop p)) 2 (zs.length - p - 2) = K + 1 - p) (hs : 1 < stepOf (zs.drop p)) : PieceIs zs p p 1 := by
  subst hK
  have h := piece_alone zs p hp (by rw [e]; omega) hs
  exact ⟨Nat.le_refl _, by omega, by omega, piece_one zs p (by omega) h⟩
theorem pi_run (zs : List Int) (p K : Nat) (hp : K < zs.length) (hK : p < K) (e : extN (zs.drop p) (stepOf (zs.drop p)) 2 (zs.length - p - 2) = K + 1 - p) (hs : ¬ (K = p + 1 ∧ 1 < stepOf (zs.drop p))) :
    PieceIs zs p K (zs[p + 1]?.getD 0 - zs[p]?.getD 0) := by
  obtain ⟨h1, h2, h3, h4⟩ := piece_run zs p (K + 1 - p) (by omega) e (fun h => hs ⟨by omega, h.2⟩)
  refine ⟨by omega, hp, h1, ?_⟩
  rw [h4, show p + (K + 1 - p) - 1 = K by omega, step_at]
set_option maxHeartbeats 6400000 in
set_option maxRecDepth 20000 in
theorem rof_yes (A : Option Addr) (c : Nat) (zs : List Int) (w : World) (hl : zs.length ≤ 100000) (hc : Ints .i64 w A zs) (hr : Rise zs) :
    Calls Tryd.prog 32 #[.slice A zs.length c] w (GivesP (pieces zs) w) := by
  obtain ⟨i0, hi, hz0, hz1, hz2⟩ := info_parts info_rp
  have K1 := may_any true A c zs w (by omega) hc ⟨fun _ => hr, fun _ => rfl⟩
  have HC := Lib.hid hc
  have HR := Lib.hid hr
  obtain ⟨z, hz⟩ : ∃ z : Nat → Int, ∀ k, zs[k]?.getD 0 = z k := ⟨fun k => zs[k]?.getD 0, fun _ => rfl⟩
  have HZ := Lib.hid hz
  have HBD := Lib.hid (show ∀ k, k < zs.length → 0 ≤ z k ∧ z k ≤ 9999 from fun k hk => by rw [← hz]; exact hr.bd k hk)
  have HST := Lib.hid (show ∀ p, stepOf (zs.drop p) = z (p + 1) - z p from fun p => by rw [step_at, hz, hz])
  clear hc hr hz
  go_enter Tryd.func32, Tryd.ntmps32
  go_wp2_with fail
  refine K1.mono ?_
  rintro e w1 ⟨rfl, hq1⟩
  have HQ1 := Lib.hid (quiet_bel w.heap.size hq1)
  clear K1 hq1
  go_wp2
  go_loopw [3, 4] (fun v i wr => ROfAt zs w v i wr) (fun _ i _ => zs.length - (intOf i).toNat)
  case atStart => exact ⟨0, [], Nat.zero_le _, rfl, Nat.le_refl _, rfl, OwnR.nil _ _, HQ1.out⟩
  case round =>
    obtain ⟨p, ps, hp, rfl, hps, hpc, hown, hb⟩ := hrel
    obtain ⟨W0, hW0⟩ : ∃ W0, W0 = wr := ⟨wr, rfl⟩
    subst hW0
    obtain ⟨Av, cv, hv, hat, hcc⟩ := hown.at
    have HO := Lib.hid hown
    have HB := Lib.hid hb
    have HP := Lib.hid hpc
    subst hv
    clear hown hb hpc
    by_cases hlt : p < zs.length
    · obtain ⟨b, off, rfl, hcell⟩ := cell_at (HC.out.below HB.out) (show 0 < zs.length by omega)
      have HCL := Lib.hid hcell
      clear hcell hat
      have hdp : decide ((p : Int) < (zs.length : Int)) = true := dec_t (by omega)
      go_wp2
      clear hdp
      go_loopw [5] (fun k wr2 => RIn zs p W0 k wr2) (fun k _ => zs.length - (intOf k).toNat)
      case atStart => exact ⟨p, Nat.le_refl _, hlt, rfl, fun h => absurd h (Nat.lt_irrefl _), Quiet.refl _⟩
      case round =>
        obtain ⟨K, hpK, hK, rfl, hext, hq⟩ := hrel
        have HE := Lib.hid hext
        have HOd := Lib.hid (show ∀ n, OwnR ((wr.drewN n).drew) w.heap.size (.slice Av ps.length cv) ps from fun n => HO.out.below (((quiet_bel W0.heap.size hq).trans (below_draws W0.heap.size wr n)).drew))
        have HBd := Lib.hid (show ∀ n, Below w.heap.size w ((wr.drewN n).drew) from fun n => ((HB.out.trans (quiet_bel _ hq)).trans (below_draws _ wr n)).drew)
        have HCq := Lib.hid (show ∀ k, k < zs.length → wr.cell? ⟨b, off + k, none⟩ = some (.int .i64 (z k)) from fun k hk => by rw [hq.cell, HCL.out k hk, HZ.out])
        have QQ := Lib.hid hq
        clear hext hq
        have cp := HCq.out p hlt
        have cK := HCq.out K hK
        obtain ⟨bp1, bp2⟩ := HBD.out p hlt
        obtain ⟨bK1, bK2⟩ := HBD.out K hK
        have tK : IntKind.i64.wrap ((K : Int) + 1) = (K : Int) + 1 := IntWalk.i64_in _ ⟨by omega, by omega⟩
        have tp : IntKind.i64.wrap ((p : Int) + 1) = (p : Int) + 1 := IntWalk.i64_in _ ⟨by omega, by omega⟩
        have iK0 : (0 : Int) ≤ (K : Int) := by omega
        have iK1 : (K : Int) < ((zs.length : Nat) : Int) := by omega
        have ip0 : (0 : Int) ≤ (p : Int) := by omega
        have ip1 : (p : Int) < ((zs.length : Nat) : Int) := by omega
        by_cases hend : K + 1 < zs.length
        · have cK1 := HCq.out (K + 1) hend
          have cp1 := HCq.out (p + 1) (by omega)
          obtain ⟨bc1, bc2⟩ := HBD.out (K + 1) hend
          obtain ⟨bd1, bd2⟩ := HBD.out (p + 1) (by omega)
          have iK2 : (0 : Int) ≤ (K : Int) + 1 := by omega
          have iK3 : (K : Int) + 1 < ((zs.length : Nat) : Int) := by omega
          have ip2 : (0 : Int) ≤ (p : Int) + 1 := by omega
          have ip3 : (p : Int) + 1 < ((zs.length : Nat) : Int) := by omega
          have nK : ((K : Int) + 1).toNat = K + 1 := by omega
          have np : ((p : Int) + 1).toNat = p + 1 := by omega
          have u1 : IntKind.i64.wrap (z (K + 1) - z K) = z (K + 1) - z K := IntWalk.i64_in _ ⟨by omega, by omega⟩
          have u2 : IntKind.i64.wrap (z (p + 1) - z p) = z (p + 1) - z p := IntWalk.i64_in _ ⟨by omega, by omega⟩
          have dg : decide ((K : Int) + 1 < ((zs.length : Nat) : Int)) = true := dec_t (by omega)
          by_cases hs : z (K + 1) - z K = z (p + 1) - z p
          · have HE2 := Lib.hid (rin_go zs p K hpK hend (by rw [HZ.out, HZ.out, HST.out]; exact hs) HE.out)
            have f1 : (z (K + 1) - z K == z (p + 1) - z p) = true := by rw [beq_iff_eq]; exact hs
            clear hs hend
            go_wp2
            go_quiet (fail)
            clear f1 u1 u2 tp np nK ip2 ip3 dg
            go_wp2
            go_roundw
            case rel => exact ⟨K + 1, by omega, by omega, by go_num, fun _ => HE2.out, QQ.out.trans (Quiet.of _ _)⟩
            case measure => simp [intOf]; omega
          · have hpl : p < K := by
              rcases Nat.lt_or_ge p K with h | h
              · exact h
              · obtain rfl : p = K := by omega
                exact absurd rfl hs
            have HX := Lib.hid (rin_end zs p K hpl hK (.inr (by rw [HZ.out, HZ.out, HST.out]; exact hs)) HE.out)
            have f1 : (z (K + 1) - z K == z (p + 1) - z p) = false := by rw [beq_eq_false_iff_ne]; exact hs
            clear hs hend
            have g1 : decide ((p : Int) < (K : Int)) = true := dec_t (by omega)
            by_cases ha : K = p + 1 ∧ 1 < z (p + 1) - z p
            · obtain ⟨ha1, ha2⟩ := ha
              have HPI := Lib.hid (piece_next zs p p 1 ps (pi_alone zs p K hK ha1 HX.out (by rw [HST.out]; exact ha2)) HP.out)
              have g2 : ((K : Int) == (p : Int) + 1) = true := by rw [beq_iff_eq]; omega
              have g3 : decide (1 < z (p + 1) - z p) = true := dec_t ha2
              clear ha1 ha2
              go_wp2
              go_quiet (fail)
              go_wp2
              go_quiet (fail)
              go_wp2
              go_region_law (refine step_append_own' rfl (.tmp 67) (.tmp 78) 49 rfl w.heap.size 88 i0 (.agg #[.int .i64 0, .int .i64 0, .int .i64 0]) 3 24 Tryd.underlying49 hi hz0 hz1 hz2 rfl (by decide) (.slice Av ps.length cv) ps.length (cells3 ps) (by simp [Act.eval]) (World.ownsRow.alloc (HOd.out _) _) ⟨_, 0, none⟩ 1 1 [.int .i64 (z p), .int .i64 (z p), .int .i64 (1)] (by simp [Act.eval]; rfl) rfl (fun j u hj => by
                  match j, hj with
                  | 0, hj => cases hj; exact cell_new _ _ _ 0
                  | 1, hj => cases hj; exact cell_new _ _ _ 1
                  | 2, hj => cases hj; exact cell_new _ _ _ 2
                  | j + 3, hj => cases hj) (by simp [Value.oneCell']) (by unfold maxLen; omega) (by omega) (by have := (HBd.out 0).size; simp at this ⊢; omega) ?_; intro v' w4 hown4 hgrow; have HO4 := Lib.hid (OwnR.snoc (p := (z p, z p, 1)) hown4); have HB4 := Lib.hid (Below.grown ((HBd.out _).alloc (HBd.out _).size (.cells #[.int .i64 (z p), .int .i64 (z p), .int .i64 (1)] 88)) hgrow (by have := (HBd.out 0).size; simp at this ⊢; omega) (ownr_block (HOd.out 0))); clear hown4 hgrow)
              all_goals (go_wp2; go_roundw)
              all_goals first
                | exact ⟨p + 1, ps ++ [(z p, z p, 1)], by omega, by go_num, by rw [List.length_append]; simp; omega, by have := HPI.out; rw [HZ.out] at this; exact this, HO4.out, HB4.out⟩
                | (simp [intOf]; omega)
            · have HPI := Lib.hid (piece_next zs p K (zs[p + 1]?.getD 0 - zs[p]?.getD 0) ps (pi_run zs p K hK hpl HX.out (by rw [HST.out]; exact ha)) HP.out)
              by_cases hk1 : K = p + 1
              · have g2 : ((K : Int) == (p : Int) + 1) = true := by rw [beq_iff_eq]; omega
                have g3 : decide (1 < z (p + 1) - z p) = false := dec_n (fun h => ha ⟨hk1, h⟩)
                clear ha hk1
                go_wp2
                go_quiet (fail)
                go_wp2
                go_quiet (fail)
                go_wp2
                go_region_law (refine step_append_own' rfl (.tmp 67) (.tmp 78) 49 rfl w.heap.size 88 i0 (.agg #[.int .i64 0, .int .i64 0, .int .i64 0]) 3 24 Tryd.underlying49 hi hz0 hz1 hz2 rfl (by decide) (.slice Av ps.length cv) ps.length (cells3 ps) (by simp [Act.eval]) (World.ownsRow.alloc (HOd.out _) _) ⟨_, 0, none⟩ 1 1 [.int .i64 (z p), .int .i64 (z K), .int .i64 (z (p + 1) - z p)] (by simp [Act.eval]; rfl) rfl (fun j u hj => by
                    match j, hj with
                    | 0, hj => cases hj; exact cell_new _ _ _ 0
                    | 1, hj => cases hj; exact cell_new _ _ _ 1
                    | 2, hj => cases hj; exact cell_new _ _ _ 2
                    | j + 3, hj => cases hj) (by simp [Value.oneCell']) (by unfold maxLen; omega) (by omega) (by have := (HBd.out 0).size; simp at this ⊢; omega) ?_; intro v' w4 hown4 hgrow; have HO4 := Lib.hid (OwnR.snoc (p := (z p, z K, z (p + 1) - z p)) hown4); have HB4 := Lib.hid (Below.grown ((HBd.out _).alloc (HBd.out _).size (.cells #[.int .i64 (z p), .int .i64 (z K), .int .i64 (z (p + 1) - z p)] 88)) hgrow (by have := (HBd.out 0).size; simp at this ⊢; omega) (ownr_block (HOd.out 0))); clear hown4 hgrow)
                all_goals (go_wp2; go_roundw)
                all_goals first
                  | exact ⟨K + 1, ps ++ [(z p, z K, z (p + 1) - z p)], by omega, by go_num, by rw [List.length_append]; simp; omega, by have := HPI.out; rw [HZ.out, HZ.out, HZ.out] at this; exact this, HO4.out, HB4.out⟩
                  | (simp [intOf]; omega)
              · have g2 : ((K : Int) == (p : Int) + 1) = false := by rw [beq_eq_false_iff_ne]; omega
                clear ha hk1
                go_wp2
                go_quiet (fail)
                go_wp2
                go_quiet (fail)
                go_wp2
                go_region_law (refine step_append_own' rfl (.tmp 67) (.tmp 78) 49 rfl w.heap.size 88 i0 (.agg #[.int .i64 0, .int .i64 0, .int .i64 0]) 3 24 Tryd.underlying49 hi hz0 hz1 hz2 rfl (by decide) (.slice Av ps.length cv) ps.length (cells3 ps) (by simp [Act.eval]) (World.ownsRow.alloc (HOd.out _) _) ⟨_, 0, none⟩ 1 1 [.int .i64 (z p), .int .i64 (z K), .int .i64 (z (p + 1) - z p)] (by simp [Act.eval]; rfl) rfl (fun j u hj => by
                    match j, hj with
                    | 0, hj => cases hj; exact cell_new _ _ _ 0
                    | 1, hj => cases hj; exact cell_new _ _ _ 1
                    | 2, hj => cases hj; exact cell_new _ _ _ 2
                    | j + 3, hj => cases hj) (by simp [Value.oneCell']) (by unfold maxLen; omega) (by omega) (by have := (HBd.out 0).size; simp at this ⊢; omega) ?_; intro v' w4 hown4 hgrow; have HO4 := Lib.hid (OwnR.snoc (p := (z p, z K, z (p + 1) - z p)) hown4); have HB4 := Lib.hid (Below.grown ((HBd.out _).alloc (HBd.out _).size (.cells #[.int .i64 (z p), .int .i64 (z K), .int .i64 (z (p + 1) - z p)] 88)) hgrow (by have := (HBd.out 0).size; simp at this ⊢; omega) (ownr_block (HOd.out 0))); clear hown4 hgrow)
                all_goals (go_wp2; go_roundw)
                all_goals first
                  | exact ⟨K + 1, ps ++ [(z p, z K, z (p + 1) - z p)], by omega, by go_num, by rw [List.length_append]; simp; omega, by have := HPI.out; rw [HZ.out, HZ.out, HZ.out] at this; exact this, HO4.out, HB4.out⟩
                  | (simp [intOf]; omega)
        · have dg : decide ((K : Int) + 1 < ((zs.length : Nat) : Int)) = false := dec_n (by omega)
          by_cases hpl : p < K
          · have HX := Lib.hid (rin_end zs p K hpl hK (.inl (by omega)) HE.out)
            have cp1 := HCq.out (p + 1) (by omega)
            obtain ⟨bd1, bd2⟩ := HBD.out (p + 1) (by omega)
            have ip2 : (0 : Int) ≤ (p : Int) + 1 := by omega
            have ip3 : (p : Int) + 1 < ((zs.length : Nat) : Int) := by omega
            have np : ((p : Int) + 1).toNat = p + 1 := by omega
            have u2 : IntKind.i64.wrap (z (p + 1) - z p) = z (p + 1) - z p := IntWalk.i64_in _ ⟨by omega, by omega⟩
            clear hend
            have g1 : decide ((p : Int) < (K : Int)) = true := dec_t (by omega)
            by_cases ha : K = p + 1 ∧ 1 < z (p + 1) - z p
            · obtain ⟨ha1, ha2⟩ := ha
              have HPI := Lib.hid (piece_next zs p p 1 ps (pi_alone zs p K hK ha1 HX.out (by rw [HST.out]; exact ha2)) HP.out)
              have g2 : ((K : Int) == (p : Int) + 1) = true := by rw [beq_iff_eq]; omega
              have g3 : decide (1 < z (p + 1) - z p) = true := dec_t ha2
              clear ha1 ha2
              go_wp2
              go_quiet (fail)
              go_wp2
              go_quiet (fail)
              go_wp2
              go_region_law (refine step_append_own' rfl (.tmp 67) (.tmp 78) 49 rfl w.heap.size 88 i0 (.agg #[.int .i64 0, .int .i64 0, .int .i64 0]) 3 24 Tryd.underlying49 hi hz0 hz1 hz2 rfl (by decide) (.slice Av ps.length cv) ps.length (cells3 ps) (by simp [Act.eval]) (World.ownsRow.alloc (HOd.out _) _) ⟨_, 0, none⟩ 1 1 [.int .i64 (z p), .int .i64 (z p), .int .i64 (1)] (by simp [Act.eval]; rfl) rfl (fun j u hj => by
                  match j, hj with
                  | 0, hj => cases hj; exact cell_new _ _ _ 0
                  | 1, hj => cases hj; exact cell_new _ _ _ 1
                  | 2, hj => cases hj; exact cell_new _ _ _ 2
                  | j + 3, hj => cases hj) (by simp [Value.oneCell']) (by unfold maxLen; omega) (by omega) (by have := (HBd.out 0).size; simp at this ⊢; omega) ?_; intro v' w4 hown4 hgrow; have HO4 := Lib.hid (OwnR.snoc (p := (z p, z p, 1)) hown4); have HB4 := Lib.hid (Below.grown ((HBd.out _).alloc (HBd.out _).size (.cells #[.int .i64 (z p), .int .i64 (z p), .int .i64 (1)] 88)) hgrow (by have := (HBd.out 0).size; simp at this ⊢; omega) (ownr_block (HOd.out 0))); clear hown4 hgrow)
              all_goals (go_wp2; go_roundw)
              all_goals first
                | exact ⟨p + 1, ps ++ [(z p, z p, 1)], by omega, by go_num, by rw [List.length_append]; simp; omega, by have := HPI.out; rw [HZ.out] at this; exact this, HO4.out, HB4.out⟩
                | (simp [intOf]; omega)
            · have HPI := Lib.hid (piece_next zs p K (zs[p + 1]?.getD 0 - zs[p]?.getD 0) ps (pi_run zs p K hK hpl HX.out (by rw [HST.out]; exact ha)) HP.out)
              by_cases hk1 : K = p + 1
              · have g2 : ((K : Int) == (p : Int) + 1) = true := by rw [beq_iff_eq]; omega
                have g3 : decide (1 < z (p + 1) - z p) = false := dec_n (fun h => ha ⟨hk1, h⟩)
                clear ha hk1
                go_wp2
                go_quiet (fail)
                go_wp2
                go_quiet (fail)
                go_wp2
                go_region_law (refine step_append_own' rfl (.tmp 67) (.tmp 78) 49 rfl w.heap.size 88 i0 (.agg #[.int .i64 0, .int .i64 0, .int .i64 0]) 3 24 Tryd.underlying49 hi hz0 hz1 hz2 rfl (by decide) (.slice Av ps.length cv) ps.length (cells3 ps) (by simp [Act.eval]) (World.ownsRow.alloc (HOd.out _) _) ⟨_, 0, none⟩ 1 1 [.int .i64 (z p), .int .i64 (z K), .int .i64 (z (p + 1) - z p)] (by simp [Act.eval]; rfl) rfl (fun j u hj => by
                    match j, hj with
                    | 0, hj => cases hj; exact cell_new _ _ _ 0
                    | 1, hj => cases hj; exact cell_new _ _ _ 1
                    | 2, hj => cases hj; exact cell_new _ _ _ 2
                    | j + 3, hj => cases hj) (by simp [Value.oneCell']) (by unfold maxLen; omega) (by omega) (by have := (HBd.out 0).size; simp at this ⊢; omega) ?_; intro v' w4 hown4 hgrow; have HO4 := Lib.hid (OwnR.snoc (p := (z p, z K, z (p + 1) - z p)) hown4); have HB4 := Lib.hid (Below.grown ((HBd.out _).alloc (HBd.out _).size (.cells #[.int .i64 (z p), .int .i64 (z K), .int .i64 (z (p + 1) - z p)] 88)) hgrow (by have := (HBd.out 0).size; simp at this ⊢; omega) (ownr_block (HOd.out 0))); clear hown4 hgrow)
                all_goals (go_wp2; go_roundw)
                all_goals first
                  | exact ⟨K + 1, ps ++ [(z p, z K, z (p + 1) - z p)], by omega, by go_num, by rw [List.length_append]; simp; omega, by have := HPI.out; rw [HZ.out, HZ.out, HZ.out] at this; exact this, HO4.out, HB4.out⟩
                  | (simp [intOf]; omega)
              · have g2 : ((K : Int) == (p : Int) + 1) = false := by rw [beq_eq_false_iff_ne]; omega
                clear ha hk1
                go_wp2
                go_quiet (fail)
                go_wp2
                go_quiet (fail)
                go_wp2
                go_region_law (refine step_append_own' rfl (.tmp 67) (.tmp 78) 49 rfl w.heap.size 88 i0 (.agg #[.int .i64 0, .int .i64 0, .int .i64 0]) 3 24 Tryd.underlying49 hi hz0 hz1 hz2 rfl (by decide) (.slice Av ps.length cv) ps.length (cells3 ps) (by simp [Act.eval]) (World.ownsRow.alloc (HOd.out _) _) ⟨_, 0, none⟩ 1 1 [.int .i64 (z p), .int .i64 (z K), .int .i64 (z (p + 1) - z p)] (by simp [Act.eval]; rfl) rfl (fun j u hj => by
                    match j, hj with
                    | 0, hj => cases hj; exact cell_new _ _ _ 0
                    | 1, hj => cases hj; exact cell_new _ _ _ 1
                    | 2, hj => cases hj; exact cell_new _ _ _ 2
                    | j + 3, hj => cases hj) (by simp [Value.oneCell']) (by unfold maxLen; omega) (by omega) (by have := (HBd.out 0).size; simp at this ⊢; omega) ?_; intro v' w4 hown4 hgrow; have HO4 := Lib.hid (OwnR.snoc (p := (z p, z K, z (p + 1) - z p)) hown4); have HB4 := Lib.hid (Below.grown ((HBd.out _).alloc (HBd.out _).size (.cells #[.int .i64 (z p), .int .i64 (z K), .int .i64 (z (p + 1) - z p)] 88)) hgrow (by have := (HBd.out 0).size; simp at this ⊢; omega) (ownr_block (HOd.out 0))); clear hown4 hgrow)
                all_goals (go_wp2; go_roundw)
                all_goals first
                  | exact ⟨K + 1, ps ++ [(z p, z K, z (p + 1) - z p)], by omega, by go_num, by rw [List.length_append]; simp; omega, by have := HPI.out; rw [HZ.out, HZ.out, HZ.out] at this; exact this, HO4.out, HB4.out⟩
                  | (simp [intOf]; omega)
          · obtain rfl : p = K := by omega
            have HPI := Lib.hid (piece_next zs p p 1 ps (pi_last zs p (by omega)) HP.out)
            clear hend hpl
            have g1 : decide ((p : Int) < (p : Int)) = false := dec_n (by omega)
            have g2 : ((p : Int) == (p : Int) + 1) = false := by rw [beq_eq_false_iff_ne]; omega
            go_wp2
            go_quiet (fail)
            go_wp2
            go_region_law (refine step_append_own' rfl (.tmp 67) (.tmp 78) 49 rfl w.heap.size 88 i0 (.agg #[.int .i64 0, .int .i64 0, .int .i64 0]) 3 24 Tryd.underlying49 hi hz0 hz1 hz2 rfl (by decide) (.slice Av ps.length cv) ps.length (cells3 ps) (by simp [Act.eval]) (World.ownsRow.alloc (HOd.out _) _) ⟨_, 0, none⟩ 1 1 [.int .i64 (z p), .int .i64 (z p), .int .i64 (1)] (by simp [Act.eval]; rfl) rfl (fun j u hj => by
                match j, hj with
                | 0, hj => cases hj; exact cell_new _ _ _ 0
                | 1, hj => cases hj; exact cell_new _ _ _ 1
                | 2, hj => cases hj; exact cell_new _ _ _ 2
                | j + 3, hj => cases hj) (by simp [Value.oneCell']) (by unfold maxLen; omega) (by omega) (by have := (HBd.out 0).size; simp at this ⊢; omega) ?_; intro v' w4 hown4 hgrow; have HO4 := Lib.hid (OwnR.snoc (p := (z p, z p, 1)) hown4); have HB4 := Lib.hid (Below.grown ((HBd.out _).alloc (HBd.out _).size (.cells #[.int .i64 (z p), .int .i64 (z p), .int .i64 (1)] 88)) hgrow (by have := (HBd.out 0).size; simp at this ⊢; omega) (ownr_block (HOd.out 0))); clear hown4 hgrow)
            all_goals (go_wp2; go_roundw)
            all_goals first
              | exact ⟨p + 1, ps ++ [(z p, z p, 1)], by omega, by go_num, by rw [List.length_append]; simp; omega, by have := HPI.out; rw [HZ.out] at this; exact this, HO4.out, HB4.out⟩
              | (simp [intOf]; omega)
    · obtain rfl : p = zs.length := by omega
      have HX := Lib.hid (show pieces zs = ps by rw [HP.out, List.drop_length, pieces_nil, List.append_nil])
      have HT := Lib.hid hat
      clear hat hlt
      go_wp2
      go_ret
      exact ⟨Av, cv, by rw [HX.out]; rfl, by rw [HX.out]; exact HT.out, HB.out, by rw [HX.out]; exact hcc⟩
end Go.Proofs.YtjlieamjlelipaaDoor
