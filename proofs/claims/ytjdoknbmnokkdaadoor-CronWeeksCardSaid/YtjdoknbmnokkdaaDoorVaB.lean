/- The numbers of items: item.Values (layer 12). -/
import Derived.Test.YtjdoknbmnokkdaaDoorVaA
import Derived.Test.YtjdoknbmnokkdaaDoorItmB
import Derived.LoopN
import Derived.LoopTactic
import Derived.WalkMore
namespace Go.Proofs.YtjdoknbmnokkdaaDoor
open Go.RowKit
set_option linter.unusedVariables false

theorem OwnI.ints3 {w : World} {base : Nat} {v : Value} {zs : List Int} (h : OwnI w base v zs) : ∃ A c, v = .slice A zs.length c ∧ Ints .i64 w A zs ∧ zs.length ≤ c := by
  obtain ⟨A, c, hv, hi⟩ := h.ints
  refine ⟨A, c, hv, hi, ?_⟩
  rcases h.2 with ⟨h1, h2⟩ | ⟨g, cap, cur, h1, _, _, h3, _⟩
  · omega
  · rw [hv] at h1
    cases h1
    exact h3
/-- what the first items have -/
def anyTo (lo hi : Int) (qs : List Q4) (k : Nat) (j : Nat) : Bool := (qs.take k).any fun q => hitQ lo hi q j
theorem anyTo_none (lo hi : Int) (qs : List Q4) (j : Nat) : anyTo lo hi qs 0 j = false := rfl
theorem anyTo_step (lo hi : Int) (qs : List Q4) (k : Nat) (hk : k < qs.length) (j : Nat) : anyTo lo hi qs (k + 1) j = (anyTo lo hi qs k j || hitQ lo hi (nthQ qs k) j) := by
  unfold anyTo nthQ
  have e : qs.take (k + 1) = qs.take k ++ [qs[k]?.getD (0, 0, 0, 0)] := by
    rw [List.take_add_one, List.getElem?_eq_getElem hk]; rfl
  rw [e, List.any_append]
  simp
theorem anyTo_all (lo hi : Int) (qs : List Q4) (j : Nat) : anyTo lo hi qs qs.length j = qs.any fun q => hitQ lo hi q j := by
  unfold anyTo; rw [List.take_length]
theorem numsP_low (p : Nat → Bool) : ∀ n, (∀ j, j < n → p j = false) → numsP p n = []
  | 0, _ => rfl
  | n + 1, h => by rw [numsP_no p n (h n (by omega)), numsP_low p n fun j hj => h j (by omega)]
set_option maxHeartbeats 3200000 in
set_option maxRecDepth 20000 in
theorem values_own (lo hi : Int) (A : Option Addr) (c : Nat) (qs : List Q4) (w : World) (hl : qs.length ≤ 1000000) (hq : ItemsAt w A qs) :
    Calls Tryd.prog 120 #[.int .i64 lo, .int .i64 hi, .slice A qs.length c] w fun e w' => ∃ B d, e = .returned (.slice B (valsL lo hi qs).length d) ∧ OwnI w' (w.heap.size + 1) (.slice B (valsL lo hi qs).length d) (valsL lo hi qs) ∧ Below w.heap.size w w' := by
  have KF := fun W => field_any lo hi W
  have HL := Lib.hid (show valsL lo hi qs = if fieldB lo hi = true then numsP (valsP lo hi qs) (hi.toNat + 1) else [] from rfl)
  generalize valsL lo hi qs = zs at HL ⊢
  cases hfb : fieldB lo hi
  · rw [hfb] at KF HL
    obtain rfl : zs = [] := HL.out
    clear HL hfb hq hl
    go_enter Tryd.func120, Tryd.ntmps120
    go_wp2_with fail
    refine (KF _).mono ?_
    rintro e w1 ⟨rfl, rfl⟩
    go_wp2
    go_ret
    exact ⟨none, 0, rfl, OwnI.nil _ _, Below.refl _ _⟩
  · rw [hfb] at KF HL
    rw [if_pos rfl] at HL
    unfold fieldB at hfb
    rw [decide_eq_true_eq] at hfb
    obtain ⟨b1, b2, b3⟩ := hfb
    obtain ⟨L, rfl⟩ := Int.eq_ofNat_of_zero_le b1
    obtain ⟨H, rfl⟩ := Int.eq_ofNat_of_zero_le (show 0 ≤ hi by omega)
    have hLH : L ≤ H := by omega
    have hH : H ≤ 9999 := by omega
    clear b1 b2 b3
    obtain ⟨i0, hi', hz0, hz1, hz2⟩ := info_parts info_int
    obtain ⟨hz, hs⟩ := zero_of_info info10k
    have HB0 := Lib.hid (show Below w.heap.size w (w.alloc (.cells (Array.replicate 10000 (.bool false)) 158)) from (Below.refl _ _).alloc (Nat.le_refl _) _)
    have HT0 := Lib.hid (Bt.new w)
    have HQ := Lib.hid hq
    have HBD := Lib.hid (fun q h => nb_bd (L : Int) (H : Int) q h)
    have KM := Lib.hid (fun q W => imay_any q (L : Int) (H : Int) W)
    have KN := Lib.hid (fun q W => numbers_any q (L : Int) (H : Int) W)
    have HST := Lib.hid (fun k hk j => anyTo_step (L : Int) (H : Int) qs k hk j)
    have HAL := Lib.hid (fun j => anyTo_all (L : Int) (H : Int) qs j)
    have HLH := Lib.hid (And.intro hLH hH)
    clear hq hLH hH
    go_enter Tryd.func120, Tryd.ntmps120
    go_wp2_with fail
    refine (KF _).mono ?_
    rintro e w1 ⟨rfl, rfl⟩
    go_wp2_with fail
    clear KF hz hs
    go_loopw [22] (fun i wr => ∃ k : Nat, k ≤ qs.length ∧ i = .int .i64 k ∧ Bt wr w.heap.size (anyTo L H qs k) ∧ Below w.heap.size w wr) (fun i _ => qs.length - (intOf i).toNat)
    case atStart => exact ⟨0, by omega, rfl, HT0.out.congr fun j _ => (anyTo_none _ _ _ _).symm, HB0.out⟩
    case round =>
      obtain ⟨k, hk, rfl, ht, hb⟩ := hrel
      have HT := Lib.hid ht
      have HB := Lib.hid hb
      by_cases hlt : k < qs.length
      · have d0 : decide ((k : Int) < (qs.length : Int)) = true := dec_t (by omega)
        obtain ⟨b, off, rfl, hbl, x0, x1, x2, x3⟩ := (HQ.out.below HB.out) k hlt
        have ik0 : (0 : Int) ≤ (k : Int) := by omega
        have ik1 : (k : Int) < (qs.length : Int) := by omega
        have HS1 := Lib.hid (HST.out k hlt)
        generalize hq : nthQ qs k = q at x0 x1 x2 x3 HS1
        have hw1 : IntKind.i64.wrap ((k : Int) + 1) = (k : Int) + 1 := IntWalk.i64_in _ ⟨by omega, by omega⟩
        have HB1 := Lib.hid (HB.out.alloc HB.out.size (.cells #[.int .i64 q.1, .int .i64 q.2.1, .int .i64 q.2.2.1, .int .i64 q.2.2.2] 32))
        have HT1 := Lib.hid (HT.out.alloc (.cells #[.int .i64 q.1, .int .i64 q.2.1, .int .i64 q.2.2.1, .int .i64 q.2.2.2] 32))
        have hx := blk_new wr (.cells #[.int .i64 q.1, .int .i64 q.2.1, .int .i64 q.2.2.1, .int .i64 q.2.2.2] 32)
        have HX := Lib.hid hx
        have KM1 := KM.out q
        have KN1 := KN.out q
        unfold qv at KM1 KN1
        clear ht hb hq hx
        cases hm : mayB (L : Int) (H : Int) q
        · rw [hm] at KM1
          have HE := Lib.hid (show ∀ j, hitQ L H q j = false from fun j => by unfold hitQ; rw [hm]; rfl)
          clear KN1 hm
          go_wp2_with fail
          refine (KM1 _).mono ?_
          rintro e w1 ⟨rfl, hb1⟩
          have HB2 := Lib.hid (HB1.out.trans (hb1.mono HB1.out.size))
          have HT2 := Lib.hid (HT1.out.below hb1)
          clear hb1 KM1
          go_wp2
          go_roundw
          case rel => exact ⟨k + 1, by omega, by go_num, HT2.out.congr fun j _ => by rw [HS1.out j, HE.out j, Bool.or_false], HB2.out⟩
          case measure => simp [intOf]; omega
        · rw [hm] at KM1
          obtain ⟨n1, n2, n3, n4, n5⟩ := HBD.out q hm
          have HE := Lib.hid (show ∀ j, hitQ L H q j = hitN (nb L H q).1 (nb L H q).2.1 (nb L H q).2.2 j from fun j => by unfold hitQ; rw [hm]; rfl)
          clear hm
          generalize (nb (L : Int) (H : Int) q).1 = f at *
          generalize (nb (L : Int) (H : Int) q).2.1 = l at *
          generalize (nb (L : Int) (H : Int) q).2.2 = st at *
          have hH := HLH.out.2
          obtain ⟨F, rfl⟩ := Int.eq_ofNat_of_zero_le (show 0 ≤ f by omega)
          have HNB := Lib.hid (show (F : Int) ≤ l ∧ l ≤ 9999 ∧ 1 ≤ st ∧ st ≤ 999 from ⟨n2, by omega, n4, n5⟩)
          clear n1 n2 n3 n4 n5 hH
          go_wp2_with fail
          refine (KM1 _).mono ?_
          rintro e w1 ⟨rfl, hb1⟩
          have HB2 := Lib.hid (HB1.out.trans (hb1.mono HB1.out.size))
          have HT2 := Lib.hid (HT1.out.below hb1)
          have hy := (hb1.block _ (lt_of_block HX.out)).trans HX.out
          have y0 := blk_cell hy 0
          have y1 := blk_cell hy 1
          have y2 := blk_cell hy 2
          have y3 := blk_cell hy 3
          rw [show (#[.int .i64 q.1, .int .i64 q.2.1, .int .i64 q.2.2.1, .int .i64 q.2.2.2] : Array Value)[0]? = some (.int .i64 q.1) from rfl] at y0
          rw [show (#[.int .i64 q.1, .int .i64 q.2.1, .int .i64 q.2.2.1, .int .i64 q.2.2.2] : Array Value)[1]? = some (.int .i64 q.2.1) from rfl] at y1
          rw [show (#[.int .i64 q.1, .int .i64 q.2.1, .int .i64 q.2.2.1, .int .i64 q.2.2.2] : Array Value)[2]? = some (.int .i64 q.2.2.1) from rfl] at y2
          rw [show (#[.int .i64 q.1, .int .i64 q.2.1, .int .i64 q.2.2.1, .int .i64 q.2.2.2] : Array Value)[3]? = some (.int .i64 q.2.2.2) from rfl] at y3
          clear hb1 KM1 hy HB1 HT1 HX x0 x1 x2 x3 hbl
          go_wp2_with fail
          refine (KN1 _).mono ?_
          rintro e w2 ⟨rfl, hb2⟩
          have HB3 := Lib.hid (HB2.out.trans (hb2.mono HB2.out.size))
          have HT3 := Lib.hid (HT2.out.below hb2)
          clear hb2 KN1 y0 y1 y2 y3 HB2 HT2
          go_wp2
          go_loopw [13] (fun i wx => ∃ n : Nat, i = .int .i64 (n : Int) ∧ (F : Int) ≤ n ∧ ((n : Int) - F) % st = 0 ∧ (n = F ∨ (n : Int) - st ≤ l) ∧ Bt wx w.heap.size (fun j => anyTo L H qs k j || upTo F st n j) ∧ Below w.heap.size w wx) (fun i _ => (l + 1 - intOf i).toNat)
          case atStart => exact ⟨F, rfl, Int.le_refl _, by simp, .inl rfl, HT3.out.congr fun j _ => by rw [upTo_none, Bool.or_false], HB3.out⟩
          case round =>
            obtain ⟨n, rfl, c1, c2, c3, ht, hb⟩ := hrel
            obtain ⟨m1, m2, m3, m4⟩ := HNB.out
            have HT4 := Lib.hid ht
            have HB4 := Lib.hid hb
            clear ht hb
            by_cases hle : (n : Int) ≤ l
            · have d1 : decide ((n : Int) ≤ l) = true := dec_t hle
              have hn : n < 10000 := by omega
              have hn0 : (0 : Int) ≤ (n : Int) := by omega
              have hn1 : (n : Int) < 10000 := by omega
              have ck := HT4.out.cell n hn
              have fk := HT4.out.free n
              obtain ⟨S, rfl⟩ := Int.eq_ofNat_of_zero_le (show 0 ≤ st by omega)
              have hw2 : IntKind.i64.wrap ((n : Int) + (S : Int)) = (n : Int) + (S : Int) := IntWalk.i64_in _ ⟨by omega, by omega⟩
              have HUP := Lib.hid (fun j => upTo_step (F : Int) (S : Int) n j m3 c1 c2)
              have HMS := Lib.hid (show (((n + S : Nat) : Int) - F) % (S : Int) = 0 by
                rw [show ((n + S : Nat) : Int) - (F : Int) = (n : Int) - F + S by omega, Int.add_emod_right]; exact c2)
              have HCS := Lib.hid (show (F : Int) ≤ ((n + S : Nat) : Int) ∧ ((n + S : Nat) : Int) - (S : Int) ≤ l ∧ (n : Int) ≤ l ∧ 1 ≤ (S : Int) from ⟨by omega, by omega, hle, m3⟩)
              clear c1 c2 c3 m1 m2 m3 m4 hle
              go_wp2
              go_roundw
              case rel => exact ⟨n + S, by rw [show ((n + S : Nat) : Int) = (n : Int) + (S : Int) by omega], HCS.out.1, HMS.out, .inr HCS.out.2.1, (HT4.out.put n hn true).congr fun j _ => by
                rw [show ((n + S : Nat) : Int) = (n : Int) + (S : Int) by omega, HUP.out j]
                by_cases e : j = n
                · simp [e]
                · simp [e], HB4.out.setCell (by show w.heap.size ≤ w.heap.size; omega) _⟩
              case measure =>
                have h := HCS.out
                simp [intOf]; omega
            · have d1 : decide ((n : Int) ≤ l) = false := dec_n hle
              have HU := Lib.hid (fun j => upTo_end (F : Int) l st n j m3 c2 (by omega) (by rcases c3 with h | h; exact .inl (by omega); exact .inr h))
              clear c1 c2 c3 m1 m2 m3 m4 hle
              go_wp2
              go_roundw
              case rel => exact ⟨k + 1, by omega, by go_num, HT4.out.congr fun j _ => by rw [HS1.out j, HE.out j, HU.out j], HB4.out⟩
              case measure => simp [intOf]; omega
      · obtain rfl : k = qs.length := by omega
        have d0 : decide ((qs.length : Int) < (qs.length : Int)) = false := dec_n (by omega)
        obtain ⟨hLH, hH⟩ := HLH.out
        have HP := Lib.hid (fun (j : Nat) (hj : L ≤ j) => show valsP L H qs j = anyTo L H qs qs.length j by
          unfold valsP
          rw [dec_t (show (L : Int) ≤ (j : Int) by omega), HAL.out j]; rfl)
        have HLO := Lib.hid (show numsP (valsP L H qs) L = [] from numsP_low _ _ fun j hj => by
          unfold valsP
          rw [dec_n (show ¬ (L : Int) ≤ (j : Int) by omega)]; rfl)
        have HZS := Lib.hid (show zs = numsP (valsP L H qs) (H + 1) from HL.out)
        obtain ⟨N, hN⟩ : ∃ N : Nat, N = H - L + 1 := ⟨_, rfl⟩
        have u1 : IntKind.i64.wrap ((H : Int) - (L : Int)) = (N : Int) - 1 := (IntWalk.i64_in _ ⟨by omega, by omega⟩).trans (by omega)
        have u2 : IntKind.i64.wrap (N : Int) = (N : Int) := IntWalk.i64_in _ ⟨by omega, by omega⟩
        have HNN := Lib.hid (show L + N = H + 1 ∧ N ≤ 10000 ∧ H + 1 ≤ 10000 from ⟨by omega, by omega, by omega⟩)
        generalize valsP L H qs = P at HP HLO HZS
        generalize anyTo L H qs qs.length = Q at HT HP
        have hsz : w.heap.size + 1 ≤ wr.heap.size := HT.out.lt
        have HZ0 := Lib.hid hsz
        clear ht hb hLH hH HQ HBD KM KN HST HAL HL HB0 HT0 hN hsz hlt hk HLH
        go_wp2
        go_loopw [14, 53] (fun v i wx => ∃ m : Nat, m ≤ N ∧ i = .int .i64 m ∧ OwnI wx (w.heap.size + 1) v (numsP P (L + m)) ∧ Bt wx w.heap.size Q ∧ Below w.heap.size w wx ∧ w.heap.size + 1 ≤ wx.heap.size) (fun _ i _ => N - (intOf i).toNat)
        case atStart => exact ⟨0, by omega, rfl, by
          show OwnI _ _ _ (numsP P L)
          rw [HLO.out]; exact OwnI.nil _ _, HT.out, HB.out, HZ0.out⟩
        case round =>
          obtain ⟨m, hm, rfl, hown, ht, hb, hsz⟩ := hrel
          have HO := Lib.hid hown
          have HT5 := Lib.hid ht
          have HB5 := Lib.hid hb
          have HZ := Lib.hid hsz
          clear hown ht hb hsz
          by_cases hlt : m < N
          · have d1 : decide (m < N) = true := dec_t hlt
            have e2 : (L : Int) + (m : Int) = ((L + m : Nat) : Int) := by omega
            have hq4 : L + m < 10000 := by have := HNN.out; omega
            have HPQ := Lib.hid (HP.out (L + m) (by omega))
            have HNO := Lib.hid (fun h => numsP_no P (L + m) h)
            have HYES := Lib.hid (fun h => numsP_yes P (L + m) h)
            have HLE := Lib.hid (numsP_le P (L + m))
            have hm1 : IntKind.i64.wrap ((m : Int) + 1) = (m : Int) + 1 := IntWalk.i64_in _ ⟨by omega, by have := HNN.out; omega⟩
            have HSU := Lib.hid (show L + m + 1 = L + (m + 1) by omega)
            generalize L + m = j at e2 hq4 HPQ HNO HYES HLE HO HSU
            have hj0 : (0 : Int) ≤ (j : Int) := by omega
            have hj1 : (j : Int) < 10000 := by omega
            have hj2 : IntKind.i64.wrap (j : Int) = (j : Int) := IntWalk.i64_in _ ⟨by omega, by omega⟩
            have ck := HT5.out.cell j hq4
            have HMN := Lib.hid (And.intro hm hlt)
            have HJL := Lib.hid (And.intro HLE.out hq4)
            clear hm hlt hq4 HLE
            cases hbit : Q j
            · rw [hbit] at ck
              have HT6 := Lib.hid (HNO.out (HPQ.out.trans hbit))
              clear hbit
              go_wp2
              go_roundw
              case rel => exact ⟨m + 1, by have := HMN.out; omega, by go_num, by rw [← HSU.out, HT6.out]; exact HO.out, HT5.out, HB5.out, HZ.out⟩
              case measure =>
                have := HMN.out
                simp [intOf]; omega
            · rw [hbit] at ck
              have HT6 := Lib.hid (HYES.out (HPQ.out.trans hbit))
              clear hbit
              go_wp2_with ((at_builtin; refine wpList_append_own _ rfl _ _ 34 rfl (w.heap.size + 1) 3 i0 (.int .i64 0) 1 8 Tryd.underlying34 hi' hz0 hz1 hz2 rfl (by decide) _ _ _ rfl (World.ownsRow.alloc HO.out _) ⟨wr.heap.size, 0, none⟩ 1 1 [.int .i64 (j : Int)] rfl rfl ?e1 ?e2 ?e3 ?e4 ?e5 ?_))
              case e1 =>
                intro j u hj
                cases j with
                | zero => cases hj; exact cell_new _ _ _ 0
                | succ j => cases hj
              case e2 => simp [Value.oneCell']
              case e3 => have := HJL.out; unfold maxLen; omega
              case e4 => have := HJL.out; omega
              case e5 => have := HZ.out; simp; omega
              intro v' w1 hown1 hgrow _
              have HO1 := Lib.hid (OwnI.snoc hown1)
              have HB6 := Lib.hid (Below.grown ((Below.refl (w.heap.size + 1) wr).alloc HZ.out (.cells #[.int .i64 (j : Int)] 3)) hgrow (by have := HZ.out; simp; omega) (own_block HO.out))
              clear hown1 hgrow
              go_wp2
              go_roundw
              case rel => exact ⟨m + 1, by have := HMN.out; omega, by go_num, by rw [← HSU.out, HT6.out]; exact HO1.out, by
                obtain ⟨cs, g1, g2, g3⟩ := HT5.out
                exact ⟨cs, (HB6.out.block _ (by omega)).trans g1, g2, g3⟩, HB5.out.trans (HB6.out.mono (by omega)), Nat.le_trans HZ.out HB6.out.size⟩
              case measure =>
                have := HMN.out
                simp [intOf]; omega
          · obtain rfl : m = N := by omega
            rw [HNN.out.1] at HO
            obtain ⟨B, d, rfl, hin, hcap⟩ := HO.out.ints3
            have HI := Lib.hid HO.out
            have HZ2 := Lib.hid HZS.out
            have d1 : decide ((m : Int) < (m : Int)) = false := dec_n (by omega)
            clear hin hlt hcap HO HZS
            go_wp2
            go_ret
            exact ⟨B, d, by rw [HZ2.out]; rfl, by rw [HZ2.out]; exact HI.out, HB5.out⟩
theorem values_any (lo hi : Int) (A : Option Addr) (c : Nat) (qs : List Q4) (w : World) (hl : qs.length ≤ 1000000) (hq : ItemsAt w A qs) :
    Calls Tryd.prog 120 #[.int .i64 lo, .int .i64 hi, .slice A qs.length c] w fun e w' => ∃ B d, e = .returned (.slice B (valsL lo hi qs).length d) ∧ Ints .i64 w' B (valsL lo hi qs) ∧ Below w.heap.size w w' ∧ (valsL lo hi qs).length ≤ d := by
  refine (values_own lo hi A c qs w hl hq).mono ?_
  rintro e w' ⟨B, d, rfl, ho, hb⟩
  obtain ⟨A', c', hv, hi, hc⟩ := ho.ints3
  cases hv
  exact ⟨_, _, rfl, hi, hb, hc⟩
end Go.Proofs.YtjdoknbmnokkdaaDoor
