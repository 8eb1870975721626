/- The contract of the function that TodAll hands over (layer 7). -/
import Derived.Test.YtjpdfbljhbgbcaaDoorTaA

namespace Go.Proofs.YtjpdfbljhbgbcaaDoor
open Go.RowKit
set_option linter.unusedVariables false

def Ta (F N : Nat) (l told : List Int) (W : World) : Prop := W.heap[F]? = some (.cells #[.bool (decide (told <+: l))] 4 (0, 0)) ∧ W.heap[N]? = some (.cells #[.int .i64 (told.length : Nat)] 3 (0, 0))
set_option maxHeartbeats 1600000 in
set_option maxRecDepth 20000 in
theorem cl7_any (F N L Q : Nat) (A : Option Addr) (c : Nat) (l told : List Int) (mo : Nat) (s : Int) (w : World) (hT : Ta F N l told w) (hL : w.cell? ⟨L, 0, none⟩ = some (.slice A l.length c)) (hQ : w.cell? ⟨Q, 0, none⟩ = some (.int .u16 mo)) (hi : Ints .i64 w A l) (hll : l.length ≤ 86400) (htl : told.length < 90000) (hmo : mo ≤ 65535) (d1 : F ≠ N) (d2 : L ≠ F) (d3 : L ≠ N) (d4 : Q ≠ F) (d5 : Q ≠ N) :
    Calls Tryd.prog 11 #[.int .i64 s, .pointer (some ⟨F, 0, none⟩), .pointer (some ⟨N, 0, none⟩), .pointer (some ⟨L, 0, none⟩), .pointer (some ⟨Q, 0, none⟩)] w fun e w' => e = .returned (.bool (contB mo (told.length + 1))) ∧ Ta F N l (told ++ [s]) w' ∧ But (fun k => k = F ∨ k = N) w w' := by
  obtain ⟨h1, h2⟩ := hT
  have hps := pre_step l told s _ rfl
  have hlen : (told ++ [s]).length = told.length + 1 := by simp
  obtain ⟨fb, hfb⟩ : ∃ fb, decide (told ++ [s] <+: l) = fb := ⟨_, rfl⟩
  have HRES := Lib.hid (show ∀ W : World, But (fun k => k = F ∨ k = N) w W → W.heap[F]? = some (.cells #[.bool fb] 4 (0, 0)) → W.heap[N]? = some (.cells #[.int .i64 ((told.length + 1 : Nat) : Int)] 3 (0, 0)) → Ta F N l (told ++ [s]) W ∧ But (fun k => k = F ∨ k = N) w W from fun W hb hf hn => ⟨⟨by rw [hfb]; exact hf, by rw [hlen]; exact hn⟩, hb⟩)
  have HP := Lib.hid (hps.symm.trans hfb)
  clear hps hfb hlen
  have cF : w.cell? ⟨F, 0, none⟩ = some (.bool (decide (told <+: l))) := blk_cell h1 0
  have cN : w.cell? ⟨N, 0, none⟩ = some (.int .i64 (told.length : Nat)) := blk_cell h2 0
  have zF := blk_free h1 0
  have zN := blk_free h2 0
  have H1 := Lib.hid h1
  have H2 := Lib.hid h2
  have HI := Lib.hid hi
  have w9 : IntKind.i64.wrap (mo : Int) = (mo : Int) := IntWalk.i64_in _ ⟨by omega, by omega⟩
  have hbl := HP.out
  generalize decide (told <+: l) = b at cF hbl
  have HEND := Lib.hid (show ∀ (x : Bool), x = fb → Ta F N l (told ++ [s]) ((w.setCell ⟨F, 0, none⟩ (.bool x)).setCell ⟨N, 0, none⟩ (.int .i64 (((told.length : Nat) : Int) + 1))) ∧ But (fun k => k = F ∨ k = N) w ((w.setCell ⟨F, 0, none⟩ (.bool x)).setCell ⟨N, 0, none⟩ (.int .i64 (((told.length : Nat) : Int) + 1))) from fun x hx => by
    subst hx
    refine HRES.out _ (((But.refl _ w).setCell (.inr (.inl rfl)) _).setCell (.inr (.inr rfl)) _) ?_ ?_
    · exact blk_else (blk_put H1.out 0 _) ⟨N, 0, none⟩ d1 _
    · have q := blk_put (blk_else H2.out ⟨F, 0, none⟩ (Ne.symm d1) (.bool x)) 0 (.int .i64 (((told.length : Nat) : Int) + 1))
      simpa using q)
  generalize hk : told.length = k at cN hbl htl HEND ⊢
  have hk0 : (k : Int) < 90000 := by omega
  have he : (((k : Nat) : Int) + 1 != (mo : Int)) = !decide (k + 1 = mo) := by
    by_cases e : k + 1 = mo
    · rw [dec_t e, Bool.not_true, bne_eq_false_iff_eq]; omega
    · rw [dec_n e, Bool.not_false, bne_iff_ne]; omega
  have hf9 : decide (((k : Nat) : Int) + 1 < 90000) = decide (k + 1 < 90000) := by
    by_cases e : k + 1 < 90000
    · rw [dec_t e, dec_t (by omega)]
    · rw [dec_n e, dec_n (by omega)]
  have hcont : contB mo (k + 1) = (!decide (k + 1 = mo) && decide (k + 1 < 90000)) := rfl
  rw [hcont]
  generalize hsb : decide (k + 1 = mo) = sb at he ⊢
  generalize hcb : decide (k + 1 < 90000) = cb at hf9 ⊢
  clear h1 h2 hi hcont hsb hcb HRES HP hk htl
  cases b
  · have HX := Lib.hid (HEND.out false (by rw [← hbl]; rfl))
    clear hbl HEND
    go_enter Tryd.func11, Tryd.ntmps11
    cases sb
    · go_wp2
      go_ret
      exact ⟨rfl, HX.out⟩
    · go_wp2
      go_ret
      exact ⟨rfl, HX.out⟩
  · by_cases hlt : k < l.length
    · obtain ⟨bk, off, rfl, _, cell⟩ := HI.out k hlt
      have e1 : decide ((k : Int) < (l.length : Int)) = true := dec_t (by omega)
      have e2 : decide (k < l.length) = true := dec_t hlt
      rw [e2] at hbl
      generalize hz : l[k]?.getD 0 = z at cell hbl
      have hzz : (z == s) = decide (z = s) := by
        rw [Bool.eq_iff_iff, beq_iff_eq, decide_eq_true_eq]
      have HX := Lib.hid (HEND.out (decide (z = s)) (by rw [← hbl]; rfl))
      generalize decide (z = s) = zb at hzz HX
      clear hbl HEND hz
      have hlt' : (k : Int) < (l.length : Int) := by omega
      have hw0 : IntKind.i64.wrap ((l.length : Int) - 1) = (l.length : Int) - 1 := IntWalk.i64_in _ ⟨by omega, by omega⟩
      have hw1 : wrap64 ((l.length : Int) - 1) = (l.length : Int) - 1 := IntWalk.wrap64_in _ ⟨by omega, by omega⟩
      have hw2 : IntKind.i64.wrap ((k : Int) + 1) = (k : Int) + 1 := IntWalk.i64_in _ ⟨by omega, by omega⟩
      have hw3 : wrap64 ((k : Int) + 1) = (k : Int) + 1 := IntWalk.wrap64_in _ ⟨by omega, by omega⟩
      have hmn : min (k : Int) ((l.length : Int) - 1) = (k : Int) := Int.min_eq_left (by omega)
      have hmx : max (0 : Int) (k : Int) = (k : Int) := Int.max_eq_right (by omega)
      generalize l.length = len at *
      clear HI hll hlt e2 hk0 hmo
      go_enter Tryd.func11, Tryd.ntmps11
      cases sb <;> cases zb
      all_goals
        go_wp2
        go_ret
        exact ⟨rfl, HX.out⟩
    · have e1 : decide ((k : Int) < (l.length : Int)) = false := dec_n (by omega)
      have e2 : decide (k < l.length) = false := dec_n hlt
      rw [e2] at hbl
      have HX := Lib.hid (HEND.out false (by rw [← hbl]; rfl))
      clear hbl HEND
      go_enter Tryd.func11, Tryd.ntmps11
      cases sb
      · go_wp2
        go_ret
        exact ⟨rfl, HX.out⟩
      · go_wp2
        go_ret
        exact ⟨rfl, HX.out⟩
end Go.Proofs.YtjpdfbljhbgbcaaDoor
