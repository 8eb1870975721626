/- The walk of CronshowItems (layer 26). -/
import Derived.Test.YtjdoknbmnokkdaaDoorCsE
namespace Go.Proofs.YtjdoknbmnokkdaaDoor
open Go.RowKit
set_option linter.unusedVariables false

theorem star15 : itT (0, 0, 0, 15) = ⟨#[42, 47, 49, 53]⟩ := by
  have e : tx 15 = ⟨#[49, 53]⟩ := by
    show (⟨(Lib.itoa ((15 : Nat) : Int)).toArray⟩ : ByteArray) = _
    rw [Lib.itoa_nonneg, Lib.decDigits_two (by decide) (by decide)]
    rfl
  show stT 15 (chr 42) = _
  unfold stT
  rw [if_neg (by decide), e]
  rfl
set_option maxRecDepth 20000 in
theorem lives26_any (w : World) (hT : TabP w) : Calls Tryd.prog 14 #[] w fun e w' => e = .returned (.bool true) ∧ Below w.heap.size w w' := by
  have K := citem_any (0, 0, 0, 15) ⟨show I64 0 by unfold I64; omega, show I64 0 by unfold I64; omega, show I64 0 by unfold I64; omega, show I64 15 by unfold I64; omega⟩ w hT
  rw [star15] at K
  replace K : Calls Tryd.prog 15 #[.agg #[.int .i64 0, .int .i64 0, .int .i64 0, .int .i64 15]] w fun e w' => e = .returned (.string ⟨#[42, 47, 49, 53]⟩) ∧ Below w.heap.size w w' := K
  clear hT
  go_enter Tryd.func14, Tryd.ntmps14
  go_wp2_with fail
  refine K.mono ?_
  rintro e w1 ⟨rfl, hb⟩
  go_wp2
  go_ret
  exact ⟨rfl, hb⟩
set_option maxHeartbeats 1600000 in
set_option maxRecDepth 20000 in
theorem cronshowItems_any (A : Option Addr) (c : Nat) (qs : List Q4) (w : World) (hq : ItemsAt w A qs) (hin : ∀ k, k < qs.length → Q4In (nthQ qs k)) (hT : TabP w) :
    Calls Tryd.prog 4 #[.slice A qs.length c] w fun e w' => e = .returned (.bool true) ∧ Below w.heap.size w w' := by
  have HT := Lib.hid hT
  have HQ := Lib.hid hq
  have KL := Lib.hid (fun W h => lives26_any W h)
  by_cases hn : 200 < qs.length
  · have d0 : decide (200 < qs.length) = true := dec_t hn
    have d1 : decide ((200 : Int) < (qs.length : Int)) = true := dec_t (by omega)
    have KL0 := KL.out w hT
    clear hq hT hn hin
    go_enter Tryd.func4, Tryd.ntmps4
    go_wp2_with fail
    refine KL0.mono ?_
    rintro e w1 ⟨rfl, hb⟩
    go_wp2
    go_ret
    exact ⟨rfl, hb⟩
  have d0 : decide (200 < qs.length) = false := dec_n hn
  have d1 : decide ((200 : Int) < (qs.length : Int)) = false := dec_n (by omega)
  have HN := Lib.hid hn
  have KC := Lib.hid (fun k hk W h => citem_any (nthQ qs k) (hin k hk) W h)
  have KR := Lib.hid (fun k hk W => ritem_any (nthQ qs k) (hin k hk) W)
  have KF := Lib.hid (fun W h1 h2 => cfield_any A c qs W (by omega) h1 hin h2)
  have KG := Lib.hid (fun W h1 => rfield_any A c qs W (by omega) h1 hin)
  generalize joinB (itTs qs qs.length) = r at KF KG
  clear hq hT hn hin
  go_enter Tryd.func4, Tryd.ntmps4
  go_wp2
  go_loopw [3] (fun i wr => ∃ k : Nat, k ≤ qs.length ∧ i = .int .i64 k ∧ Below w.heap.size w wr) (fun i _ => qs.length - (intOf i).toNat)
  case atStart => exact ⟨0, by omega, rfl, Below.refl _ _⟩
  case round =>
    obtain ⟨k, hk, rfl, hb⟩ := hrel
    have HB := Lib.hid hb
    by_cases hlt : k < qs.length
    · have d2 : decide (k < qs.length) = true := dec_t hlt
      obtain ⟨b, off, rfl, hbl, x0, x1, x2, x3⟩ := (HQ.out.below HB.out) k hlt
      have ik0 : (0 : Int) ≤ (k : Int) := by omega
      have ik1 : (k : Int) < (qs.length : Int) := by omega
      have hl := HN.out
      have hw1 : IntKind.i64.wrap ((k : Int) + 1) = (k : Int) + 1 := IntWalk.i64_in _ ⟨by omega, by omega⟩
      have HK := Lib.hid (And.intro hk hlt)
      have KC1 := Lib.hid (KC.out k hlt)
      have KR1 := Lib.hid (KR.out k hlt)
      have HTW := Lib.hid (HT.out.bel HB.out)
      generalize nthQ qs k = q at x0 x1 x2 x3 KC1 KR1
      have HMK := Lib.hid (fun (Y : World) (hb : Below wr.heap.size wr Y) => show Below wr.heap.size wr Y ∧ Y.cell? ⟨b, off + k * 4, none⟩ = some (.int .i64 q.1) ∧ Y.cell? ⟨b, off + k * 4 + 1, none⟩ = some (.int .i64 q.2.1) ∧ Y.cell? ⟨b, off + k * 4 + 2, none⟩ = some (.int .i64 q.2.2.1) ∧ Y.cell? ⟨b, off + k * 4 + 3, none⟩ = some (.int .i64 q.2.2.2) from ⟨hb, (hb.cell (p := ⟨b, off + k * 4, none⟩) hbl).trans x0, (hb.cell (p := ⟨b, off + k * 4 + 1, none⟩) hbl).trans x1, (hb.cell (p := ⟨b, off + k * 4 + 2, none⟩) hbl).trans x2, (hb.cell (p := ⟨b, off + k * 4 + 3, none⟩) hbl).trans x3⟩)
      have HS := HMK.out wr.drew (Below.refl _ _).drew
      unfold qv at KC1 KR1
      generalize itT q = tq at KC1 KR1
      clear hb hk hlt hl x0 x1 x2 x3 hbl
      go_wp2_with fail
      go_region_held3 (fun w' => Below wr.heap.size wr w' ∧ w'.cell? ⟨b, off + k * 4, none⟩ = some (.int .i64 q.1) ∧ w'.cell? ⟨b, off + k * 4 + 1, none⟩ = some (.int .i64 q.2.1) ∧ w'.cell? ⟨b, off + k * 4 + 2, none⟩ = some (.int .i64 q.2.2.1) ∧ w'.cell? ⟨b, off + k * 4 + 3, none⟩ = some (.int .i64 q.2.2.2)) (first | exact HS | exact hSw | exact hSx) (first | (go_at_call 15; with_reducible refine (KC1.out _ (HTW.out.bel HS.1)).mono ?_; rintro e w3 ⟨rfl, hb⟩; have hSw := HMK.out w3 (HS.1.trans (hb.mono HS.1.size)); clear hb KC1) | (go_at_call 16; with_reducible refine (KR1.out _).mono ?_; rintro e w4 ⟨rfl, hb⟩; have hSx := HMK.out w4 (hSw.1.trans (hb.mono hSw.1.size)); have hS2 := hSx; obtain ⟨hbS, y0, y1, y2, y3⟩ := hS2; clear hb KR1))
      have HB4 := Lib.hid (HB.out.trans (hbS.mono HB.out.size))
      clear hbS y0 y1 y2 y3 hSw hSx HS HMK
      go_wp2_with fail
      go_roundw
      case rel => exact ⟨k + 1, by have := HK.out; omega, by go_num, HB4.out⟩
      case measure =>
        have := HK.out
        simp [intOf]; omega
    · obtain rfl : k = qs.length := by omega
      have d2 : decide (qs.length < qs.length) = false := dec_n (by omega)
      have K1 := KF.out wr (HQ.out.below HB.out) (HT.out.bel HB.out)
      clear hb hk hlt
      go_wp2_with fail
      refine K1.mono ?_
      rintro e w1 ⟨rfl, hb1⟩
      have HB1 := Lib.hid (HB.out.trans (hb1.mono HB.out.size))
      have K2 := KG.out w1 (HQ.out.below HB1.out)
      clear hb1 K1
      go_wp2_with fail
      refine K2.mono ?_
      rintro e w2 ⟨rfl, hb2⟩
      have HB2 := Lib.hid (HB1.out.trans (hb2.mono HB1.out.size))
      have K3 := KL.out w2 (HT.out.bel HB2.out)
      clear hb2 K2
      go_wp2_with fail
      refine K3.mono ?_
      rintro e w3 ⟨rfl, hb3⟩
      have HB3 := Lib.hid (HB2.out.trans (hb3.mono HB2.out.size))
      clear hb3 K3
      go_wp2
      go_ret
      exact ⟨rfl, HB3.out⟩
end Go.Proofs.YtjdoknbmnokkdaaDoor
