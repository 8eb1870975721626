/- wide.Of (layer 4). -/
import Derived.Test.YtbfndcogieiejaaWdA
namespace Go.Proofs.Ytbfndcogieiejaa
open Go.RowKit
set_option linter.unusedVariables false

theorem inW_step (zs : List Int) (k n : Nat) (h : k < zs.length) (hn : zs[k]?.getD 0 = (n : Int)) (h4 : n < 400) : ∀ i, inW (zs.take (k + 1)) i = (inW (zs.take k) i || decide (i = n)) := fun i => by rw [take_step zs k h, hn, inW_snoc _ _ _ h4]
theorem inW_pass (zs : List Int) (k : Nat) (h : k < zs.length) (hx : zs[k]?.getD 0 < 0 ∨ 400 ≤ zs[k]?.getD 0) : ∀ j, j < 7 → wv (inW (zs.take k)) j = wv (inW (zs.take (k + 1))) j := fun j _ => wv_congr fun i _ => by rw [take_step zs k h, inW_skip _ _ _ hx]
theorem zero_wv (P : Nat → Bool) (h : ∀ i, P i = false) (j : Nat) : 0 = wv P j := by
  rw [← mk_none]
  exact mk_congr fun i _ => (h _).symm
set_option maxHeartbeats 1600000 in
set_option maxRecDepth 20000 in
theorem wof_any (A : Option Addr) (c : Nat) (zs : List Int) (w : World) (hl : zs.length ≤ 1000000) (hc : Ints .i64 w A zs) :
    Calls Try.prog 23 #[.slice A zs.length c] w fun e w' => e = .returned (S7 (inW zs)) ∧ Below w.heap.size w w' := by
  have HR0 := Lib.hid ((Sev.new w (fun _ => 0)).alloc (.cells (c7 fun _ => 0) 39))
  have HS0 := Lib.hid (show Sev ((w.alloc (.cells (c7 fun _ => 0) 39)).alloc (.cells (c7 fun _ => 0) 39)) (w.heap.size + 1) (fun _ => 0) by
    have q := Sev.new (w.alloc (.cells (c7 fun _ => 0) 39)) (fun _ => 0)
    rwa [World.size_alloc] at q)
  have HB0 := Lib.hid (show Below w.heap.size w ((w.alloc (.cells (c7 fun _ => 0) 39)).alloc (.cells (c7 fun _ => 0) 39)) from ((Below.refl _ _).alloc (Nat.le_refl _) _).alloc (by simp) _)
  have HC := Lib.hid hc
  clear hc
  go_enter Try.func23, Try.ntmps23
  go_wp2
  go_loopw [5, 8] (fun _ i wr => ∃ k : Nat, k ≤ zs.length ∧ i = .int .i64 k ∧ Sev wr (w.heap.size + 1) (wv (inW (zs.take k))) ∧ Sev wr w.heap.size (fun _ => 0) ∧ Below w.heap.size w wr) (fun _ i _ => zs.length - (intOf i).toNat)
  case atStart => exact ⟨0, by omega, rfl, HS0.out.congr fun j _ => zero_wv _ (fun i => by rw [List.take_zero, inW_nil]) j, HR0.out, HB0.out⟩
  case round =>
    obtain ⟨k, hk, rfl, hs, hr, hb⟩ := hrel
    have HS := Lib.hid hs
    have HR := Lib.hid hr
    have HB := Lib.hid hb
    by_cases hlt : k < zs.length
    · obtain ⟨b, off, rfl, hbl, hcell⟩ := (Ints.below HC.out HB.out) k hlt
      have HP := Lib.hid (fun hx => inW_pass zs k hlt hx)
      have HN := Lib.hid (fun n hn h4 => inW_step zs k n hlt hn h4)
      have d3 := dec_t hlt
      clear hs hr hb
      generalize hz : zs[k]?.getD 0 = z at hcell HP HN
      by_cases h1 : 0 ≤ z
      · have d1 := dec_t h1
        by_cases h2 : z < 400
        · obtain ⟨n, rfl⟩ := Int.eq_ofNat_of_zero_le h1
          have hn : n < 400 := by omega
          have hq : Int.tdiv (n : Int) 64 = ((n / 64 : Nat) : Int) := by rw [Int.tdiv_eq_ediv_of_nonneg (by omega)]; omega
          have hm : Int.tmod (n : Int) 64 = ((n % 64 : Nat) : Int) := by rw [Int.tmod_eq_emod_of_nonneg (by omega)]; omega
          have hq7 : n / 64 < 7 := by omega
          have hm6 : n % 64 < 64 := by omega
          have ck := HS.out.cell (n / 64) hq7
          have fk := HS.out.free (n / 64)
          have i1 : (n : Int) < 400 := by omega
          have hP := HN.out n rfl hn
          obtain ⟨hp1, hp2⟩ := wv_put (inW (zs.take k)) (inW (zs.take (k + 1))) n hP
          have hv : bits BinOp.or IntKind.u64 ((wv (inW (zs.take k)) (n / 64) : Nat) : Int) (IntKind.u64.wrap (2 ^ (n % 64))) = ((wv (inW (zs.take (k + 1))) (n / 64) : Nat) : Int) := by
            rw [hp2]
            exact or_put (fun i => inW (zs.take k) (64 * (n / 64) + i)) (n % 64) hm6
          generalize n / 64 = q at hq hq7 ck fk hv hp1 hp2
          generalize n % 64 = r at hm hm6 hv hp2
          have HP1 := Lib.hid hp1
          clear hz hP hp1 hp2 HP HN h1 h2
          go_wp2
          go_region
          go_wp2
          go_roundw
          case rel => exact ⟨k + 1, by omega, by go_num, (HS.out.put q _ hq7 rfl (fun j _ hne => HP1.out j hne)).drew, (HR.out.other _ _ _ (by omega)).drew, (HB.out.setCell (by show w.heap.size ≤ w.heap.size + 1; omega) _).drew⟩
          case measure => simp [intOf]; omega
        · have HE := Lib.hid (HP.out (.inr (by omega)))
          have d2 := dec_n h2
          clear h1 h2 hz HP HN
          go_wp2
          go_roundw
          case rel => exact ⟨k + 1, by omega, by go_num, HS.out.congr HE.out, HR.out, HB.out⟩
          case measure => simp [intOf]; omega
      · have HE := Lib.hid (HP.out (.inl (by omega)))
        have d1 := dec_n h1
        clear h1 hz HP HN
        go_wp2
        go_roundw
        case rel => exact ⟨k + 1, by omega, by go_num, HS.out.congr HE.out, HR.out, HB.out⟩
        case measure => simp [intOf]; omega
    · obtain rfl : k = zs.length := by omega
      rw [List.take_length] at HS hs
      obtain ⟨x0, x1, x2, x3, x4, x5, x6⟩ := HS.out.cells
      obtain ⟨y0, y1, y2, y3, y4, y5, y6⟩ := HR.out.cells
      obtain ⟨z0, z1, z2, z3, z4, z5, z6⟩ := HR.out.frees
      clear hs hr hb
      go_wp2
      obtain ⟨q1, q2⟩ := HR.out.put7 (wv (inW zs))
      refine bodyPost_ret (results7 rfl rfl q1) rfl ⟨rfl, Below.but HB.out q2 (fun i hi hx => by omega)⟩
end Go.Proofs.Ytbfndcogieiejaa
