/- wide.Both (layer 4). -/
import Derived.Test.YtjdoknbmnokkdaaDoorWdB
namespace Go.Proofs.YtjdoknbmnokkdaaDoor
open Go.RowKit
set_option linter.unusedVariables false

/-- a slice of sets -/
def Sets (w : World) (A : Option Addr) (Ps : List (Nat → Bool)) : Prop := ∀ k, k < Ps.length → ∃ b off, A = some ⟨b, off, none⟩ ∧ b < w.heap.size ∧ ∀ j, j < 7 → w.cell? ⟨b, off + k * 7 + j, none⟩ = some (.int .u64 (wv (Ps[k]?.getD fun _ => false) j : Nat))
theorem Sets.below {w w' : World} {A : Option Addr} {Ps : List (Nat → Bool)} (h : Sets w A Ps) (hb : Below w.heap.size w w') : Sets w' A Ps := fun k hk => by
  obtain ⟨b, off, hA, hl, hc⟩ := h k hk
  exact ⟨b, off, hA, Nat.lt_of_lt_of_le hl hb.size, fun j hj => (hb.cell (p := ⟨b, off + k * 7 + j, none⟩) hl).trans (hc j hj)⟩
/-- what is in all sets -/
def andP (Ps : List (Nat → Bool)) (i : Nat) : Bool := fullW i && Ps.all fun P => P i
def orP (Ps : List (Nat → Bool)) (i : Nat) : Bool := Ps.any fun P => P i
theorem andP_nil : ∀ i, fullW i = andP [] i := fun i => by simp [andP]
theorem take_stepP (Ps : List (Nat → Bool)) (k : Nat) (h : k < Ps.length) : Ps.take (k + 1) = Ps.take k ++ [Ps[k]?.getD fun _ => false] := by
  rw [List.take_succ_eq_append_getElem h, List.getElem?_eq_getElem h]; rfl
theorem and_nat (a b : Nat) (ha : a < 18446744073709551616) (hb : b < 18446744073709551616) : bits BinOp.and IntKind.u64 ((a : Nat) : Int) ((b : Nat) : Int) = ((a &&& b : Nat) : Int) := u64_and_nat a b ha hb
theorem wv_and (P Q : Nat → Bool) (j : Nat) : wv P j &&& wv Q j = wv (fun i => P i && Q i) j := mk_and _ _
theorem wv_or (P Q : Nat → Bool) (j : Nat) : wv P j ||| wv Q j = wv (fun i => P i || Q i) j := mk_or _ _
theorem andP_step (Ps : List (Nat → Bool)) (k : Nat) (h : k < Ps.length) (j : Nat) : bits BinOp.and IntKind.u64 ((wv (andP (Ps.take k)) j : Nat) : Int) ((wv (Ps[k]?.getD fun _ => false) j : Nat) : Int) = ((wv (andP (Ps.take (k + 1))) j : Nat) : Int) := by
  rw [and_nat _ _ (wv_lt _ _) (wv_lt _ _), wv_and, take_stepP Ps k h]
  congr 1
  exact wv_congr fun i _ => by unfold andP; rw [List.all_append]; simp [Bool.and_assoc]
theorem sets_cells {w : World} {b off k : Nat} {f : Nat → Nat} (h : ∀ j, j < 7 → w.cell? ⟨b, off + k * 7 + j, none⟩ = some (.int .u64 (f j : Nat))) : w.cell? ⟨b, off + k * 7, none⟩ = some (.int .u64 (f 0 : Nat)) ∧ w.cell? ⟨b, off + k * 7 + 1, none⟩ = some (.int .u64 (f 1 : Nat)) ∧ w.cell? ⟨b, off + k * 7 + 2, none⟩ = some (.int .u64 (f 2 : Nat)) ∧ w.cell? ⟨b, off + k * 7 + 3, none⟩ = some (.int .u64 (f 3 : Nat)) ∧ w.cell? ⟨b, off + k * 7 + 4, none⟩ = some (.int .u64 (f 4 : Nat)) ∧ w.cell? ⟨b, off + k * 7 + 5, none⟩ = some (.int .u64 (f 5 : Nat)) ∧ w.cell? ⟨b, off + k * 7 + 6, none⟩ = some (.int .u64 (f 6 : Nat)) := ⟨h 0 (by omega), h 1 (by omega), h 2 (by omega), h 3 (by omega), h 4 (by omega), h 5 (by omega), h 6 (by omega)⟩
def upd (f g : Nat → Nat) (j x : Nat) : Nat := if x < j then g x else f x
set_option maxHeartbeats 3200000 in
set_option maxRecDepth 20000 in
theorem both_any (A : Option Addr) (c : Nat) (Ps : List (Nat → Bool)) (w : World) (hl : Ps.length ≤ 1000000) (hc : Sets w A Ps) :
    Calls Tryd.prog 167 #[.slice A Ps.length c] w fun e w' => e = .returned (S7 (andP Ps)) ∧ Below w.heap.size w w' := by
  have HC := Lib.hid hc
  have KF := fun W => wfull_any W
  unfold S7 c7 at KF
  have HR0 := Lib.hid (Sev.new w (fun _ => 0))
  have HB0 := Lib.hid (show Below w.heap.size w (w.alloc (.cells (c7 fun _ => 0) 68)) from (Below.refl _ _).alloc (Nat.le_refl _) _)
  clear hc
  go_enter Tryd.func167, Tryd.ntmps167
  go_wp2_with fail
  refine (KF _).mono ?_
  rintro e w1 ⟨rfl, hb1⟩
  have hs1 := hb1.size
  rw [World.size_alloc] at hs1
  have HR1 := Lib.hid ((HR0.out.below hb1).alloc (.cells (c7 (wv fullW)) 68))
  have HS1 := Lib.hid (Sev.new w1 (wv fullW))
  have HB1 := Lib.hid ((HB0.out.trans (hb1.mono (by simp))).alloc (by omega) (.cells (c7 (wv fullW)) 68))
  have HL1 := Lib.hid (show w.heap.size < w1.heap.size by omega)
  clear hb1 KF HR0 HB0 hs1
  generalize hg : w1.heap.size = g at HS1 HL1
  have HG := Lib.hid hg
  go_wp2
  go_loopw [10] (fun i wr => ∃ k : Nat, k ≤ Ps.length ∧ i = .int .i64 k ∧ Sev wr g (wv (andP (Ps.take k))) ∧ Sev wr w.heap.size (fun _ => 0) ∧ Below w.heap.size w wr) (fun i _ => Ps.length - (intOf i).toNat)
  case atStart => exact ⟨0, by omega, rfl, HS1.out.congr fun j _ => wv_congr fun i _ => andP_nil _, HR1.out, HB1.out⟩
  case round =>
    obtain ⟨k, hk, rfl, hs, hr, hb⟩ := hrel
    have HS := Lib.hid hs
    have HR := Lib.hid hr
    have HB := Lib.hid hb
    by_cases hlt : k < Ps.length
    · obtain ⟨b, off, rfl, hbl, hcell⟩ := (Sets.below HC.out HB.out) k hlt
      have d3 := dec_t hlt
      have HP := Lib.hid (fun j => andP_step Ps k hlt j)
      clear hs hr hb
      generalize hf : wv (Ps[k]?.getD fun _ => false) = f at hcell HP
      clear hf
      obtain ⟨x0, x1, x2, x3, x4, x5, x6⟩ := sets_cells hcell
      have HS2 := Lib.hid ((HS.out.alloc (.cells (c7 f) 68)).congr fun j _ => (show wv (andP (Ps.take k)) j = upd (wv (andP (Ps.take k))) (wv (andP (Ps.take (k + 1)))) 0 j by unfold upd; rw [if_neg (by omega)]))
      have HR2 := Lib.hid (HR.out.alloc (.cells (c7 f) 68))
      have HF2 := Lib.hid (Sev.new wr f)
      have HB2 := Lib.hid (HB.out.alloc HB.out.size (.cells (c7 f) 68))
      have l1 := HS.out.lt
      have l2 := HR.out.lt
      generalize hh : wr.heap.size = h at HF2 l1 l2
      clear hcell hbl
      go_wp2
      go_loopw [14] (fun i wx => ∃ j : Nat, j ≤ 7 ∧ i = .int .i64 j ∧ Sev wx g (upd (wv (andP (Ps.take k))) (wv (andP (Ps.take (k + 1)))) j) ∧ Sev wx w.heap.size (fun _ => 0) ∧ Sev wx h f ∧ Below w.heap.size w wx) (fun i _ => 7 - (intOf i).toNat)
      case atStart => exact ⟨0, by omega, rfl, HS2.out, HR2.out, HF2.out, HB2.out⟩
      case round =>
        obtain ⟨j, hj, rfl, hs, hr, hf, hb⟩ := hrel
        have HS3 := Lib.hid hs
        have HR3 := Lib.hid hr
        have HF3 := Lib.hid hf
        have HB3 := Lib.hid hb
        have l0 := HL1.out
        by_cases hjl : j < 7
        · have ck := hs.cell j hjl
          rw [show upd (wv (andP (Ps.take k))) (wv (andP (Ps.take (k + 1)))) j j = wv (andP (Ps.take k)) j by unfold upd; rw [if_neg (by omega)]] at ck
          have fk := hs.free j
          have ch := hf.cell j hjl
          have hv := HP.out j
          have d4 : decide ((j : Int) < 7) = true := decide_eq_true (by omega)
          clear hs hr hb hf x0 x1 x2 x3 x4 x5 x6
          go_wp2
          go_region
          go_wp2
          go_roundw
          case rel => exact ⟨j + 1, by omega, by go_num, (HS3.out.put (g := upd (wv (andP (Ps.take k))) (wv (andP (Ps.take (k + 1)))) (j + 1)) j _ hjl (by unfold upd; rw [if_pos (by omega)]) (fun i _ hne => by unfold upd; split <;> split <;> first | rfl | omega)).drew, (HR3.out.other _ _ _ (by omega)).drew, (HF3.out.other _ _ _ (by omega)).drew, (HB3.out.setCell (by show w.heap.size ≤ g; omega) _).drew⟩
          case measure => simp [intOf]; omega
        · obtain rfl : j = 7 := by omega
          clear hs hr hb hf x0 x1 x2 x3 x4 x5 x6
          go_wp2
          go_roundw
          case rel => exact ⟨k + 1, by omega, by go_num, HS3.out.congr (fun i hi => by unfold upd; rw [if_pos hi]), HR3.out, HB3.out⟩
          case measure => simp [intOf]; omega
    · obtain rfl : k = Ps.length := by omega
      rw [List.take_length] at HS hs
      obtain ⟨x0, x1, x2, x3, x4, x5, x6⟩ := HS.out.cells
      obtain ⟨y0, y1, y2, y3, y4, y5, y6⟩ := HR.out.cells
      obtain ⟨z0, z1, z2, z3, z4, z5, z6⟩ := HR.out.frees
      have l0 := HL1.out
      clear hs hr hb
      go_wp2
      obtain ⟨q1, q2⟩ := HR.out.put7 (wv (andP Ps))
      refine bodyPost_ret (results7 rfl rfl q1) rfl ⟨rfl, Below.but HB.out q2 (fun i hi hx => by omega)⟩
end Go.Proofs.YtjdoknbmnokkdaaDoor
