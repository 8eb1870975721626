/- The numbers of items as a set: item.Wide (layer 12). -/
import Derived.Test.YtbfndcogieiejaaVaD
import Derived.Test.YtbfndcogieiejaaWdB
import Derived.Deep.Onto
namespace Go.Proofs.Ytbfndcogieiejaa
open Go.RowKit
set_option linter.unusedVariables false

/-- the first k numbers are told from lo -/
def moved (zs : List Int) (lo : Int) : Nat → List Int
  | 0 => zs
  | k + 1 => (moved zs lo k).set k (zs[k]?.getD 0 - lo)
theorem moved_len (zs : List Int) (lo : Int) : ∀ k, (moved zs lo k).length = zs.length
  | 0 => rfl
  | k + 1 => by rw [moved, List.length_set, moved_len zs lo k]
theorem moved_get (zs : List Int) (lo : Int) : ∀ k j, (moved zs lo k)[j]? = zs[j]?.map fun z => if j < k then z - lo else z
  | 0, j => by simp [moved]
  | k + 1, j => by
    rw [moved, List.getElem?_set, moved_len, moved_get zs lo k]
    by_cases e : k = j
    · subst e
      by_cases h : k < zs.length
      · rw [if_pos rfl, if_pos h, List.getElem?_eq_getElem h]
        simp
      · rw [if_pos rfl, if_neg h, List.getElem?_eq_none (by omega)]
        rfl
    · rw [if_neg e]
      congr 1
      funext z
      by_cases h : j < k
      · rw [if_pos h, if_pos (by omega)]
      · rw [if_neg h, if_neg (by omega)]
theorem moved_all (zs : List Int) (lo : Int) : moved zs lo zs.length = zs.map (· - lo) := by
  apply List.ext_getElem?
  intro j
  rw [moved_get, List.getElem?_map]
  by_cases h : j < zs.length
  · rw [List.getElem?_eq_getElem h]
    simp [h]
  · rw [List.getElem?_eq_none (by omega)]
    rfl
theorem moved_here (zs : List Int) (lo : Int) (k : Nat) : (moved zs lo k)[k]? = zs[k]? := by
  rw [moved_get]
  cases zs[k]? <;> simp
theorem vals_le (lo hi : Int) (qs : List Q4) : (valsL lo hi qs).length ≤ 10000 := by
  unfold valsL
  split
  · next h =>
    unfold fieldB at h
    rw [decide_eq_true_eq] at h
    have := numsP_le (valsP lo hi qs) (hi.toNat + 1)
    omega
  · exact Nat.zero_le _
theorem vals_bd (lo hi : Int) (qs : List Q4) (k : Nat) (hk : k < (valsL lo hi qs).length) : 0 ≤ lo ∧ lo ≤ 9999 ∧ 0 ≤ (valsL lo hi qs)[k]?.getD 0 ∧ (valsL lo hi qs)[k]?.getD 0 ≤ 9999 := by
  have hm : (valsL lo hi qs)[k]?.getD 0 ∈ valsL lo hi qs := by
    rw [List.getElem?_eq_getElem hk]
    exact List.getElem_mem hk
  revert hm
  generalize (valsL lo hi qs)[k]?.getD 0 = z
  unfold valsL
  split
  · next h =>
    intro hm
    obtain ⟨i, h1, _, rfl⟩ := mem_numsP.1 hm
    unfold fieldB at h
    rw [decide_eq_true_eq] at h
    omega
  · intro hm; cases hm
/-- a place of a list of the call's own -/
theorem OwnI.place {w : World} {base : Nat} {B : Option Addr} {n d : Nat} {zs : List Int} (h : OwnI w base (.slice B n d) zs) (k : Nat) (hk : k < zs.length) : ∃ g, B = some ⟨g, 0, none⟩ ∧ base ≤ g ∧ g < w.heap.size ∧ w.cell? ⟨g, k, none⟩ = some (.int .i64 (zs[k]?.getD 0)) ∧ w.frozen? ⟨g, k, none⟩ = false ∧
    (∀ x, OwnI (w.setCell ⟨g, k, none⟩ (.int .i64 x)) base (.slice B n d) (zs.set k x) ∧ w.grownBy (w.setCell ⟨g, k, none⟩ (.int .i64 x)) (some g)) := by
  unfold OwnI at h
  have hz : 0 < zs.length := by omega
  have h0 := h
  rcases h.2 with ⟨_, h2⟩ | ⟨g, cap, cur, hv, hg, hh, hc, hm, hs, ht⟩
  · omega
  · cases hv
    refine ⟨g, rfl, hg, lt_of_block hh, ?_, h0.frozenAt k, fun x => ?_⟩
    · rw [h0.cellAt k (by omega), List.getElem?_map, List.getElem?_eq_getElem hk]; rfl
    · have q := h0.stored k (.int .i64 x)
      refine ⟨?_, q.2⟩
      unfold OwnI
      rw [List.length_set, List.map_set]
      exact q.1
set_option maxHeartbeats 3200000 in
set_option maxRecDepth 20000 in
theorem iwide_any (lo hi : Int) (A : Option Addr) (c : Nat) (qs : List Q4) (w : World) (hl : qs.length ≤ 1000000) (hq : ItemsAt w A qs) :
    Calls Try.prog 15 #[.int .i64 lo, .int .i64 hi, .slice A qs.length c] w fun e w' => e = .returned (S7 (inW ((valsL lo hi qs).map (· - lo)))) ∧ Below w.heap.size w w' := by
  have HR0 := Lib.hid (Sev.new w (fun _ => 0))
  have HB0 := Lib.hid (show Below w.heap.size w (w.alloc (.cells (c7 fun _ => 0) 39)) from (Below.refl _ _).alloc (Nat.le_refl _) _)
  have K := values_own lo hi A c qs (w.alloc (.cells (c7 fun _ => 0) 39)) hl (hq.below (HB0.out))
  have HLE := Lib.hid (vals_le lo hi qs)
  have HBD := Lib.hid (fun k h => vals_bd lo hi qs k h)
  generalize valsL lo hi qs = zs at K HLE HBD ⊢
  have KW := Lib.hid (fun (B : Option Addr) (d : Nat) (W : World) (h : Ints .i64 W B (zs.map (· - lo))) => by
    have k := wof_any B d (zs.map (· - lo)) W (by rw [List.length_map]; have := HLE.out; omega) h
    rw [List.length_map] at k
    exact k)
  have HMV := Lib.hid (moved_all zs lo)
  generalize zs.map (· - lo) = ys at KW HMV ⊢
  clear hl hq
  go_enter Try.func15, Try.ntmps15
  go_wp2_with fail
  refine K.mono ?_
  rintro e w1 ⟨B, d, rfl, ho, hb⟩
  have hsz : (w.alloc (.cells (c7 fun _ => 0) 39)).heap.size = w.heap.size + 1 := World.size_alloc _ _
  have HR1 := Lib.hid (HR0.out.below hb)
  have HB1 := Lib.hid (HB0.out.trans (hb.mono HB0.out.size))
  have HO1 := Lib.hid (show OwnI w1 (w.heap.size + 1) (.slice B zs.length d) zs from World.ownsRow.mono ho (by omega))
  have HS1 := Lib.hid (show w.heap.size + 1 ≤ w1.heap.size from by have := hb.size; omega)
  clear K hb ho hsz HR0 HB0
  go_wp2
  go_loopw [8, 15] (fun _ i wr => ∃ k : Nat, k ≤ zs.length ∧ i = .int .i64 k ∧ OwnI wr (w.heap.size + 1) (.slice B zs.length d) (moved zs lo k) ∧ Sev wr w.heap.size (fun _ => 0) ∧ Below w.heap.size w wr ∧ w.heap.size + 1 ≤ wr.heap.size) (fun _ i _ => zs.length - (intOf i).toNat)
  case atStart => exact ⟨0, by omega, rfl, HO1.out, HR1.out, HB1.out, HS1.out⟩
  case round =>
    obtain ⟨k, hk, rfl, ho, hr, hb, hsz⟩ := hrel
    have HR := Lib.hid hr
    have HB := Lib.hid hb
    have HS := Lib.hid hsz
    have HO := Lib.hid ho
    by_cases hlt : k < zs.length
    · have d0 : decide (k < zs.length) = true := dec_t hlt
      obtain ⟨g, rfl, hg, hgl, ck, fk, hst⟩ := ho.place k (by rw [moved_len]; exact hlt)
      rw [moved_here] at ck
      have HST := Lib.hid (fun x => hst x)
      have HMS := Lib.hid (show (moved zs lo k).set k (zs[k]?.getD 0 - lo) = moved zs lo (k + 1) from rfl)
      obtain ⟨b1, b2, b3, b4⟩ := HBD.out k hlt
      generalize zs[k]?.getD 0 = z at ck HMS b3 b4
      have hw1 : IntKind.i64.wrap (z - lo) = z - lo := IntWalk.i64_in _ ⟨by omega, by omega⟩
      have hle := HLE.out
      have hw2 : IntKind.i64.wrap ((k : Int) + 1) = (k : Int) + 1 := IntWalk.i64_in _ ⟨by omega, by omega⟩
      have ik0 : (0 : Int) ≤ (k : Int) := by omega
      have ik1 : (k : Int) < (zs.length : Int) := by omega
      have HG := Lib.hid hg
      have HK := Lib.hid (And.intro hk hlt)
      clear ho hr hb hsz hst hg hgl hk hlt b1 b2 b3 b4 hle
      go_wp2
      go_roundw
      case rel => exact ⟨k + 1, by have := HK.out; omega, by go_num, by rw [← HMS.out]; exact (HST.out _).1, HR.out.other _ _ _ (by have := HG.out; omega), HB.out.setCell (by have := HG.out; show w.heap.size ≤ g; omega) _, by
        have := (HST.out (z - lo)).2.size
        have := HS.out
        omega⟩
      case measure =>
        have := HK.out
        simp [intOf]; omega
    · obtain rfl : k = zs.length := by omega
      have d0 : decide (zs.length < zs.length) = false := dec_n (by omega)
      have KW2 := KW.out B d wr (by
        rw [HMV.out] at ho
        obtain ⟨A', c', hv, hi, _⟩ := ho.ints3
        rw [(Value.slice.inj hv).1]
        exact hi)
      unfold S7 c7 at KW2
      clear ho hr hb hsz hlt hk KW HO HBD HO1
      go_wp2_with fail
      refine KW2.mono ?_
      rintro e w2 ⟨rfl, hb2⟩
      have HR4 := Lib.hid (HR.out.below hb2)
      have HB4 := Lib.hid (HB.out.trans (hb2.mono HB.out.size))
      clear hb2
      obtain ⟨y0, y1, y2, y3, y4, y5, y6⟩ := HR4.out.cells
      obtain ⟨z0, z1, z2, z3, z4, z5, z6⟩ := HR4.out.frees
      go_wp2
      obtain ⟨q1, q2⟩ := HR4.out.put7 (wv (inW ys))
      refine bodyPost_ret (results7 rfl rfl q1) rfl ⟨rfl, Below.but HB4.out q2 (fun i hi hx => by omega)⟩
end Go.Proofs.Ytbfndcogieiejaa
