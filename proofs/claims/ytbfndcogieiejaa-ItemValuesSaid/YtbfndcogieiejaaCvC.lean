/- Contract of cover.Of: a row of pieces of the call's own (layer 3). -/
import Derived.Test.YtbfndcogieiejaaCvB
namespace Go.Proofs.Ytbfndcogieiejaa
open Go.RowKit
set_option linter.unusedVariables false

theorem info_piece : (Try.prog.info? 55).map (fun i => (i.zero, i.size, i.bytes)) = some (some (.agg #[.int .i64 0, .int .i64 0, .int .i64 0]), 3, 24) := by kernel_rfl
/-- the cells of pieces, one after another -/
def cells3 : List P3 → List Value
  | [] => []
  | p :: ps => .int .i64 p.1 :: .int .i64 p.2.1 :: .int .i64 p.2.2 :: cells3 ps
theorem cells3_snoc (p : P3) : ∀ ps : List P3, cells3 (ps ++ [p]) = cells3 ps ++ [.int .i64 p.1, .int .i64 p.2.1, .int .i64 p.2.2]
  | [] => rfl
  | q :: ps => by
    rw [List.cons_append]
    unfold cells3
    rw [cells3_snoc p ps]
    rfl
def nthP (ps : List P3) (k : Nat) : P3 := ps[k]?.getD (0, 0, 0)
theorem cells3_len : ∀ ps : List P3, (cells3 ps).length = ps.length * 3
  | [] => rfl
  | q :: ps => by
    unfold cells3
    simp only [List.length_cons, cells3_len ps]
    omega
theorem cells3_get : ∀ (ps : List P3) (k : Nat), k < ps.length → (cells3 ps)[k * 3]? = some (.int .i64 (nthP ps k).1) ∧ (cells3 ps)[k * 3 + 1]? = some (.int .i64 (nthP ps k).2.1) ∧ (cells3 ps)[k * 3 + 2]? = some (.int .i64 (nthP ps k).2.2)
  | [], k, h => by simp at h
  | q :: ps, 0, h => ⟨rfl, rfl, rfl⟩
  | q :: ps, k + 1, h => by
    have ih := cells3_get ps k (by simpa using h)
    rw [show (k + 1) * 3 = k * 3 + 1 + 1 + 1 by omega]
    unfold cells3
    have e : nthP (q :: ps) (k + 1) = nthP ps k := rfl
    rw [e]
    exact ih
/-- pieces that lie in memory -/
def PiecesAt (w : World) (A : Option Addr) (ps : List P3) : Prop := ∀ k, k < ps.length → ∃ b off, A = some ⟨b, off, none⟩ ∧ b < w.heap.size ∧
  w.cell? ⟨b, off + k * 3, none⟩ = some (.int .i64 (nthP ps k).1) ∧ w.cell? ⟨b, off + k * 3 + 1, none⟩ = some (.int .i64 (nthP ps k).2.1) ∧ w.cell? ⟨b, off + k * 3 + 2, none⟩ = some (.int .i64 (nthP ps k).2.2)
theorem PiecesAt.below {w w' : World} {A : Option Addr} {ps : List P3} (h : PiecesAt w A ps) (hb : Below w.heap.size w w') : PiecesAt w' A ps := by
  intro j hj
  obtain ⟨b, off, hA, hl, h1, h2, h3⟩ := h j hj
  exact ⟨b, off, hA, Nat.lt_of_lt_of_le hl hb.size, (hb.cell (p := ⟨b, off + j * 3, none⟩) hl).trans h1, (hb.cell (p := ⟨b, off + j * 3 + 1, none⟩) hl).trans h2, (hb.cell (p := ⟨b, off + j * 3 + 2, none⟩) hl).trans h3⟩
/-- a row of pieces of the call's own -/
def OwnP (w : World) (base : Nat) (v : Value) (ps : List P3) : Prop := w.ownsRow base 55 3 v ps.length (cells3 ps)
theorem OwnP.nil (w : World) (base : Nat) : OwnP w base (.slice none 0 0) [] := World.ownsRow_nil w base 55 3
theorem OwnP.at {w : World} {base : Nat} {v : Value} {ps : List P3} (h : OwnP w base v ps) : ∃ A c, v = .slice A ps.length c ∧ PiecesAt w A ps ∧ ps.length ≤ c := by
  rcases h.2 with ⟨hv, hn⟩ | ⟨g, cap, cur, hv, hg, hh, hc, hm, hs, ht⟩
  · refine ⟨none, 0, ?_, ?_, ?_⟩
    · rw [hn]; exact hv
    · intro j hj
      omega
    · omega
  · have hx : ∀ k i, k < ps.length → i < 3 → w.cell? ⟨g, 0 + k * 3 + i, none⟩ = (cells3 ps)[k * 3 + i]? := by
      intro k i hk hi
      rw [Nat.zero_add, blk_cell hh, ← ht, List.getElem?_take_of_lt (by omega), Array.getElem?_toList]
    refine ⟨some ⟨g, 0, none⟩, cap, hv, fun j hj => ⟨g, 0, rfl, lt_of_block hh, ?_⟩, hc⟩
    obtain ⟨h1, h2, h3⟩ := cells3_get ps j hj
    exact ⟨(hx j 0 hj (by omega)).trans h1, (hx j 1 hj (by omega)).trans h2, (hx j 2 hj (by omega)).trans h3⟩
theorem OwnP.below {w w' : World} {base : Nat} {v : Value} {ps : List P3} (h : OwnP w base v ps) (hb : Below w.heap.size w w') : OwnP w' base v ps := by
  obtain ⟨h1, h2⟩ := h
  refine ⟨h1, ?_⟩
  rcases h2 with h2 | ⟨g, cap, cur, hv, hg, hh, r⟩
  · exact .inl h2
  · exact .inr ⟨g, cap, cur, hv, hg, by rw [hb.block g (lt_of_block hh)]; exact hh, r⟩
theorem OwnP.snoc {w' : World} {base : Nat} {v' : Value} {ps : List P3} {p : P3} (h : w'.ownsRow base 55 3 v' (ps.length + 1) (cells3 ps ++ [.int .i64 p.1, .int .i64 p.2.1, .int .i64 p.2.2])) : OwnP w' base v' (ps ++ [p]) := by
  unfold OwnP
  rw [List.length_append, cells3_snoc]
  exact h
theorem ownp_block {w : World} {base : Nat} {v : Value} {ps : List P3} (h : OwnP w base v ps) : ∀ k, v.ownBlock = some k → base ≤ k := fun k hk => (World.ownsRow.lt h k hk).1
def GivesP (ps : List P3) (w : World) (e : Ending) (w' : World) : Prop := ∃ A c, e = .returned (.slice A ps.length c) ∧ PiecesAt w' A ps ∧ Below w.heap.size w w' ∧ ps.length ≤ c
theorem ints_drop {w : World} {b off : Nat} {zs : List Int} {n c : Nat} (h : Ints .i64 w (some ⟨b, off, none⟩) zs) (hn : n ≤ zs.length) (hc : zs.length ≤ c) : Ints .i64 w (if c = n then some ⟨b, off, none⟩ else some ⟨b, off + n, none⟩) (zs.drop n) := by
  intro j hj
  rw [List.length_drop] at hj
  rw [if_neg (by omega)]
  obtain ⟨b', off', hA, hl, hcell⟩ := h (n + j) (by omega)
  cases hA
  refine ⟨b, off + n, rfl, hl, ?_⟩
  rw [drop_get, Nat.add_assoc]
  exact hcell
theorem ints_drop' {w : World} {b off : Nat} {zs : List Int} {p n c : Nat} (h : Ints .i64 w (some ⟨b, off, none⟩) (zs.drop p)) (hn : n ≤ zs.length - p) (hc : zs.length - p ≤ c) : Ints .i64 w (if c = n then some ⟨b, off, none⟩ else some ⟨b, off + n, none⟩) (zs.drop (p + n)) := by
  have := ints_drop (n := n) (c := c) h (by rw [List.length_drop]; exact hn) (by rw [List.length_drop]; exact hc)
  rwa [List.drop_drop] at this
theorem ints_take {w : World} {A : Option Addr} {zs : List Int} (n : Nat) (h : Ints .i64 w A zs) : Ints .i64 w A (zs.take n) := by
  intro j hj
  rw [List.length_take] at hj
  rw [take_get zs n j (by omega)]
  exact h j (by omega)
theorem quiet_bel {w w' : World} (B : Nat) (h : Quiet w w') : Below B w w' := by obtain ⟨n, rfl⟩ := h; exact below_draws B w n
def OfAt (zs : List Int) (w : World) (x v : Value) (wr : World) : Prop := ∃ (p : Nat) (A : Option Addr) (c : Nat) (ps : List P3), p ≤ zs.length ∧ x = .slice A (zs.length - p) c ∧ Ints .i64 w A (zs.drop p) ∧ zs.length - p ≤ c ∧
  ps.length ≤ p ∧ pieces zs = ps ++ pieces (zs.drop p) ∧ OwnP wr w.heap.size v ps ∧ Below w.heap.size w wr
set_option maxHeartbeats 1600000 in
set_option maxRecDepth 20000 in
theorem of_yes (A : Option Addr) (c : Nat) (zs : List Int) (w : World) (hl : zs.length ≤ 100000) (hc : Ints .i64 w A zs) (hcap : zs.length ≤ c) (hr : Rise zs) :
    Calls Try.prog 24 #[.slice A zs.length c] w (GivesP (pieces zs) w) := by
  obtain ⟨i0, hi, hz0, hz1, hz2⟩ := info_parts info_piece
  have K1 := rise_any true A c zs w (by omega) hc ⟨fun _ => hr, fun _ => rfl⟩
  have HC := Lib.hid hc
  have HR := Lib.hid hr
  clear hc hr
  go_enter Try.func24, Try.ntmps24
  go_wp2_with fail
  refine K1.mono ?_
  rintro e w' ⟨rfl, rfl⟩
  clear K1
  go_wp2
  go_loopw [0, 3] (fun x v wr => OfAt zs w x v wr) (fun x _ _ => match x with | .slice _ n _ => n | _ => 0)
  case atStart => exact ⟨0, A, c, [], Nat.zero_le _, rfl, HC.out, hcap, Nat.zero_le _, rfl, OwnP.nil _ _, Below.refl _ _⟩
  case round =>
    obtain ⟨p, A', c', ps, hp, rfl, hin, hcp, hps, hpc, hown, hb⟩ := hrel
    have HI := Lib.hid hin
    have HO := Lib.hid hown
    have HB := Lib.hid hb
    have HP := Lib.hid hpc
    clear hin hown hb hpc
    by_cases hlt : p < zs.length
    · have h0 : 0 < (zs.drop p).length := by rw [List.length_drop]; omega
      have K2 := run_any A' c' (zs.drop p) wr (by rw [List.length_drop]; omega) h0 (HI.out.below HB.out) (HR.out.drop p)
      have hrb := runN_bd (zs.drop p) h0
      have HS := Lib.hid (pieces_step (zs.drop p) h0)
      have hdl : (zs.drop p).length = zs.length - p := List.length_drop
      have hlen : ((zs.drop p).take (runN (zs.drop p))).length = runN (zs.drop p) := by rw [List.length_take]; omega
      have K3 := fun w2 hw2 => piece_any A' c' ((zs.drop p).take (runN (zs.drop p))) w2 (by omega) (by omega) hw2 (fun k hk => by rw [take_get _ _ k (by omega)]; exact (HR.out.drop p).bd k (by omega))
      rw [hlen] at K3
      obtain ⟨b, off, rfl, _⟩ := cell_at HI.out h0
      rw [List.length_drop] at K2 hrb
      generalize hN : runN (zs.drop p) = N at K2 K3 HS hrb
      generalize hq : pieceOf ((zs.drop p).take N) = q at K3 HS
      obtain ⟨q1, q2, q3⟩ := q
      rw [List.drop_drop] at HS
      have HQ := Lib.hid hq
      clear hq hlen hN h0 hdl
      have cn : ¬ c' = 0 := by omega
      go_wp2_with fail
      refine K2.mono ?_
      rintro e w2 ⟨rfl, hq2⟩
      have HO2 := Lib.hid (HO.out.below (quiet_bel _ hq2))
      have HB2 := Lib.hid (HB.out.trans (quiet_bel _ hq2))
      clear hq2 K2
      have n1 : (N : Int) ≤ (c' : Int) := by omega
      have n2 : (N : Int) ≤ ((zs.length - p : Nat) : Int) := by omega
      have n3 : (0 : Int) ≤ (N : Int) := by omega
      go_wp2_with fail
      refine (K3 w2 (ints_take N (HI.out.below HB2.out))).mono ?_
      rintro e w3 ⟨he, hb3⟩
      have he' : e = .returned (.agg #[.int .i64 q1, .int .i64 q2, .int .i64 q3]) := he
      subst he'
      have HO3 := Lib.hid (HO2.out.below hb3)
      have HB3 := Lib.hid (HB2.out.trans (hb3.mono HB2.out.size))
      clear hb3 K3 he
      go_wp2_with ((at_builtin; refine wpList_append_own _ rfl _ _ 52 rfl w.heap.size 55 i0 (.agg #[.int .i64 0, .int .i64 0, .int .i64 0]) 3 24 Try.underlying52 hi hz0 hz1 hz2 rfl (by decide) _ _ _ rfl (World.ownsRow.alloc HO3.out _) ⟨w3.heap.size, 0, none⟩ 1 1 [.int .i64 q1, .int .i64 q2, .int .i64 q3] rfl rfl ?c1 ?c2 ?c3 ?c4 ?c5 ?_))
      case c1 =>
        intro j u hj
        match j, hj with
        | 0, hj => cases hj; exact cell_new _ _ _ 0
        | 1, hj => cases hj; exact cell_new _ _ _ 1
        | 2, hj => cases hj; exact cell_new _ _ _ 2
        | j + 3, hj => cases hj
      case c2 => simp [Value.oneCell']
      case c3 => unfold maxLen; omega
      case c4 => omega
      case c5 => have := HB3.out.size; simp; omega
      intro v' w4 hown4 hgrow _
      have HO4 := Lib.hid (OwnP.snoc (p := (q1, q2, q3)) hown4)
      have HB4 := Lib.hid (Below.grown (HB3.out.alloc HB3.out.size (.cells #[.int .i64 q1, .int .i64 q2, .int .i64 q3] 55)) hgrow (by have := HB3.out.size; simp; omega) (ownp_block HO3.out))
      clear hown4 hgrow
      go_wp2
      go_roundw
      case rel =>
        refine ⟨p + N, _, c' - N, ps ++ [(q1, q2, q3)], by omega, ?_, ints_drop' (c := c') HI.out (by omega) hcp, by omega, by rw [List.length_append]; simp; omega, ?_, HO4.out, HB4.out⟩
        · rw [Nat.sub_sub]
        · rw [HP.out, HS.out]; simp
      case measure => simp; omega
    · obtain rfl : p = zs.length := by omega
      obtain ⟨A1, c1, rfl, hat, hcc⟩ := HO.out.at
      have HX := Lib.hid (show pieces zs = ps by rw [HP.out, List.drop_length, pieces_nil, List.append_nil])
      have HT := Lib.hid hat
      clear hat hlt hcp
      go_wp2
      go_ret
      exact ⟨A1, c1, by rw [HX.out]; rfl, by rw [HX.out]; exact HT.out, HB.out, by rw [HX.out]; exact hcc⟩
end Go.Proofs.Ytbfndcogieiejaa
