/- The walk of the statement SpanMeets of layer 9. -/
import Derived.Test.YtpdlonlnkmjijaaWalk09
import Derived.Test.YtpdlonlnkmjijaaSpanD
namespace Go.Proofs.Ytpdlonlnkmjijaa
open Go.RowKit Go.WideShapes

theorem Spans.below {w w' : World} {A : Option Addr} {l : List (Int × Int)} (h : Spans w A l) (hb : Below w.heap.size w w') : Spans w' A l := fun j hj => by
  obtain ⟨b, off, e, h1, h2, h3⟩ := h j hj
  have := hb.size
  exact ⟨b, off, e, by omega, (hb.cell (p := ⟨b, off + j * 2, none⟩) h1).trans h2, (hb.cell (p := ⟨b, off + j * 2 + 1, none⟩) h1).trans h3⟩
/-- the cells of spans, one behind the other -/
def cellsL (l : List (Int × Int)) : List Value := l.flatMap fun p => [.int .i64 p.1, .int .i64 p.2]
theorem cellsL_snoc (l : List (Int × Int)) (k : Nat) (hk : k < l.length) : cellsL (l.take (k + 1)) = cellsL (l.take k) ++ [.int .i64 (l[k]?.getD (0, 0)).1, .int .i64 (l[k]?.getD (0, 0)).2] := by
  unfold cellsL
  rw [List.take_add_one, List.flatMap_append]
  simp [List.getElem?_eq_getElem hk]
theorem cellsL_get : ∀ (l : List (Int × Int)) (j : Nat), j < l.length → (cellsL l)[j * 2]? = some (.int .i64 (l[j]?.getD (0, 0)).1) ∧ (cellsL l)[j * 2 + 1]? = some (.int .i64 (l[j]?.getD (0, 0)).2)
  | [], j, h => by simp at h
  | p :: l, 0, _ => by simp [cellsL]
  | p :: l, j + 1, h => by
    have ih := cellsL_get l j (by simpa using h)
    have e1 : cellsL (p :: l) = .int .i64 p.1 :: .int .i64 p.2 :: cellsL l := rfl
    rw [e1, show (j + 1) * 2 = j * 2 + 1 + 1 by omega]
    simpa using ih
theorem own_spans {w : World} {B : Nat} {v : Value} {l : List (Int × Int)} (h : w.ownsRow B 57 2 v l.length (cellsL l)) : ∃ A c, v = .slice A l.length c ∧ Spans w A l := by
  have h0 := h
  rcases h.2 with ⟨rfl, hl⟩ | ⟨g, cap, cur, rfl, _, hh, _⟩
  · rw [hl]; exact ⟨_, _, rfl, fun j hj => by omega⟩
  · refine ⟨_, _, rfl, fun j hj => ⟨g, 0, rfl, blk_lt hh, ?_, ?_⟩⟩
    all_goals
      have hc := h0.cells (g := g) rfl
      have hg := cellsL_get l j hj
    · have h1 := hc (j * 2) _ hg.1
      rw [add_plain] at h1
      exact h1
    · have h1 := hc (j * 2 + 1) _ hg.2
      rw [add_plain] at h1
      exact h1
/-- is an instant in all of spans -/
def allB (t : Int) (l : List (Int × Int)) : Bool := decide (0 ≤ t ∧ t ≤ 12622780799) && l.all fun p => decide (0 ≤ t ∧ t ≤ 12622780799 ∧ p.1 ≤ t ∧ t ≤ p.2)
theorem allB_step (t : Int) (l : List (Int × Int)) (k : Nat) (hk : k < l.length) : allB t (l.take (k + 1)) = (allB t (l.take k) && decide (0 ≤ t ∧ t ≤ 12622780799 ∧ (l[k]?.getD (0, 0)).1 ≤ t ∧ t ≤ (l[k]?.getD (0, 0)).2)) := by
  unfold allB
  rw [List.take_add_one, List.all_append]
  simp [List.getElem?_eq_getElem hk, Bool.and_assoc]
theorem mF_le (l : List (Int × Int)) (t : Int) : mF l ≤ t ↔ 0 ≤ t ∧ ∀ p ∈ l, p.1 ≤ t := by
  unfold mF
  suffices h : ∀ (l : List (Int × Int)) (a : Int), l.foldl (fun F p => if F < p.1 then p.1 else F) a ≤ t ↔ a ≤ t ∧ ∀ p ∈ l, p.1 ≤ t from h l 0
  intro l
  induction l with
  | nil => intro a; simp
  | cons p l ih =>
    intro a
    rw [List.foldl_cons, ih]
    simp only [List.mem_cons, forall_eq_or_imp]
    split <;> constructor <;> rintro ⟨h1, h2⟩
    · exact ⟨by omega, h1, h2⟩
    · exact ⟨h2.1, h2.2⟩
    · exact ⟨h1, by omega, h2⟩
    · exact ⟨h1, h2.2⟩
theorem mU_ge (l : List (Int × Int)) (t : Int) : t ≤ mU l ↔ t ≤ 12622780799 ∧ ∀ p ∈ l, t ≤ p.2 := by
  unfold mU
  suffices h : ∀ (l : List (Int × Int)) (a : Int), t ≤ l.foldl (fun U p => if p.2 < U then p.2 else U) a ↔ t ≤ a ∧ ∀ p ∈ l, t ≤ p.2 from h l _
  intro l
  induction l with
  | nil => intro a; simp
  | cons p l ih =>
    intro a
    rw [List.foldl_cons, ih]
    simp only [List.mem_cons, forall_eq_or_imp]
    split <;> constructor <;> rintro ⟨h1, h2⟩
    · exact ⟨by omega, h1, h2⟩
    · exact ⟨h2.1, h2.2⟩
    · exact ⟨h1, by omega, h2⟩
    · exact ⟨h1, h2.2⟩
theorem allB_true (t : Int) (l : List (Int × Int)) : allB t l = true ↔ mF l ≤ t ∧ t ≤ mU l := by
  unfold allB
  rw [mF_le, mU_ge]
  simp only [Bool.and_eq_true, decide_eq_true_eq, List.all_eq_true]
  constructor
  · rintro ⟨⟨h1, h2⟩, h3⟩
    exact ⟨⟨h1, fun p hp => (h3 p hp).2.2.1⟩, h2, fun p hp => (h3 p hp).2.2.2⟩
  · rintro ⟨⟨h1, h2⟩, h3, h4⟩
    exact ⟨⟨h1, h3⟩, fun p hp => ⟨h1, h3, h2 p hp, h4 p hp⟩⟩
/-- held, the spans' meeting has an instant just if all have it -/
theorem held_in {l : List (Int × Int)} {t a b : Int} (h : heldV (mF l) (mU l) = .agg #[.int .i64 a, .int .i64 b]) (hb : allB t l = true) : 0 ≤ t ∧ t ≤ 12622780799 ∧ a ≤ t ∧ t ≤ b := by
  obtain ⟨h1, h2⟩ := (allB_true t l).1 hb
  have hF0 := ((mF_le l t).1 h1).1
  have hU0 := ((mU_ge l t).1 h2).1
  unfold heldV hF hU at h
  split at h <;> split at h <;> split at h <;> simp at h <;> omega
theorem held_out {l : List (Int × Int)} {t a b : Int} (h : heldV (mF l) (mU l) = .agg #[.int .i64 a, .int .i64 b]) (hb : allB t l = false) : ¬ (0 ≤ t ∧ t ≤ 12622780799 ∧ a ≤ t ∧ t ≤ b) := by
  intro hin
  have hn : ¬ (mF l ≤ t ∧ t ≤ mU l) := by rw [← allB_true]; simp [hb]
  unfold heldV hF hU at h
  split at h <;> split at h <;> split at h <;> simp at h <;> omega

theorem info57 : (Try.prog.info? 57).map (fun i => (i.zero, i.size, i.bytes)) = some (some (.agg #[.int .i64 0, .int .i64 0]), 2, 16) := by kernel_rfl
theorem news_two (w : World) (x y : Int) (t : TypeId) : ∀ j u, [Value.int .i64 x, .int .i64 y][j]? = some u → (w.alloc (.cells #[.int .i64 x, .int .i64 y] t)).cell? ((⟨w.heap.size, 0, none⟩ : Addr).add j) = some u := by
  intro j u h
  rw [add_plain, Nat.zero_add, cell_new]
  match j, h with
  | 0, h => simpa using h
  | 1, h => simpa using h
theorem hown_below {w w' : World} {B : Nat} {e : TypeId} {size n : Nat} {v : Value} {xs : List Value} (h : w.ownsRow B e size v n xs) (hb : Below w.heap.size w w') : w'.ownsRow B e size v n xs := by
  refine ⟨h.1, ?_⟩
  rcases h.2 with h1 | ⟨g, cap, cur, e1, e2, e3, e4⟩
  · exact .inl h1
  · exact .inr ⟨g, cap, cur, e1, e2, (hb.block g (blk_lt e3)).trans e3, e4⟩
theorem held_agg (f u : Int) : ∃ a b : Int, heldV f u = .agg #[.int .i64 a, .int .i64 b] := by
  rcases held_cases f u with h | ⟨a, b, h, _⟩
  · exact ⟨_, _, h⟩
  · exact ⟨_, _, h⟩
theorem meet_agg {A : Option Addr} {c : Nat} {l : List (Int × Int)} {w : World} {a b : Int} (h : heldV (mF l) (mU l) = .agg #[.int .i64 a, .int .i64 b]) (hl : l.length ≤ 1000) (hc : Spans w A l) :
    Calls Try.prog 52 #[.slice A l.length c] w fun e w' => e = .returned (.agg #[.int .i64 a, .int .i64 b]) ∧ Below w.heap.size w w' := by
  rw [← h]; exact meet_any A _ c l w rfl hl hc
theorem rmeet_agg {A : Option Addr} {c : Nat} {l : List (Int × Int)} {w : World} {a b : Int} (h : heldV (mF l) (mU l) = .agg #[.int .i64 a, .int .i64 b]) (hl : l.length ≤ 1000) (hc : Spans w A l) :
    Calls Try.prog 53 #[.slice A l.length c] w fun e w' => e = .returned (.agg #[.int .i64 a, .int .i64 b]) ∧ Below w.heap.size w w' := by
  rw [← h]; exact rmeet_any A _ c l w rfl hl hc
theorem use_S {W0 w1 : World} {A : Option Addr} {l : List (Int × Int)} {p q : Addr} {a b : Value} (hs : Spans W0 A l) (h : Below W0.heap.size W0 w1 ∧ w1.cell? p = some a ∧ w1.cell? q = some b) : Spans w1 A l := hs.below h.1
theorem keep2 {W0 w1 w2 : World} {p q : Addr} {a b : Value} (hp : p.block < W0.heap.size) (hq : q.block < W0.heap.size) (hb : Below w1.heap.size w1 w2) (h : Below W0.heap.size W0 w1 ∧ w1.cell? p = some a ∧ w1.cell? q = some b) :
    Below W0.heap.size W0 w2 ∧ w2.cell? p = some a ∧ w2.cell? q = some b := by
  obtain ⟨h0, h1, h2⟩ := h
  have hz := h0.size
  exact ⟨below_cut h0 hb, (hb.cell (by omega)).trans h1, (hb.cell (by omega)).trans h2⟩
set_option maxHeartbeats 1600000 in
theorem spanMeets_walk (A : Option Addr) (n c : Nat) (l : List (Int × Int)) (t : Int) (w : World) (hn : n = l.length) (hl : l.length ≤ 9223372036854775807) (hc : Spans w A l) :
    Calls Try.prog 13 #[.slice A n c, .int .i64 t] w fun e w' => e = .returned (.bool true) ∧ Below w.heap.size w w' := by
  have HN := Lib.hid hn
  have hn1 : n ≤ 9223372036854775807 := by omega
  by_cases h50 : 50 < n
  · clear hn hl hc
    go_enter Try.func13, Try.ntmps13
    go_wp2_with (go_at_call 51; refine (lives09_any _).mono ?_; rintro e w' ⟨rfl, hbel⟩)
    go_ret
    exact ⟨rfl, hbel⟩
  · obtain ⟨i0, hi, hz0, hz1, hz2⟩ := info_parts info57
    have hl50 : l.length ≤ 50 := by omega
    subst hn
    by_cases hwin : 0 ≤ t
    · by_cases hwin2 : t ≤ 12622780799
      · go_enter Try.func13, Try.ntmps13
        go_wp2
        go_loopw [5, 6, 7] (fun v qv i wr => ∃ (k : Nat) (q : Bool), k ≤ l.length ∧ i = .int .i64 k ∧ qv = .bool q ∧ Hid (q = allB t (l.take k)) ∧ Below w.heap.size w wr ∧ wr.ownsRow w.heap.size 57 2 v k (cellsL (l.take k))) (fun _ _ i _ => l.length - (intOf i).toNat)
        case atStart => exact ⟨0, true, Nat.zero_le _, rfl, rfl, Lib.hid (by simp [allB, hwin, hwin2]), Below.refl _ _, World.ownsRow_nil _ _ _ _⟩
        case round =>
          obtain ⟨k, q, hk, rfl, rfl, HB, hb, hown⟩ := hrel
          by_cases hlt : k < l.length
          · obtain ⟨g, off, rfl, hbb, hc0, hc1⟩ := hc k hlt
            have s1 := allB_step t l k hlt
            have s2 := cellsL_snoc l k hlt
            rw [← HB.out] at s1
            obtain ⟨x, hx⟩ : ∃ x, x = (l[k]?.getD (0, 0)).1 := ⟨_, rfl⟩
            obtain ⟨y, hy⟩ : ∃ y, y = (l[k]?.getD (0, 0)).2 := ⟨_, rfl⟩
            rw [← hx] at hc0 s1 s2
            rw [← hy] at hc1 s1 s2
            have g0 := (hb.cell (p := ⟨g, off + k * 2, none⟩) (by simp; omega)).trans hc0
            have g1 := (hb.cell (p := ⟨g, off + k * 2 + 1, none⟩) (by simp; omega)).trans hc1
            have S1 := Lib.hid s1
            have S2 := Lib.hid s2
            have HC := Lib.hid hc
            clear hx hy s1 s2 hc
            go_wp2_with (at_builtin; refine wpList_append_own _ rfl _ _ 66 rfl w.heap.size 57 i0 (.agg #[.int .i64 0, .int .i64 0]) 2 16 Try.underlying66 hi hz0 hz1 hz2 rfl (by decide) _ _ _ rfl (hown.alloc _) ⟨wr.heap.size, 0, none⟩ 1 1 [.int .i64 x, .int .i64 y] rfl rfl ?c1 ?c2 ?c3 ?c4 ?c5 ?_)
            case c1 => exact news_two wr x y 57
            case c2 => intro u hu; simp at hu; rcases hu with rfl | rfl <;> rfl
            case c3 => unfold maxLen; omega
            case c4 => omega
            case c5 => have := hb.size; simp; omega
            intro v' w1 hown' hgrow _
            have hb1 : Below w.heap.size w w1 := (hb.alloc hb.size _).grown hgrow (by have := hb.size; simp; omega) (fun j hj => (hown.lt j hj).1)
            rw [← S2.out] at hown'
            have g0' := (hb1.cell (p := ⟨g, off + k * 2, none⟩) (by simp; omega)).trans (((hb.cell (p := ⟨g, off + k * 2, none⟩) (by simp; omega)).symm).trans g0)
            have g1' := (hb1.cell (p := ⟨g, off + k * 2 + 1, none⟩) (by simp; omega)).trans (((hb.cell (p := ⟨g, off + k * 2 + 1, none⟩) (by simp; omega)).symm).trans g1)
            clear g0 g1 hown hgrow
            cases q
            · have S3 := Lib.hid (show false = allB t (l.take (k + 1)) by rw [S1.out]; rfl)
              go_wp2
              go_roundw
              case rel => exact ⟨k + 1, false, by omega, by go_num, rfl, S3, hb1, hown'⟩
              case measure => simp [intOf]; omega
            · by_cases hin : 0 ≤ t ∧ t ≤ 12622780799 ∧ x ≤ t ∧ t ≤ y
              · have S3 := Lib.hid (show true = allB t (l.take (k + 1)) by rw [S1.out, decide_eq_true hin]; rfl)
                have hh := fun w => rin_yes x y t w hin
                clear hin
                go_wp2_with (go_at_call 48; refine (hh _).mono ?_; rintro e w2 ⟨rfl, hb2⟩)
                go_roundw
                case rel => exact ⟨k + 1, true, by omega, by go_num, rfl, S3, below_cut hb1 hb2, hown_below hown' hb2⟩
                case measure => simp [intOf]; omega
              · have S3 := Lib.hid (show false = allB t (l.take (k + 1)) by rw [S1.out, decide_eq_false hin]; rfl)
                have hh := fun w => rin_no x y t w hin
                clear hin
                go_wp2_with (go_at_call 48; refine (hh _).mono ?_; rintro e w2 ⟨rfl, hb2⟩)
                go_roundw
                case rel => exact ⟨k + 1, false, by omega, by go_num, rfl, S3, below_cut hb1 hb2, hown_below hown' hb2⟩
                case measure => simp [intOf]; omega
          · have hkl : l.take k = l := List.take_of_length_le (by omega)
            have hkk : k = l.length := by omega
            rw [hkl] at hown HB
            rw [hkk] at hown
            obtain ⟨A2, c2, hv, hsp⟩ := own_spans hown
            subst hv
            obtain ⟨a, b, h⟩ := held_agg (mF l) (mU l)
            have HE := Lib.hid h
            have hl1000 : l.length ≤ 1000 := by omega
            have hm := fun w (hs : Spans w A l) => meet_agg (c := c) h hl1000 hs
            go_wp2_with fail
            refine (hm _ (hc.below hb)).mono ?_
            rintro e w1 ⟨rfl, hb1⟩
            obtain ⟨W0, hW0⟩ : ∃ W0, w1.alloc (.cells #[.int .i64 a, .int .i64 b] 56) = W0 := ⟨_, rfl⟩
            have hy : w1.heap.size < W0.heap.size := by rw [← hW0]; simp
            have k0 : W0.cell? ⟨w1.heap.size, 0, none⟩ = some (.int .i64 a) := by rw [← hW0, cell_new]; rfl
            have k1 : W0.cell? ⟨w1.heap.size, 1, none⟩ = some (.int .i64 b) := by rw [← hW0, cell_new]; rfl
            have hbW1 : Below wr.heap.size wr W0 := by rw [← hW0]; exact hb1.alloc hb1.size _
            have hbW : Below w.heap.size w W0 := below_cut hb hbW1
            have hspW : Spans W0 A2 l := hsp.below hbW1
            go_wp2
            try rw [hW0]
            have B0 := Below.refl W0.heap.size W0
            clear hb hb1 hbW1 hsp hc hW0 hm hown
            cases q
            · have hin := held_out h HB.out.symm
              have hh := fun w => sin_no a b t w hin
              clear hin h
              go_region_held3 (fun w' => Below W0.heap.size W0 w' ∧ w'.cell? ⟨w1.heap.size, 0, none⟩ = some (.int .i64 a) ∧ w'.cell? ⟨w1.heap.size, 1, none⟩ = some (.int .i64 b)) (first | exact ⟨B0.drew, k0, k1⟩ | exact keep2 hy hy (by assumption) (by assumption)) (first | (go_at_call 53; refine (rmeet_agg HE.out hl1000 (use_S hspW (by assumption))).mono ?_; rintro e w2 ⟨rfl, hb⟩) | (go_at_call 47; refine (hh _).mono ?_; rintro e w2 ⟨rfl, hb⟩) | (go_at_call 51; refine (lives09_any _).mono ?_; rintro e w2 ⟨rfl, hb⟩))
              have hH : Below W0.heap.size W0 w2 ∧ w2.cell? ⟨w1.heap.size, 0, none⟩ = some (.int .i64 a) ∧ w2.cell? ⟨w1.heap.size, 1, none⟩ = some (.int .i64 b) := by assumption
              go_wp2
              go_ret
              exact ⟨rfl, below_cut hbW hH.1⟩
            · have hin := held_in h HB.out.symm
              have hh := fun w => sin_yes a b t w hin
              clear hin h
              go_region_held3 (fun w' => Below W0.heap.size W0 w' ∧ w'.cell? ⟨w1.heap.size, 0, none⟩ = some (.int .i64 a) ∧ w'.cell? ⟨w1.heap.size, 1, none⟩ = some (.int .i64 b)) (first | exact ⟨B0.drew, k0, k1⟩ | exact keep2 hy hy (by assumption) (by assumption)) (first | (go_at_call 53; refine (rmeet_agg HE.out hl1000 (use_S hspW (by assumption))).mono ?_; rintro e w2 ⟨rfl, hb⟩) | (go_at_call 47; refine (hh _).mono ?_; rintro e w2 ⟨rfl, hb⟩) | (go_at_call 51; refine (lives09_any _).mono ?_; rintro e w2 ⟨rfl, hb⟩))
              have hH : Below W0.heap.size W0 w2 ∧ w2.cell? ⟨w1.heap.size, 0, none⟩ = some (.int .i64 a) ∧ w2.cell? ⟨w1.heap.size, 1, none⟩ = some (.int .i64 b) := by assumption
              go_wp2
              go_ret
              exact ⟨rfl, below_cut hbW hH.1⟩
      · have hd := dec_f hwin2
        go_enter Try.func13, Try.ntmps13
        go_wp2
        go_loopw [5, 6, 7] (fun v qv i wr => ∃ (k : Nat) (q : Bool), k ≤ l.length ∧ i = .int .i64 k ∧ qv = .bool q ∧ Hid (q = allB t (l.take k)) ∧ Below w.heap.size w wr ∧ wr.ownsRow w.heap.size 57 2 v k (cellsL (l.take k))) (fun _ _ i _ => l.length - (intOf i).toNat)
        case atStart => exact ⟨0, false, Nat.zero_le _, rfl, rfl, Lib.hid (by simp [allB]; omega), Below.refl _ _, World.ownsRow_nil _ _ _ _⟩
        case round =>
          obtain ⟨k, q, hk, rfl, rfl, HB, hb, hown⟩ := hrel
          by_cases hlt : k < l.length
          · obtain ⟨g, off, rfl, hbb, hc0, hc1⟩ := hc k hlt
            have s1 := allB_step t l k hlt
            have s2 := cellsL_snoc l k hlt
            rw [← HB.out] at s1
            obtain ⟨x, hx⟩ : ∃ x, x = (l[k]?.getD (0, 0)).1 := ⟨_, rfl⟩
            obtain ⟨y, hy⟩ : ∃ y, y = (l[k]?.getD (0, 0)).2 := ⟨_, rfl⟩
            rw [← hx] at hc0 s1 s2
            rw [← hy] at hc1 s1 s2
            have g0 := (hb.cell (p := ⟨g, off + k * 2, none⟩) (by simp; omega)).trans hc0
            have g1 := (hb.cell (p := ⟨g, off + k * 2 + 1, none⟩) (by simp; omega)).trans hc1
            have S1 := Lib.hid s1
            have S2 := Lib.hid s2
            have HC := Lib.hid hc
            clear hx hy s1 s2 hc
            go_wp2_with (at_builtin; refine wpList_append_own _ rfl _ _ 66 rfl w.heap.size 57 i0 (.agg #[.int .i64 0, .int .i64 0]) 2 16 Try.underlying66 hi hz0 hz1 hz2 rfl (by decide) _ _ _ rfl (hown.alloc _) ⟨wr.heap.size, 0, none⟩ 1 1 [.int .i64 x, .int .i64 y] rfl rfl ?c1 ?c2 ?c3 ?c4 ?c5 ?_)
            case c1 => exact news_two wr x y 57
            case c2 => intro u hu; simp at hu; rcases hu with rfl | rfl <;> rfl
            case c3 => unfold maxLen; omega
            case c4 => omega
            case c5 => have := hb.size; simp; omega
            intro v' w1 hown' hgrow _
            have hb1 : Below w.heap.size w w1 := (hb.alloc hb.size _).grown hgrow (by have := hb.size; simp; omega) (fun j hj => (hown.lt j hj).1)
            rw [← S2.out] at hown'
            have g0' := (hb1.cell (p := ⟨g, off + k * 2, none⟩) (by simp; omega)).trans (((hb.cell (p := ⟨g, off + k * 2, none⟩) (by simp; omega)).symm).trans g0)
            have g1' := (hb1.cell (p := ⟨g, off + k * 2 + 1, none⟩) (by simp; omega)).trans (((hb.cell (p := ⟨g, off + k * 2 + 1, none⟩) (by simp; omega)).symm).trans g1)
            clear g0 g1 hown hgrow
            cases q
            · have S3 := Lib.hid (show false = allB t (l.take (k + 1)) by rw [S1.out]; rfl)
              go_wp2
              go_roundw
              case rel => exact ⟨k + 1, false, by omega, by go_num, rfl, S3, hb1, hown'⟩
              case measure => simp [intOf]; omega
            · by_cases hin : 0 ≤ t ∧ t ≤ 12622780799 ∧ x ≤ t ∧ t ≤ y
              · have S3 := Lib.hid (show true = allB t (l.take (k + 1)) by rw [S1.out, decide_eq_true hin]; rfl)
                have hh := fun w => rin_yes x y t w hin
                clear hin
                go_wp2_with (go_at_call 48; refine (hh _).mono ?_; rintro e w2 ⟨rfl, hb2⟩)
                go_roundw
                case rel => exact ⟨k + 1, true, by omega, by go_num, rfl, S3, below_cut hb1 hb2, hown_below hown' hb2⟩
                case measure => simp [intOf]; omega
              · have S3 := Lib.hid (show false = allB t (l.take (k + 1)) by rw [S1.out, decide_eq_false hin]; rfl)
                have hh := fun w => rin_no x y t w hin
                clear hin
                go_wp2_with (go_at_call 48; refine (hh _).mono ?_; rintro e w2 ⟨rfl, hb2⟩)
                go_roundw
                case rel => exact ⟨k + 1, false, by omega, by go_num, rfl, S3, below_cut hb1 hb2, hown_below hown' hb2⟩
                case measure => simp [intOf]; omega
          · have hkl : l.take k = l := List.take_of_length_le (by omega)
            have hkk : k = l.length := by omega
            rw [hkl] at hown HB
            rw [hkk] at hown
            obtain ⟨A2, c2, hv, hsp⟩ := own_spans hown
            subst hv
            obtain ⟨a, b, h⟩ := held_agg (mF l) (mU l)
            have HE := Lib.hid h
            have hl1000 : l.length ≤ 1000 := by omega
            have hm := fun w (hs : Spans w A l) => meet_agg (c := c) h hl1000 hs
            go_wp2_with fail
            refine (hm _ (hc.below hb)).mono ?_
            rintro e w1 ⟨rfl, hb1⟩
            obtain ⟨W0, hW0⟩ : ∃ W0, w1.alloc (.cells #[.int .i64 a, .int .i64 b] 56) = W0 := ⟨_, rfl⟩
            have hy : w1.heap.size < W0.heap.size := by rw [← hW0]; simp
            have k0 : W0.cell? ⟨w1.heap.size, 0, none⟩ = some (.int .i64 a) := by rw [← hW0, cell_new]; rfl
            have k1 : W0.cell? ⟨w1.heap.size, 1, none⟩ = some (.int .i64 b) := by rw [← hW0, cell_new]; rfl
            have hbW1 : Below wr.heap.size wr W0 := by rw [← hW0]; exact hb1.alloc hb1.size _
            have hbW : Below w.heap.size w W0 := below_cut hb hbW1
            have hspW : Spans W0 A2 l := hsp.below hbW1
            go_wp2
            try rw [hW0]
            have B0 := Below.refl W0.heap.size W0
            clear hb hb1 hbW1 hsp hc hW0 hm hown
            cases q
            · have hin := held_out h HB.out.symm
              have hh := fun w => sin_no a b t w hin
              clear hin h
              go_region_held3 (fun w' => Below W0.heap.size W0 w' ∧ w'.cell? ⟨w1.heap.size, 0, none⟩ = some (.int .i64 a) ∧ w'.cell? ⟨w1.heap.size, 1, none⟩ = some (.int .i64 b)) (first | exact ⟨B0.drew, k0, k1⟩ | exact keep2 hy hy (by assumption) (by assumption)) (first | (go_at_call 53; refine (rmeet_agg HE.out hl1000 (use_S hspW (by assumption))).mono ?_; rintro e w2 ⟨rfl, hb⟩) | (go_at_call 47; refine (hh _).mono ?_; rintro e w2 ⟨rfl, hb⟩) | (go_at_call 51; refine (lives09_any _).mono ?_; rintro e w2 ⟨rfl, hb⟩))
              have hH : Below W0.heap.size W0 w2 ∧ w2.cell? ⟨w1.heap.size, 0, none⟩ = some (.int .i64 a) ∧ w2.cell? ⟨w1.heap.size, 1, none⟩ = some (.int .i64 b) := by assumption
              go_wp2
              go_ret
              exact ⟨rfl, below_cut hbW hH.1⟩
            · have hin := held_in h HB.out.symm
              have hh := fun w => sin_yes a b t w hin
              clear hin h
              go_region_held3 (fun w' => Below W0.heap.size W0 w' ∧ w'.cell? ⟨w1.heap.size, 0, none⟩ = some (.int .i64 a) ∧ w'.cell? ⟨w1.heap.size, 1, none⟩ = some (.int .i64 b)) (first | exact ⟨B0.drew, k0, k1⟩ | exact keep2 hy hy (by assumption) (by assumption)) (first | (go_at_call 53; refine (rmeet_agg HE.out hl1000 (use_S hspW (by assumption))).mono ?_; rintro e w2 ⟨rfl, hb⟩) | (go_at_call 47; refine (hh _).mono ?_; rintro e w2 ⟨rfl, hb⟩) | (go_at_call 51; refine (lives09_any _).mono ?_; rintro e w2 ⟨rfl, hb⟩))
              have hH : Below W0.heap.size W0 w2 ∧ w2.cell? ⟨w1.heap.size, 0, none⟩ = some (.int .i64 a) ∧ w2.cell? ⟨w1.heap.size, 1, none⟩ = some (.int .i64 b) := by assumption
              go_wp2
              go_ret
              exact ⟨rfl, below_cut hbW hH.1⟩
    · have hd := dec_f hwin
      go_enter Try.func13, Try.ntmps13
      go_wp2
      go_loopw [5, 6, 7] (fun v qv i wr => ∃ (k : Nat) (q : Bool), k ≤ l.length ∧ i = .int .i64 k ∧ qv = .bool q ∧ Hid (q = allB t (l.take k)) ∧ Below w.heap.size w wr ∧ wr.ownsRow w.heap.size 57 2 v k (cellsL (l.take k))) (fun _ _ i _ => l.length - (intOf i).toNat)
      case atStart => exact ⟨0, false, Nat.zero_le _, rfl, rfl, Lib.hid (by simp [allB]; omega), Below.refl _ _, World.ownsRow_nil _ _ _ _⟩
      case round =>
        obtain ⟨k, q, hk, rfl, rfl, HB, hb, hown⟩ := hrel
        by_cases hlt : k < l.length
        · obtain ⟨g, off, rfl, hbb, hc0, hc1⟩ := hc k hlt
          have s1 := allB_step t l k hlt
          have s2 := cellsL_snoc l k hlt
          rw [← HB.out] at s1
          obtain ⟨x, hx⟩ : ∃ x, x = (l[k]?.getD (0, 0)).1 := ⟨_, rfl⟩
          obtain ⟨y, hy⟩ : ∃ y, y = (l[k]?.getD (0, 0)).2 := ⟨_, rfl⟩
          rw [← hx] at hc0 s1 s2
          rw [← hy] at hc1 s1 s2
          have g0 := (hb.cell (p := ⟨g, off + k * 2, none⟩) (by simp; omega)).trans hc0
          have g1 := (hb.cell (p := ⟨g, off + k * 2 + 1, none⟩) (by simp; omega)).trans hc1
          have S1 := Lib.hid s1
          have S2 := Lib.hid s2
          have HC := Lib.hid hc
          clear hx hy s1 s2 hc
          go_wp2_with (at_builtin; refine wpList_append_own _ rfl _ _ 66 rfl w.heap.size 57 i0 (.agg #[.int .i64 0, .int .i64 0]) 2 16 Try.underlying66 hi hz0 hz1 hz2 rfl (by decide) _ _ _ rfl (hown.alloc _) ⟨wr.heap.size, 0, none⟩ 1 1 [.int .i64 x, .int .i64 y] rfl rfl ?c1 ?c2 ?c3 ?c4 ?c5 ?_)
          case c1 => exact news_two wr x y 57
          case c2 => intro u hu; simp at hu; rcases hu with rfl | rfl <;> rfl
          case c3 => unfold maxLen; omega
          case c4 => omega
          case c5 => have := hb.size; simp; omega
          intro v' w1 hown' hgrow _
          have hb1 : Below w.heap.size w w1 := (hb.alloc hb.size _).grown hgrow (by have := hb.size; simp; omega) (fun j hj => (hown.lt j hj).1)
          rw [← S2.out] at hown'
          have g0' := (hb1.cell (p := ⟨g, off + k * 2, none⟩) (by simp; omega)).trans (((hb.cell (p := ⟨g, off + k * 2, none⟩) (by simp; omega)).symm).trans g0)
          have g1' := (hb1.cell (p := ⟨g, off + k * 2 + 1, none⟩) (by simp; omega)).trans (((hb.cell (p := ⟨g, off + k * 2 + 1, none⟩) (by simp; omega)).symm).trans g1)
          clear g0 g1 hown hgrow
          cases q
          · have S3 := Lib.hid (show false = allB t (l.take (k + 1)) by rw [S1.out]; rfl)
            go_wp2
            go_roundw
            case rel => exact ⟨k + 1, false, by omega, by go_num, rfl, S3, hb1, hown'⟩
            case measure => simp [intOf]; omega
          · by_cases hin : 0 ≤ t ∧ t ≤ 12622780799 ∧ x ≤ t ∧ t ≤ y
            · have S3 := Lib.hid (show true = allB t (l.take (k + 1)) by rw [S1.out, decide_eq_true hin]; rfl)
              have hh := fun w => rin_yes x y t w hin
              clear hin
              go_wp2_with (go_at_call 48; refine (hh _).mono ?_; rintro e w2 ⟨rfl, hb2⟩)
              go_roundw
              case rel => exact ⟨k + 1, true, by omega, by go_num, rfl, S3, below_cut hb1 hb2, hown_below hown' hb2⟩
              case measure => simp [intOf]; omega
            · have S3 := Lib.hid (show false = allB t (l.take (k + 1)) by rw [S1.out, decide_eq_false hin]; rfl)
              have hh := fun w => rin_no x y t w hin
              clear hin
              go_wp2_with (go_at_call 48; refine (hh _).mono ?_; rintro e w2 ⟨rfl, hb2⟩)
              go_roundw
              case rel => exact ⟨k + 1, false, by omega, by go_num, rfl, S3, below_cut hb1 hb2, hown_below hown' hb2⟩
              case measure => simp [intOf]; omega
        · have hkl : l.take k = l := List.take_of_length_le (by omega)
          have hkk : k = l.length := by omega
          rw [hkl] at hown HB
          rw [hkk] at hown
          obtain ⟨A2, c2, hv, hsp⟩ := own_spans hown
          subst hv
          obtain ⟨a, b, h⟩ := held_agg (mF l) (mU l)
          have HE := Lib.hid h
          have hl1000 : l.length ≤ 1000 := by omega
          have hm := fun w (hs : Spans w A l) => meet_agg (c := c) h hl1000 hs
          go_wp2_with fail
          refine (hm _ (hc.below hb)).mono ?_
          rintro e w1 ⟨rfl, hb1⟩
          obtain ⟨W0, hW0⟩ : ∃ W0, w1.alloc (.cells #[.int .i64 a, .int .i64 b] 56) = W0 := ⟨_, rfl⟩
          have hy : w1.heap.size < W0.heap.size := by rw [← hW0]; simp
          have k0 : W0.cell? ⟨w1.heap.size, 0, none⟩ = some (.int .i64 a) := by rw [← hW0, cell_new]; rfl
          have k1 : W0.cell? ⟨w1.heap.size, 1, none⟩ = some (.int .i64 b) := by rw [← hW0, cell_new]; rfl
          have hbW1 : Below wr.heap.size wr W0 := by rw [← hW0]; exact hb1.alloc hb1.size _
          have hbW : Below w.heap.size w W0 := below_cut hb hbW1
          have hspW : Spans W0 A2 l := hsp.below hbW1
          go_wp2
          try rw [hW0]
          have B0 := Below.refl W0.heap.size W0
          clear hb hb1 hbW1 hsp hc hW0 hm hown
          cases q
          · have hin := held_out h HB.out.symm
            have hh := fun w => sin_no a b t w hin
            clear hin h
            go_region_held3 (fun w' => Below W0.heap.size W0 w' ∧ w'.cell? ⟨w1.heap.size, 0, none⟩ = some (.int .i64 a) ∧ w'.cell? ⟨w1.heap.size, 1, none⟩ = some (.int .i64 b)) (first | exact ⟨B0.drew, k0, k1⟩ | exact keep2 hy hy (by assumption) (by assumption)) (first | (go_at_call 53; refine (rmeet_agg HE.out hl1000 (use_S hspW (by assumption))).mono ?_; rintro e w2 ⟨rfl, hb⟩) | (go_at_call 47; refine (hh _).mono ?_; rintro e w2 ⟨rfl, hb⟩) | (go_at_call 51; refine (lives09_any _).mono ?_; rintro e w2 ⟨rfl, hb⟩))
            have hH : Below W0.heap.size W0 w2 ∧ w2.cell? ⟨w1.heap.size, 0, none⟩ = some (.int .i64 a) ∧ w2.cell? ⟨w1.heap.size, 1, none⟩ = some (.int .i64 b) := by assumption
            go_wp2
            go_ret
            exact ⟨rfl, below_cut hbW hH.1⟩
          · have hin := held_in h HB.out.symm
            have hh := fun w => sin_yes a b t w hin
            clear hin h
            go_region_held3 (fun w' => Below W0.heap.size W0 w' ∧ w'.cell? ⟨w1.heap.size, 0, none⟩ = some (.int .i64 a) ∧ w'.cell? ⟨w1.heap.size, 1, none⟩ = some (.int .i64 b)) (first | exact ⟨B0.drew, k0, k1⟩ | exact keep2 hy hy (by assumption) (by assumption)) (first | (go_at_call 53; refine (rmeet_agg HE.out hl1000 (use_S hspW (by assumption))).mono ?_; rintro e w2 ⟨rfl, hb⟩) | (go_at_call 47; refine (hh _).mono ?_; rintro e w2 ⟨rfl, hb⟩) | (go_at_call 51; refine (lives09_any _).mono ?_; rintro e w2 ⟨rfl, hb⟩))
            have hH : Below W0.heap.size W0 w2 ∧ w2.cell? ⟨w1.heap.size, 0, none⟩ = some (.int .i64 a) ∧ w2.cell? ⟨w1.heap.size, 1, none⟩ = some (.int .i64 b) := by assumption
            go_wp2
            go_ret
            exact ⟨rfl, below_cut hbW hH.1⟩
end Go.Proofs.Ytpdlonlnkmjijaa
