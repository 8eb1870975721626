/- The walk of WideAll (layer 4). -/
import Derived.Test.YtjpdfbljhbgbcaaDoorWdN
import Derived.Test.YtjpdfbljhbgbcaaDoorIntsEq
namespace Go.Proofs.YtjpdfbljhbgbcaaDoor
open Go.RowKit
set_option linter.unusedVariables false

theorem eq_nil (F : Fn) (x y : Array Value) (w : World) : Sem.run Tryd.prog (Op.equal 29 (.func F x y) .nilFunc) w = .ok false w := by
  unfold Op.equal Op.maxDepth
  unfold Op.equalIn
  rw [Sem.run_bind, run_underlying Tryd.underlying29]
  rfl
theorem nil_func (F : Fn) (x y : Array Value) (w : World) : Sem.run Tryd.prog (binOp BinOp.eql 29 (.func F x y) .nilFunc) w = .ok (.bool false) w := by
  have h : binOp BinOp.eql 29 (.func F x y) .nilFunc = (do pure (.bool (← Op.equal 29 (.func F x y) .nilFunc))) := by simp only [binOp]
  rw [h, Sem.run_bind, eq_nil, Result.andThen_ok, Sem.run_pure]
theorem quiet_bel {w w' : World} (B : Nat) (h : Quiet w w') : Below B w w' := by obtain ⟨n, rfl⟩ := h; exact below_draws B w n
theorem ints_takeW {w : World} {A : Option Addr} {zs : List Int} (n : Nat) (h : Ints .i64 w A zs) : Ints .i64 w A (zs.take n) := fun j hj => by
  obtain ⟨b, off, h1, h2, h3⟩ := h j (by rw [List.length_take] at hj; omega)
  refine ⟨b, off, h1, h2, ?_⟩
  rw [h3, List.getElem?_take_of_lt (by rw [List.length_take] at hj; omega)]
/-- the bounds of a list of numbers -/
theorem bnd_list {Q : Nat → Bool} {a b : Int} {ok : Bool} (h : Bnd Q 448 a b ok) (xs : List Int) (hx : numsP Q 448 = xs) : (xs = [] ∧ ok = false ∧ a = 0 ∧ b = 0) ∨ (0 < xs.length ∧ ok = true ∧ xs[0]?.getD 0 = a ∧ xs[xs.length - 1]?.getD 0 = b) := by
  subst hx
  rcases h with ⟨h1, h2, h3, h4⟩ | ⟨h1, x, y, rfl, rfl, hx, hy, qx, qy, h6, h7⟩
  · refine .inl ⟨?_, h1, h2, h3⟩
    rw [List.eq_nil_iff_forall_not_mem]
    intro z hz
    obtain ⟨i, hi, hp, _⟩ := mem_numsP.1 hz
    rw [h4 i hi] at hp; cases hp
  · have e1 : numsP Q x = [] := by
      rw [List.eq_nil_iff_forall_not_mem]
      intro z hz
      obtain ⟨i, hi, hp, _⟩ := mem_numsP.1 hz
      rw [h6 i hi] at hp; cases hp
    obtain ⟨t, ht⟩ := numsP_grow Q (x + 1) 448 (by omega)
    rw [numsP_yes Q x qx, e1, List.nil_append] at ht
    have e2 : numsP Q 448 = numsP Q (y + 1) := numsP_skip Q (y + 1) 448 (by omega) (fun i h8 h9 => h7 i (by omega) h9)
    rw [numsP_yes Q y qy] at e2
    refine .inr ⟨by rw [ht]; simp, h1, by rw [ht]; simp, ?_⟩
    rw [e2, List.length_append, List.length_singleton, Nat.add_sub_cancel, List.getElem?_append_right (Nat.le_refl _)]
    simp
theorem nums_all (P : Nat → Bool) : numsP (clip P) 448 = numsP (clip P) 400 := nums_clip P 48
theorem fin_cases {mo : Nat} {Q : Nat → Bool} {zs : List Int} (h : Fin mo Q zs) (xs : List Int) (hx : numsP Q 448 = xs) : (mo = 0 ∧ zs = xs) ∨ (0 < mo ∧ ¬ mo < xs.length ∧ zs = xs) ∨ (0 < mo ∧ mo < xs.length ∧ zs = xs.take mo) := by
  subst hx
  rcases h with ⟨h1, h2⟩ | ⟨⟨t, ht⟩, h2, h3⟩
  · subst h1
    by_cases e : mo = 0
    · exact .inl ⟨e, rfl⟩
    · exact .inr (.inl ⟨by omega, by omega, rfl⟩)
  · by_cases e : mo < (numsP Q 448).length
    · exact .inr (.inr ⟨by omega, e, by rw [← ht, ← h3]; simp⟩)
    · refine .inr (.inl ⟨by omega, e, ?_⟩)
      have hl := congrArg List.length ht
      rw [List.length_append] at hl
      have : t = [] := List.length_eq_zero_iff.1 (by omega)
      rw [this, List.append_nil] at ht
      exact ht
attribute [local irreducible] numsP Bnd Fin
set_option maxHeartbeats 800000 in
set_option maxRecDepth 20000 in
theorem wideAll_in (P : Nat → Bool) (mo : Nat) (w : World) (hmo : mo ≤ 65535) (hT : Tab w) :
    Calls Tryd.prog 6 #[S7 P, .int .u16 mo] w fun e w' => e = .returned (.bool true) ∧ Below w.heap.size w w' := by
  have hTl := hT.lt
  have HR0 := Lib.hid ((Sev.new w (wv P)).alloc (.cells #[.int .u16 (mo : Nat)] 25))
  have HQ0 := Lib.hid (show ((w.alloc (.cells (c7 (wv P)) 34)).alloc (.cells #[.int .u16 (mo : Nat)] 25)).heap[w.heap.size + 1]? = some (.cells #[.int .u16 (mo : Nat)] 25 (0, 0)) by
    have q := blk_new (w.alloc (.cells (c7 (wv P)) 34)) (.cells #[.int .u16 (mo : Nat)] 25)
    rwa [World.size_alloc] at q)
  have HB0 := Lib.hid (show Below w.heap.size w ((w.alloc (.cells (c7 (wv P)) 34)).alloc (.cells #[.int .u16 (mo : Nat)] 25)) from ((Below.refl _ _).alloc (Nat.le_refl _) _).alloc (by simp) _)
  have HT0 := Lib.hid (hT.below HB0.out)
  unfold S7
  obtain ⟨W0, hW0⟩ : ∃ W0, (w.alloc (.cells (c7 (wv P)) 34)).alloc (.cells #[.int .u16 (mo : Nat)] 25) = W0 := ⟨_, rfl⟩
  rw [hW0] at HR0 HQ0 HB0 HT0
  obtain ⟨x0, x1, x2, x3, x4, x5, x6⟩ := HR0.out.cells
  have K1 := wrlist2_any P W0
  have hle := numsP_le (clip P) 400
  have HK2 := Lib.hid (fun W h => wbounds_any P W h)
  have HK3 := Lib.hid (fun W => wall_any P W)
  have HBL := Lib.hid (fun a b ok (h : Bnd (clip P) 448 a b ok) => bnd_list h _ rfl)
  have HFN := Lib.hid (fun zs (h : Fin mo (clip P) zs) => h)
  have HNA := Lib.hid (nums_all P)
  unfold S7 c7 at K1 HK2 HK3
  clear hT
  generalize hL : c7 (wv P) = L at hW0 ⊢
  have HLL := Lib.hid hL
  clear hL
  go_enter Tryd.func6, Tryd.ntmps6
  go_wp2_with fail
  try rw [hW0]
  clear hW0
  refine K1.mono ?_
  rintro e w1 ⟨A1, c1, rfl, hi1, hb1, hcap⟩
  have HI1 := Lib.hid hi1
  have HR1 := Lib.hid (HR0.out.below hb1)
  have HQ1 := Lib.hid ((hb1.block _ (lt_of_block HQ0.out)).trans HQ0.out)
  have HB1 := Lib.hid (HB0.out.trans (hb1.mono HB0.out.size))
  have HT1 := Lib.hid (HT0.out.below hb1)
  clear x0 x1 x2 x3 x4 x5 x6 hi1 hb1 K1
  obtain ⟨x0, x1, x2, x3, x4, x5, x6⟩ := HR1.out.cells
  go_wp2_with fail
  refine (HK2.out _ HT1.out).mono ?_
  rintro e w2 ⟨⟨a, b, ok, rfl, hbd⟩, hb2⟩
  have hbl := HBL.out a b ok hbd
  rw [HNA.out] at hbl
  have HI2 := Lib.hid (Ints.below HI1.out hb2)
  have HR2 := Lib.hid (HR1.out.below hb2)
  have HQ2 := Lib.hid ((hb2.block _ (lt_of_block HQ1.out)).trans HQ1.out)
  have HB2 := Lib.hid (HB1.out.trans (hb2.mono HB1.out.size))
  have HT2 := Lib.hid (HT1.out.below hb2)
  clear x0 x1 x2 x3 x4 x5 x6 hb2 hbd
  obtain ⟨x0, x1, x2, x3, x4, x5, x6⟩ := HR2.out.cells
  have HNX0 := HNA.out
  generalize hxs : numsP (clip P) 400 = xs at HI2 hle hcap hbl HNX0
  have HNX := Lib.hid HNX0
  clear HNX0 hxs HNA HBL HI1
  rcases hbl with ⟨hnil, rfl, rfl, rfl⟩ | ⟨hpos, rfl, ha, hb⟩
  · have hlen : xs.length = 0 := by rw [hnil]; rfl
    have d1 : decide ((0 : Int) < (xs.length : Int)) = false := dec_n (by omega)
    have d2 : decide (0 < xs.length) = false := dec_n (by omega)
    clear hnil
    go_wp2_with fail
    refine (HK3.out _).mono ?_
    rintro e w3 ⟨rfl, hs3, hb3⟩
    have hn3 := nil_func (.func 44) #[] #[.pointer (some ⟨w2.heap.size, 0, none⟩)] w3
    have s3 := hb3.size
    have l3 := Sev.lt hs3
    have HS4 := Lib.hid (Sev.alloc hs3 (.cells #[.slice none 0 0] 26))
    have HG4 := Lib.hid (blk_new w3 (.cells #[.slice none 0 0] 26))
    have HB4 := Lib.hid (hb3.alloc s3 (.cells #[.slice none 0 0] 26))
    have hs4 : (w3.alloc (.cells #[.slice none 0 0] 26)).heap.size = w3.heap.size + 1 := by simp
    have HQ4 := Lib.hid ((HB4.out.block _ (lt_of_block HQ2.out)).trans HQ2.out)
    have HT4 := Lib.hid (HT2.out.below HB4.out)
    have lq := lt_of_block HQ2.out
    have hw2 := HB2.out.size
    obtain ⟨W4, hW4⟩ : ∃ W4, w3.alloc (.cells #[.slice none 0 0] 26) = W4 := ⟨_, rfl⟩
    rw [hW4] at HS4 HG4 HB4 HQ4 HT4 hs4
    generalize hgg : w3.heap.size = g at HG4 hs4 s3 l3
    have HKI := Lib.hid (callsIn_wide.1 (witer_in 5 (by omega) (clip P) w2.heap.size g (w.heap.size + 1) mo W4 HS4.out HG4.out (by rw [blk_cell HQ4.out]; rfl) (by omega) hmo HT4.out (by omega)))
    clear x0 x1 x2 x3 x4 x5 x6 hs3 hb3
    go_wp2_with fail
    try rw [hW4]
    clear hW4
    refine HKI.out.mono ?_
    rintro e w5 ⟨⟨u, rfl⟩, v, zs, hg5, ho5, hbut, hfin⟩
    obtain ⟨A3, c3, rfl, hi3, _⟩ := ho5.ints2
    have HB5 := Lib.hid (HB4.out.trans (show Below w2.heap.size W4 w5 from ⟨hbut.os, hbut.tape, hbut.output, hbut.size, fun k hk => hbut.block k (by omega) (by omega)⟩))
    have HI5 := Lib.hid (Ints.below HI2.out HB5.out)
    have HT5 := Lib.hid (HT2.out.below HB5.out)
    have cq := blk_cell ((HB5.out.block _ lq).trans HQ2.out) 0
    have cg := blk_cell hg5 0
    have HI3 := Lib.hid hi3
    have HBZ := Lib.hid (HB2.out.trans (HB5.out.mono hw2))
    have w9 : IntKind.i64.wrap (mo : Int) = (mo : Int) := IntWalk.i64_in _ ⟨by omega, by omega⟩
    have hfc := fin_cases hfin xs HNX.out
    clear hfin hg5 ho5 hbut hi3 hn3 hgg HKI HG4 HS4 hs4
    rcases hfc with ⟨h0, rfl⟩ | ⟨h0, h1, rfl⟩ | ⟨h0, h1, hz⟩
    · have e1 : decide ((0 : Int) < (mo : Int)) = false := dec_n (by omega)
      have e2 : decide (0 < mo) = false := dec_n (by omega)
      have K5 := ints_any true A3 _ c3 c1 zs zs w5 (by omega) (by omega) HI3.out HI5.out ⟨fun _ => rfl, fun _ => rfl⟩
      try rw [hlen] at K5
      have HK5 := Lib.hid K5
      clear K5
      go_wp2_with fail
      refine HK5.out.mono ?_
      rintro e w6 ⟨rfl, hq6⟩
      have HT6 := Lib.hid (HT5.out.quiet hq6)
      have HB6 := Lib.hid (HBZ.out.trans (quiet_bel _ hq6))
      clear hq6
      go_wp2_with fail
      refine (lives04_any _ HT6.out).mono ?_
      rintro e w7 ⟨rfl, hb7⟩
      have HB7 := Lib.hid (HB6.out.trans (hb7.mono HB6.out.size))
      clear hb7
      go_wp2
      go_ret
      exact ⟨rfl, HB7.out⟩
    · have e1 : decide ((0 : Int) < (mo : Int)) = true := dec_t (by omega)
      have e2 : decide (0 < mo) = true := dec_t (by omega)
      have e3 : decide ((mo : Int) < (zs.length : Int)) = false := dec_n (by omega)
      have e4 : decide (mo < zs.length) = false := dec_n (by omega)
      have K5 := ints_any true A3 _ c3 c1 zs zs w5 (by omega) (by omega) HI3.out HI5.out ⟨fun _ => rfl, fun _ => rfl⟩
      try rw [hlen] at K5
      have HK5 := Lib.hid K5
      clear K5
      go_wp2_with fail
      refine HK5.out.mono ?_
      rintro e w6 ⟨rfl, hq6⟩
      have HT6 := Lib.hid (HT5.out.quiet hq6)
      have HB6 := Lib.hid (HBZ.out.trans (quiet_bel _ hq6))
      clear hq6
      go_wp2_with fail
      refine (lives04_any _ HT6.out).mono ?_
      rintro e w7 ⟨rfl, hb7⟩
      have HB7 := Lib.hid (HB6.out.trans (hb7.mono HB6.out.size))
      clear hb7
      go_wp2
      go_ret
      exact ⟨rfl, HB7.out⟩
    · exfalso; omega
  · obtain ⟨ln, hln⟩ : ∃ ln, xs.length = ln + 1 := ⟨xs.length - 1, by omega⟩
    have d1 : decide ((0 : Int) < (xs.length : Int)) = true := dec_t (by omega)
    have d2 : decide (0 < xs.length) = true := dec_t hpos
    obtain ⟨bk, off, hA, _, k0⟩ := HI2.out 0 hpos
    obtain ⟨bk', off', hA', _, k1⟩ := HI2.out ln (by omega)
    subst hA
    cases hA'
    rw [ha, Nat.add_zero] at k0
    rw [show xs.length - 1 = ln by omega] at hb
    rw [hb] at k1
    clear ha hb
    go_wp2_with fail
    refine (HK3.out _).mono ?_
    rintro e w3 ⟨rfl, hs3, hb3⟩
    have hn3 := nil_func (.func 44) #[] #[.pointer (some ⟨w2.heap.size, 0, none⟩)] w3
    have s3 := hb3.size
    have l3 := Sev.lt hs3
    have HS4 := Lib.hid (Sev.alloc hs3 (.cells #[.slice none 0 0] 26))
    have HG4 := Lib.hid (blk_new w3 (.cells #[.slice none 0 0] 26))
    have HB4 := Lib.hid (hb3.alloc s3 (.cells #[.slice none 0 0] 26))
    have hs4 : (w3.alloc (.cells #[.slice none 0 0] 26)).heap.size = w3.heap.size + 1 := by simp
    have HQ4 := Lib.hid ((HB4.out.block _ (lt_of_block HQ2.out)).trans HQ2.out)
    have HT4 := Lib.hid (HT2.out.below HB4.out)
    have lq := lt_of_block HQ2.out
    have hw2 := HB2.out.size
    obtain ⟨W4, hW4⟩ : ∃ W4, w3.alloc (.cells #[.slice none 0 0] 26) = W4 := ⟨_, rfl⟩
    rw [hW4] at HS4 HG4 HB4 HQ4 HT4 hs4
    generalize hgg : w3.heap.size = g at HG4 hs4 s3 l3
    have HKI := Lib.hid (callsIn_wide.1 (witer_in 5 (by omega) (clip P) w2.heap.size g (w.heap.size + 1) mo W4 HS4.out HG4.out (by rw [blk_cell HQ4.out]; rfl) (by omega) hmo HT4.out (by omega)))
    clear k0 k1 x0 x1 x2 x3 x4 x5 x6 hs3 hb3
    go_wp2_with fail
    try rw [hW4]
    clear hW4
    refine HKI.out.mono ?_
    rintro e w5 ⟨⟨u, rfl⟩, v, zs, hg5, ho5, hbut, hfin⟩
    obtain ⟨A3, c3, rfl, hi3, _⟩ := ho5.ints2
    have HB5 := Lib.hid (HB4.out.trans (show Below w2.heap.size W4 w5 from ⟨hbut.os, hbut.tape, hbut.output, hbut.size, fun k hk => hbut.block k (by omega) (by omega)⟩))
    have HI5 := Lib.hid (Ints.below HI2.out HB5.out)
    have HT5 := Lib.hid (HT2.out.below HB5.out)
    have cq := blk_cell ((HB5.out.block _ lq).trans HQ2.out) 0
    have cg := blk_cell hg5 0
    have HI3 := Lib.hid hi3
    have HBZ := Lib.hid (HB2.out.trans (HB5.out.mono hw2))
    have w9 : IntKind.i64.wrap (mo : Int) = (mo : Int) := IntWalk.i64_in _ ⟨by omega, by omega⟩
    have hfc := fin_cases hfin xs HNX.out
    clear hfin hg5 ho5 hbut hi3 hn3 hgg HKI HG4 HS4 hs4
    rcases hfc with ⟨h0, rfl⟩ | ⟨h0, h1, rfl⟩ | ⟨h0, h1, hz⟩
    · have e1 : decide ((0 : Int) < (mo : Int)) = false := dec_n (by omega)
      have e2 : decide (0 < mo) = false := dec_n (by omega)
      have K5 := ints_any true A3 _ c3 c1 zs zs w5 (by omega) (by omega) HI3.out HI5.out ⟨fun _ => rfl, fun _ => rfl⟩
      try rw [hln] at K5
      have HK5 := Lib.hid K5
      clear K5
      go_wp2_with fail
      refine HK5.out.mono ?_
      rintro e w6 ⟨rfl, hq6⟩
      have HT6 := Lib.hid (HT5.out.quiet hq6)
      have HB6 := Lib.hid (HBZ.out.trans (quiet_bel _ hq6))
      clear hq6
      go_wp2_with fail
      refine (lives04_any _ HT6.out).mono ?_
      rintro e w7 ⟨rfl, hb7⟩
      have HB7 := Lib.hid (HB6.out.trans (hb7.mono HB6.out.size))
      clear hb7
      go_wp2
      go_ret
      exact ⟨rfl, HB7.out⟩
    · have e1 : decide ((0 : Int) < (mo : Int)) = true := dec_t (by omega)
      have e2 : decide (0 < mo) = true := dec_t (by omega)
      have e3 : decide ((mo : Int) < (zs.length : Int)) = false := dec_n (by omega)
      have e4 : decide (mo < zs.length) = false := dec_n (by omega)
      have K5 := ints_any true A3 _ c3 c1 zs zs w5 (by omega) (by omega) HI3.out HI5.out ⟨fun _ => rfl, fun _ => rfl⟩
      try rw [hln] at K5
      have HK5 := Lib.hid K5
      clear K5
      go_wp2_with fail
      refine HK5.out.mono ?_
      rintro e w6 ⟨rfl, hq6⟩
      have HT6 := Lib.hid (HT5.out.quiet hq6)
      have HB6 := Lib.hid (HBZ.out.trans (quiet_bel _ hq6))
      clear hq6
      go_wp2_with fail
      refine (lives04_any _ HT6.out).mono ?_
      rintro e w7 ⟨rfl, hb7⟩
      have HB7 := Lib.hid (HB6.out.trans (hb7.mono HB6.out.size))
      clear hb7
      go_wp2
      go_ret
      exact ⟨rfl, HB7.out⟩
    · have e1 : decide ((0 : Int) < (mo : Int)) = true := dec_t (by omega)
      have e2 : decide (0 < mo) = true := dec_t (by omega)
      have e3 : decide ((mo : Int) < (xs.length : Int)) = true := dec_t (by omega)
      have e4 : decide (mo < xs.length) = true := dec_t (by omega)
      have hcp : (mo : Int) ≤ (c1 : Int) := by omega
      have hcp2 : mo ≤ c1 := by omega
      have hml : (xs.take mo).length = mo := by rw [List.length_take]; omega
      have K5 := ints_any true A3 _ c3 c1 zs (xs.take mo) w5 (by rw [hz]; omega) (by omega) HI3.out (ints_takeW mo HI5.out) ⟨fun _ => hz, fun _ => rfl⟩
      rw [hml] at K5
      clear hz hml
      try rw [hln] at K5
      have HK5 := Lib.hid K5
      clear K5
      go_wp2_with fail
      refine HK5.out.mono ?_
      rintro e w6 ⟨rfl, hq6⟩
      have HT6 := Lib.hid (HT5.out.quiet hq6)
      have HB6 := Lib.hid (HBZ.out.trans (quiet_bel _ hq6))
      clear hq6
      go_wp2_with fail
      refine (lives04_any _ HT6.out).mono ?_
      rintro e w7 ⟨rfl, hb7⟩
      have HB7 := Lib.hid (HB6.out.trans (hb7.mono HB6.out.size))
      clear hb7
      go_wp2
      go_ret
      exact ⟨rfl, HB7.out⟩
theorem wideAll_walk (ms : List Int) (mo : Int) (w : World) (hm : ms.length = 7) (hw : ∀ z ∈ ms, (Lit.int .u64 z).wf = true) (wm : (Lit.int .u16 mo).wf = true) (hT : Tab w) :
    Calls Tryd.prog 6 #[.agg (ms.map (Value.int .u64)).toArray, .int .u16 mo] w fun e w' => e = .returned (.bool true) ∧ Below w.heap.size w w' := by
  obtain ⟨n, rfl, hn⟩ := wf_u16 wm
  rw [seven ms hm hw]
  exact wideAll_in _ n w hn hT
end Go.Proofs.YtjpdfbljhbgbcaaDoor
