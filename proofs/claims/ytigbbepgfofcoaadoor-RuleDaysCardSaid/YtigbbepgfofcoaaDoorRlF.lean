/- Lists of numbers: slices.ContainsFunc and slices.Contains, what lies beyond bounds, what is mixed (layer 32). -/
import Derived.Test.YtigbbepgfofcoaaDoorRlB
namespace Go.Proofs.YtigbbepgfofcoaaDoor
open Go.RowKit
set_option linter.unusedVariables false

theorem entersR {P : Program} {f : FuncId} {fn : Func} {c : Code} (hf : P.funcs[f]? = some fn) (hname : (fn.name == "runtime.NumGoroutine") = false) (hb : fn.body = some c) (args : Array Value) (w : World) :
    Sem.run P (callFunc f args) w = .ok (.enter f args) w := by
  have h1 : fn.name ≠ "runtime.NumGoroutine" := by simpa using hname
  simp [callFunc, hf, h1, hb]
set_option maxHeartbeats 800000 in
set_option maxRecDepth 20000 in
theorem idxf0_any (F : Nat) (p : Int → Bool) (A : Option Addr) (c : Nat) (zs : List Int) (w : World) (hl : zs.length ≤ 9223372036854775807) (hi : Ints .i64 w A zs)
    (hC : ∀ (args : Array Value) (W : World), Sem.run Tryd.prog (callFunc F args) W = .ok (.enter F args) W) (hF : ∀ z : Int, Calls Tryd.prog F #[.int .i64 z] w fun e w' => e = .returned (.bool (p z)) ∧ w = w') :
    Calls Tryd.prog 98 #[.slice A zs.length c, .func (.func F) #[] #[]] w fun e w' => ∃ n : Int, e = .returned (.int .i64 n) ∧ decide (0 ≤ n) = zs.any p ∧ w = w' := by
  have HI := Lib.hid hi
  have HL := Lib.hid hl
  have HF := Lib.hid hF
  have HS := Lib.hid (fun k h => any_drop p zs k h)
  have HE := Lib.hid (any_end p zs)
  have H0 := Lib.hid (show (zs.drop 0).any p = zs.any p from rfl)
  generalize zs.any p = b at H0 ⊢
  clear hl hi hF
  go_enter Tryd.func98, Tryd.ntmps98
  go_wp2
  go_loop [8] (fun i => ∃ k : Nat, k ≤ zs.length ∧ i = .int .i64 k ∧ Hid ((zs.drop k).any p = b)) (fun i => zs.length - (intOf i).toNat)
  case atStart => exact ⟨0, Nat.zero_le _, rfl, H0⟩
  case round =>
    obtain ⟨k, hk, rfl, HA⟩ := hrel
    by_cases hlt : k < zs.length
    · obtain ⟨bk, off, rfl, hb, hcell⟩ := HI.out k hlt
      have hst := HS.out k hlt
      rw [HA.out] at hst
      have HST := Lib.hid hst
      have hl := HL.out
      have d0 : decide (k < zs.length) = true := dec_t hlt
      have ik0 : (0 : Int) ≤ (k : Int) := by omega
      have ik1 : (k : Int) < (zs.length : Int) := by omega
      have hw1 : IntKind.i64.wrap ((k : Int) + 1) = (k : Int) + 1 := IntWalk.i64_in _ ⟨by omega, by omega⟩
      have HK := Lib.hid (And.intro hk hlt)
      generalize zs[k]?.getD 0 = z at hcell HST
      have K := HF.out z
      clear hst hk hlt HA
      cases hp : p z
      · rw [hp] at K
        have HB := Lib.hid (show (zs.drop (k + 1)).any p = b by rw [HST.out, hp]; rfl)
        clear HST hp
        go_wp2_with fail
        refine K.mono ?_
        rintro e w1 ⟨rfl, rfl⟩
        go_wp2
        go_round
        case rel => exact ⟨k + 1, by have := HK.out; omega, by go_num, HB⟩
        case measure =>
          have := HK.out
          simp [intOf]; omega
      · rw [hp] at K
        have HB := Lib.hid (show b = true by rw [HST.out, hp]; rfl)
        clear HST hp
        go_wp2_with fail
        refine K.mono ?_
        rintro e w1 ⟨rfl, rfl⟩
        go_wp2
        go_ret
        exact ⟨(k : Int), rfl, by rw [HB.out]; exact dec_t (by omega), rfl⟩
    · obtain rfl : k = zs.length := by omega
      have d0 : decide (zs.length < zs.length) = false := dec_n (by omega)
      have HB := Lib.hid (show b = false by rw [← HA.out]; exact HE.out)
      clear hk hlt
      go_wp2
      go_ret
      exact ⟨-1, rfl, by rw [HB.out]; rfl, rfl⟩
theorem cont0_any (F : Nat) (p : Int → Bool) (A : Option Addr) (c : Nat) (zs : List Int) (w : World) (hl : zs.length ≤ 9223372036854775807) (hi : Ints .i64 w A zs)
    (hC : ∀ (args : Array Value) (W : World), Sem.run Tryd.prog (callFunc F args) W = .ok (.enter F args) W) (hF : ∀ z : Int, Calls Tryd.prog F #[.int .i64 z] w fun e w' => e = .returned (.bool (p z)) ∧ w = w') :
    Calls Tryd.prog 83 #[.slice A zs.length c, .func (.func F) #[] #[]] w fun e w' => e = .returned (.bool (zs.any p)) ∧ w = w' := by
  have K := idxf0_any F p A c zs w hl hi hC hF
  clear hl hi hF hC
  go_enter Tryd.func83, Tryd.ntmps83
  go_wp2_with fail
  refine K.mono ?_
  rintro e w1 ⟨n, rfl, hn, rfl⟩
  go_wp2
  go_ret
  exact ⟨by rw [← hn]; rfl, rfl⟩
set_option maxHeartbeats 800000 in
set_option maxRecDepth 20000 in
theorem idxf2_any (F : Nat) (c1 c2 : Value) (p : Int → Bool) (A : Option Addr) (c : Nat) (zs : List Int) (w : World) (hl : zs.length ≤ 9223372036854775807) (hi : Ints .i64 w A zs)
    (hC : ∀ (args : Array Value) (W : World), Sem.run Tryd.prog (callFunc F args) W = .ok (.enter F args) W) (hF : ∀ z : Int, Calls Tryd.prog F #[.int .i64 z, c1, c2] w fun e w' => e = .returned (.bool (p z)) ∧ w = w') :
    Calls Tryd.prog 98 #[.slice A zs.length c, .func (.func F) #[] #[c1, c2]] w fun e w' => ∃ n : Int, e = .returned (.int .i64 n) ∧ decide (0 ≤ n) = zs.any p ∧ w = w' := by
  have HI := Lib.hid hi
  have HL := Lib.hid hl
  have HF := Lib.hid hF
  have HS := Lib.hid (fun k h => any_drop p zs k h)
  have HE := Lib.hid (any_end p zs)
  have H0 := Lib.hid (show (zs.drop 0).any p = zs.any p from rfl)
  generalize zs.any p = b at H0 ⊢
  clear hl hi hF
  go_enter Tryd.func98, Tryd.ntmps98
  go_wp2
  go_loop [8] (fun i => ∃ k : Nat, k ≤ zs.length ∧ i = .int .i64 k ∧ Hid ((zs.drop k).any p = b)) (fun i => zs.length - (intOf i).toNat)
  case atStart => exact ⟨0, Nat.zero_le _, rfl, H0⟩
  case round =>
    obtain ⟨k, hk, rfl, HA⟩ := hrel
    by_cases hlt : k < zs.length
    · obtain ⟨bk, off, rfl, hb, hcell⟩ := HI.out k hlt
      have hst := HS.out k hlt
      rw [HA.out] at hst
      have HST := Lib.hid hst
      have hl := HL.out
      have d0 : decide (k < zs.length) = true := dec_t hlt
      have ik0 : (0 : Int) ≤ (k : Int) := by omega
      have ik1 : (k : Int) < (zs.length : Int) := by omega
      have hw1 : IntKind.i64.wrap ((k : Int) + 1) = (k : Int) + 1 := IntWalk.i64_in _ ⟨by omega, by omega⟩
      have HK := Lib.hid (And.intro hk hlt)
      generalize zs[k]?.getD 0 = z at hcell HST
      have K := HF.out z
      clear hst hk hlt HA
      cases hp : p z
      · rw [hp] at K
        have HB := Lib.hid (show (zs.drop (k + 1)).any p = b by rw [HST.out, hp]; rfl)
        clear HST hp
        go_wp2_with fail
        refine K.mono ?_
        rintro e w1 ⟨rfl, rfl⟩
        go_wp2
        go_round
        case rel => exact ⟨k + 1, by have := HK.out; omega, by go_num, HB⟩
        case measure =>
          have := HK.out
          simp [intOf]; omega
      · rw [hp] at K
        have HB := Lib.hid (show b = true by rw [HST.out, hp]; rfl)
        clear HST hp
        go_wp2_with fail
        refine K.mono ?_
        rintro e w1 ⟨rfl, rfl⟩
        go_wp2
        go_ret
        exact ⟨(k : Int), rfl, by rw [HB.out]; exact dec_t (by omega), rfl⟩
    · obtain rfl : k = zs.length := by omega
      have d0 : decide (zs.length < zs.length) = false := dec_n (by omega)
      have HB := Lib.hid (show b = false by rw [← HA.out]; exact HE.out)
      clear hk hlt
      go_wp2
      go_ret
      exact ⟨-1, rfl, by rw [HB.out]; rfl, rfl⟩
theorem cont2_any (F : Nat) (c1 c2 : Value) (p : Int → Bool) (A : Option Addr) (c : Nat) (zs : List Int) (w : World) (hl : zs.length ≤ 9223372036854775807) (hi : Ints .i64 w A zs)
    (hC : ∀ (args : Array Value) (W : World), Sem.run Tryd.prog (callFunc F args) W = .ok (.enter F args) W) (hF : ∀ z : Int, Calls Tryd.prog F #[.int .i64 z, c1, c2] w fun e w' => e = .returned (.bool (p z)) ∧ w = w') :
    Calls Tryd.prog 83 #[.slice A zs.length c, .func (.func F) #[] #[c1, c2]] w fun e w' => e = .returned (.bool (zs.any p)) ∧ w = w' := by
  have K := idxf2_any F c1 c2 p A c zs w hl hi hC hF
  clear hl hi hF hC
  go_enter Tryd.func83, Tryd.ntmps83
  go_wp2_with fail
  refine K.mono ?_
  rintro e w1 ⟨n, rfl, hn, rfl⟩
  go_wp2
  go_ret
  exact ⟨by rw [← hn]; rfl, rfl⟩
theorem beyond1_any (lo hi z : Int) (g : Nat) (w : World) (h0 : w.cell? ⟨g, 0, none⟩ = some (.int .i64 lo)) (h1 : w.cell? ⟨g + 1, 0, none⟩ = some (.int .i64 hi)) :
    Calls Tryd.prog 84 #[.int .i64 z, .pointer (some ⟨g, 0, none⟩), .pointer (some ⟨g + 1, 0, none⟩)] w fun e w' => e = .returned (.bool (decide (z < lo) || decide (hi < z))) ∧ w = w' := by
  obtain ⟨p, hp⟩ : ∃ p, decide (z < lo) = p := ⟨_, rfl⟩
  obtain ⟨q, hq⟩ : ∃ p, decide (hi < z) = p := ⟨_, rfl⟩
  rw [hp, hq]
  cases p <;> cases q
  all_goals
    go_enter Tryd.func84, Tryd.ntmps84
    go_wp2
    go_ret
    exact ⟨rfl, rfl⟩
theorem beyond_any (lo hi : Int) (A : Option Addr) (c : Nat) (zs : List Int) (w : World) (hl : zs.length ≤ 9223372036854775807) (hi2 : Ints .i64 w A zs) :
    Calls Tryd.prog 32 #[.slice A zs.length c, .int .i64 lo, .int .i64 hi] w fun e w' => e = .returned (.bool (outB lo hi zs)) ∧ Below w.heap.size w w' := by
  have HB := Lib.hid (show Below w.heap.size w ((w.alloc (.cells #[.int .i64 lo] 3)).alloc (.cells #[.int .i64 hi] 3)) from ((Below.refl _ _).alloc (Nat.le_refl _) _).alloc (by simp) _)
  have c0 : ((w.alloc (.cells #[.int .i64 lo] 3)).alloc (.cells #[.int .i64 hi] 3)).cell? ⟨w.heap.size, 0, none⟩ = some (.int .i64 lo) := blk_cell (blk_more (blk_new w _) _) 0
  have c1 : ((w.alloc (.cells #[.int .i64 lo] 3)).alloc (.cells #[.int .i64 hi] 3)).cell? ⟨w.heap.size + 1, 0, none⟩ = some (.int .i64 hi) := by
    have q := blk_cell (blk_new (w.alloc (.cells #[.int .i64 lo] 3)) (.cells #[.int .i64 hi] 3)) 0
    rw [World.size_alloc] at q
    exact q
  have K := cont2_any 84 (.pointer (some ⟨w.heap.size, 0, none⟩)) (.pointer (some ⟨w.heap.size + 1, 0, none⟩)) (fun z => decide (z < lo) || decide (hi < z)) A c zs _ hl (hi2.below HB.out) (entersR Tryd.func84 (by kernel_rfl) rfl) (fun z => beyond1_any lo hi z w.heap.size _ c0 c1)
  clear hl hi2 c0 c1
  go_enter Tryd.func32, Tryd.ntmps32
  go_wp2_with fail
  refine K.mono ?_
  rintro e w1 ⟨rfl, rfl⟩
  go_wp2
  go_ret
  exact ⟨rfl, HB.out⟩
theorem mixed1_any (z : Int) (w : World) : Calls Tryd.prog 86 #[.int .i64 z] w fun e w' => e = .returned (.bool (decide (z < 0))) ∧ w = w' := by
  go_enter Tryd.func86, Tryd.ntmps86
  go_wp2
  go_ret
  exact ⟨rfl, rfl⟩
theorem mixed2_any (z : Int) (w : World) : Calls Tryd.prog 87 #[.int .i64 z] w fun e w' => e = .returned (.bool (decide (0 < z))) ∧ w = w' := by
  go_enter Tryd.func87, Tryd.ntmps87
  go_wp2
  go_ret
  exact ⟨rfl, rfl⟩
/-- are there numbers of both signs? -/
def mixB (zs : List Int) : Bool := (zs.any fun z => decide (z < 0)) && (zs.any fun z => decide (0 < z))
set_option maxHeartbeats 800000 in
set_option maxRecDepth 20000 in
theorem mixed_any (A : Option Addr) (c : Nat) (zs : List Int) (w : World) (hl : zs.length ≤ 9223372036854775807) (hi2 : Ints .i64 w A zs) :
    Calls Tryd.prog 37 #[.slice A zs.length c] w fun e w' => e = .returned (.bool (mixB zs)) ∧ w = w' := by
  have K1 := cont0_any 86 (fun z => decide (z < 0)) A c zs w hl hi2 (entersR Tryd.func86 (by kernel_rfl) rfl) (fun z => mixed1_any z w)
  have K2 := cont0_any 87 (fun z => decide (0 < z)) A c zs w hl hi2 (entersR Tryd.func87 (by kernel_rfl) rfl) (fun z => mixed2_any z w)
  unfold mixB
  generalize (zs.any fun z => decide (z < 0)) = p at K1 ⊢
  generalize (zs.any fun z => decide (0 < z)) = q at K2 ⊢
  clear hl hi2
  go_enter Tryd.func37, Tryd.ntmps37
  go_wp2_with fail
  refine K1.mono ?_
  rintro e w1 ⟨rfl, rfl⟩
  cases p
  · go_wp2_with fail
    go_ret
    exact ⟨rfl, rfl⟩
  · go_wp2_with fail
    refine K2.mono ?_
    rintro e w2 ⟨rfl, rfl⟩
    go_wp2
    go_ret
    exact ⟨rfl, rfl⟩
set_option maxHeartbeats 800000 in
set_option maxRecDepth 20000 in
theorem index_any (x : Int) (A : Option Addr) (c : Nat) (zs : List Int) (w : World) (hl : zs.length ≤ 9223372036854775807) (hi : Ints .i64 w A zs) :
    Calls Tryd.prog 85 #[.slice A zs.length c, .int .i64 x] w fun e w' => ∃ n : Int, e = .returned (.int .i64 n) ∧ decide (0 ≤ n) = (zs.any fun z => decide (z = x)) ∧ w = w' := by
  have HI := Lib.hid hi
  have HL := Lib.hid hl
  have HS := Lib.hid (fun k h => any_drop (fun z => decide (z = x)) zs k h)
  have HE := Lib.hid (any_end (fun z => decide (z = x)) zs)
  have H0 := Lib.hid (show (zs.drop 0).any (fun z => decide (z = x)) = zs.any (fun z => decide (z = x)) from rfl)
  generalize zs.any (fun z => decide (z = x)) = b at H0 ⊢
  clear hl hi
  go_enter Tryd.func85, Tryd.ntmps85
  go_wp2
  go_loop [8] (fun i => ∃ k : Nat, k ≤ zs.length ∧ i = .int .i64 k ∧ Hid ((zs.drop k).any (fun z => decide (z = x)) = b)) (fun i => zs.length - (intOf i).toNat)
  case atStart => exact ⟨0, Nat.zero_le _, rfl, H0⟩
  case round =>
    obtain ⟨k, hk, rfl, HA⟩ := hrel
    by_cases hlt : k < zs.length
    · obtain ⟨bk, off, rfl, hb, hcell⟩ := HI.out k hlt
      have hst := HS.out k hlt
      rw [HA.out] at hst
      have HST := Lib.hid hst
      have hl := HL.out
      have d0 : decide (k < zs.length) = true := dec_t hlt
      have ik0 : (0 : Int) ≤ (k : Int) := by omega
      have ik1 : (k : Int) < (zs.length : Int) := by omega
      have hw1 : IntKind.i64.wrap ((k : Int) + 1) = (k : Int) + 1 := IntWalk.i64_in _ ⟨by omega, by omega⟩
      have HK := Lib.hid (And.intro hk hlt)
      generalize zs[k]?.getD 0 = z at hcell HST
      clear hst hk hlt HA
      by_cases hp : z = x
      · have e1 : (x == z) = true := by simp [hp]
        have HB := Lib.hid (show b = true by rw [HST.out, dec_t hp]; rfl)
        clear HST hp
        go_wp2
        go_ret
        exact ⟨(k : Int), rfl, by rw [HB.out]; exact dec_t (by omega), rfl⟩
      · have e1 : (x == z) = false := by rw [beq_eq_false_iff_ne]; exact fun h => hp h.symm
        have HB := Lib.hid (show (zs.drop (k + 1)).any (fun z => decide (z = x)) = b by rw [HST.out, dec_n hp]; rfl)
        clear HST hp
        go_wp2
        go_round
        case rel => exact ⟨k + 1, by have := HK.out; omega, by go_num, HB⟩
        case measure =>
          have := HK.out
          simp [intOf]; omega
    · obtain rfl : k = zs.length := by omega
      have d0 : decide (zs.length < zs.length) = false := dec_n (by omega)
      have HB := Lib.hid (show b = false by rw [← HA.out]; exact HE.out)
      clear hk hlt
      go_wp2
      go_ret
      exact ⟨-1, rfl, by rw [HB.out]; rfl, rfl⟩
theorem contains_any (x : Int) (A : Option Addr) (c : Nat) (zs : List Int) (w : World) (hl : zs.length ≤ 9223372036854775807) (hi : Ints .i64 w A zs) :
    Calls Tryd.prog 35 #[.slice A zs.length c, .int .i64 x] w fun e w' => e = .returned (.bool (zs.any fun z => decide (z = x))) ∧ w = w' := by
  have K := index_any x A c zs w hl hi
  clear hl hi
  go_enter Tryd.func35, Tryd.ntmps35
  go_wp2_with fail
  refine K.mono ?_
  rintro e w1 ⟨n, rfl, hn, rfl⟩
  go_wp2
  go_ret
  exact ⟨by rw [← hn]; rfl, rfl⟩
end Go.Proofs.YtigbbepgfofcoaaDoor
