/- An append to a list of the call's own, and which block it lies in behind it. -/
import Derived.Test.YtjpdfbljhbgbcaaDoorOwn
namespace Go.Proofs.YtjpdfbljhbgbcaaDoor
open Go.RowKit
set_option linter.unusedVariables false

theorem append_block {w : World} {base : Nat} {ty : TypeId} {i : TypeInfo} {z0 : Value} (hi : Tryd.prog.info? 3 = some i) (hz : i.zero = some z0) (hsize : i.size = 1) (hby : i.bytes = 8) {v : Value} {n : Nat} {xs : List Value} (hown : w.ownsRow base 3 1 v n xs) {gb : Nat} {c : Nat} {u : Value}
    (hnews : w.cell? ⟨gb, 0, none⟩ = some u) (h1 : u.oneCell' = true) (hn : n ≤ 1000000) {v' : Value} {w' : World} (hr : (Builtin.append_ #[26, 26] ty #[v, .slice (some ⟨gb, 0, none⟩) 1 c]).run Tryd.prog w = .ok v' w') : v'.ownBlock = v.ownBlock ∨ v'.ownBlock = some w.heap.size := by
  have hc : ∀ j x, [u][j]? = some x → w.cell? ((⟨gb, 0, none⟩ : Addr).add j) = some x := fun j x h => by
    match j, h with
    | 0, h =>
      cases h
      have e : (⟨gb, 0, none⟩ : Addr).add 0 = ⟨gb, 0, none⟩ := by unfold Addr.add; split <;> simp_all
      rw [e]; exact hnews
    | j + 1, h => simp at h
  rcases hown.2 with ⟨rfl, rfl⟩ | ⟨g, cap, cur, rfl, hbg, hg, hnc, hcm, hcs, htake⟩
  · rw [run_append_nil (P := Tryd.prog) w 26 ty 3 i z0 Tryd.underlying26 hi hz ⟨gb, 0, none⟩ 1 c [u] (by rw [hsize]; rfl) hc (by omega) (by omega) (by rw [hby]; omega)] at hr
    cases hr
    exact .inr rfl
  · by_cases hroom : n + 1 ≤ cap
    · rw [run_append_room (P := Tryd.prog) w 26 ty 3 i Tryd.underlying26 hi g n cap cur hg ⟨gb, 0, none⟩ 1 c [u] (by rw [hsize]; rfl) hc (by simpa using h1) hroom (by rw [hsize, hcs]; simp; omega)] at hr
      cases hr
      exact .inl rfl
    · have holds : ∀ j x, xs[j]? = some x → w.cell? ((⟨g, 0, none⟩ : Addr).add j) = some x := hown.cells (g := g) rfl
      rw [run_append_grow (P := Tryd.prog) w 26 ty 3 i z0 Tryd.underlying26 hi hz ⟨g, 0, none⟩ n cap xs (by rw [hsize]; exact hown.1) holds ⟨gb, 0, none⟩ 1 c [u] (by rw [hsize]; rfl) hc (by omega) (by omega) (growslice_fits (by omega) (by rw [hby]; omega))] at hr
      cases hr
      exact .inr rfl
theorem wpList_app2 {w : World} {ops : Array Oper} {rest : List Oper} {o : Oper} {a : Act} {Q : Exit → Act → World → Prop} (hgd : o.guard = none) (s x : Operand) (ho : o.op = .call { callee := .builtin .append, args := #[s, x], argTypes := #[26, 26] })
    (base : Nat) (v : Value) (zs : List Int) (hs : a.eval s = v) (hown : OwnI w base v zs) (gb : Nat) (c : Nat) (z : Int) (hx : a.eval x = .slice (some ⟨gb, 0, none⟩) 1 c) (hz : w.cell? ⟨gb, 0, none⟩ = some (.int .i64 z)) (hl : zs.length ≤ 1000000) (hbase : base ≤ w.heap.size)
    (h : ∀ v' w', OwnI w' base v' (zs ++ [z]) → w.grownBy w' v.ownBlock → (v'.ownBlock = v.ownBlock ∨ v'.ownBlock = some w.heap.size) → wpList Tryd.prog ops Q rest (a.put o.dst v') w') : wpList Tryd.prog ops Q (o :: rest) a w := by
  obtain ⟨i0, hi, hz0, hz1, hz2⟩ := info_parts info_int
  have hc : ∀ j x, [Value.int .i64 z][j]? = some x → w.cell? ((⟨gb, 0, none⟩ : Addr).add j) = some x := fun j x h => by
    match j, h with
    | 0, h =>
      cases h
      have e : (⟨gb, 0, none⟩ : Addr).add 0 = ⟨gb, 0, none⟩ := by unfold Addr.add; split <;> simp_all
      rw [e]; exact hz
    | j + 1, h => simp at h
  refine wpList_plain hgd fun K hK => ?_
  obtain ⟨v', w', hr, h2, h3, h4⟩ := run_append_own (P := Tryd.prog) w base 26 o.type 3 i0 (.int .i64 0) 1 8 Tryd.underlying26 hi hz0 hz1 hz2 rfl (by decide) v zs.length _ hown ⟨gb, 0, none⟩ 1 c [.int .i64 z] rfl hc (by simp [Value.oneCell']) (by unfold maxLen; omega) (by omega) hbase
  have hb := append_block hi hz0 hz1 hz2 hown hz (by simp [Value.oneCell']) hl hr
  unfold Oper.wp execOp
  simp only [ho, resolve, invoke, builtin, Sem.run_bind, Sem.run_pure, Result.andThen_ok, List.map_toArray, List.map_cons, List.map_nil, hs, hx, hr]
  exact hK _ _ (h v' w' (OwnI.snoc h2) h3 hb)
/-- two lists lie apart -/
def Apart (v v' : Value) : Prop := ∀ g, v.ownBlock = some g → v'.ownBlock ≠ some g
theorem Apart.nil (v : Value) : Apart (.slice none 0 0) v := fun g h => by cases h
theorem Apart.symm {v v' : Value} (h : Apart v v') : Apart v' v := fun g h1 h2 => h g h2 h1
theorem OwnI.beside {w w' : World} {base : Nat} {v v' : Value} {zs : List Int} (h : OwnI w base v' zs) (hg : w.grownBy w' v.ownBlock) (ha : Apart v v') : OwnI w' base v' zs := by
  refine World.ownsRow.kept h hg ?_
  cases e : v'.ownBlock with
  | none => exact .inl rfl
  | some g => exact .inr fun q => ha g q.symm e
theorem Apart.next {w : World} {base : Nat} {v v' v1 : Value} {zs : List Int} (h : OwnI w base v' zs) (ha : Apart v v') {k : Nat} (hb : v1.ownBlock = v.ownBlock ∨ v1.ownBlock = some k) (hk : w.heap.size ≤ k) : Apart v1 v' := fun g h1 h2 => by
  rcases hb with e | e
  · exact ha g (e ▸ h1) h2
  · rw [e] at h1
    cases h1
    have := (World.ownsRow.lt h k h2).2
    omega
end Go.Proofs.YtjpdfbljhbgbcaaDoor
