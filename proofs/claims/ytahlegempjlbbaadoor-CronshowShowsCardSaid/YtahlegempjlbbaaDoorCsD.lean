/- The texts of items between commas, the mathematics and what is in memory (layer 26). -/
import Derived.Test.YtahlegempjlbbaaDoorCsC
import Derived.Laws.MakeOwn
import Derived.Lib.Join
namespace Go.Proofs.YtahlegempjlbbaaDoor
open Go.RowKit
set_option linter.unusedVariables false

/-- texts with a comma between each two -/
def joinB (ts : List ByteArray) : ByteArray := ⟨(Lib.join (ts.map (·.data.toList)) [44]).toArray⟩
theorem tail_snoc (r : List (List UInt8)) (x : List UInt8) : Lib.joinTail [44] (r ++ [x]) = Lib.joinTail [44] r ++ ([44] ++ x) := by
  unfold Lib.joinTail
  rw [List.map_append, List.flatten_append]
  simp
theorem joinB_nil : joinB [] = ⟨#[]⟩ := rfl
theorem joinB_one (t : ByteArray) : joinB [t] = t := by
  unfold joinB
  rw [List.map_cons, List.map_nil, Lib.join_one]
theorem joinB_snoc (ts : List ByteArray) (t : ByteArray) (h : ts ≠ []) : joinB (ts ++ [t]) = joinB ts ++ chr 44 ++ t := by
  cases ts with
  | nil => exact absurd rfl h
  | cons x r =>
    unfold joinB
    rw [List.cons_append, List.map_cons, List.map_append, List.map_cons, List.map_nil, Lib.join_cons, tail_snoc, List.map_cons, Lib.join_cons]
    apply ByteArray.ext
    simp [chr]
theorem tail_len (r : List ByteArray) (h : ∀ t ∈ r, t.size ≤ 70) : (Lib.joinTail [44] (r.map (·.data.toList))).length ≤ 71 * r.length := by
  induction r with
  | nil => exact Nat.zero_le _
  | cons t r ih =>
    have h1 := h t (List.mem_cons_self ..)
    have h2 := ih fun x hx => h x (List.mem_cons_of_mem _ hx)
    unfold Lib.joinTail at h2 ⊢
    rw [List.map_cons, List.map_cons, List.flatten_cons, List.length_append, List.length_append, List.length_cons, List.length_cons]
    have e : t.data.toList.length = t.size := by rw [Array.length_toList]; rfl
    rw [e]
    simp only [List.length_nil]
    omega
theorem joinB_len (ts : List ByteArray) (h : ∀ t ∈ ts, t.size ≤ 70) : (Lib.join (ts.map (·.data.toList)) [44]).length ≤ 71 * ts.length := by
  cases ts with
  | nil => exact Nat.zero_le _
  | cons t r =>
    have h1 := h t (List.mem_cons_self ..)
    have h2 := tail_len r fun x hx => h x (List.mem_cons_of_mem _ hx)
    rw [List.map_cons, Lib.join_cons, List.length_append, List.length_cons]
    have e : t.data.toList.length = t.size := by rw [Array.length_toList]; rfl
    rw [e]; omega
theorem joinB_size (ts : List ByteArray) (h : ∀ t ∈ ts, t.size ≤ 70) : (joinB ts).size ≤ 71 * ts.length := by
  show (Lib.join (ts.map (·.data.toList)) [44]).toArray.size ≤ _
  rw [List.size_toArray]
  exact joinB_len ts h
/-- the texts of the first k items -/
def itTs (qs : List Q4) (k : Nat) : List ByteArray := (qs.take k).map itT
theorem itTs_step (qs : List Q4) (k : Nat) (h : k < qs.length) : itTs qs (k + 1) = itTs qs k ++ [itT (nthQ qs k)] := by
  unfold itTs nthQ
  have e : qs.take (k + 1) = qs.take k ++ [qs[k]] := by rw [List.take_add_one, List.getElem?_eq_getElem h]; rfl
  rw [e, List.map_append, List.getElem?_eq_getElem h]; rfl
theorem itTs_len (qs : List Q4) (k : Nat) (h : k ≤ qs.length) : (itTs qs k).length = k := by
  unfold itTs
  rw [List.length_map, List.length_take]; omega
theorem itTs_size (qs : List Q4) (hq : ∀ k, k < qs.length → Q4In (nthQ qs k)) (k : Nat) : ∀ t ∈ itTs qs k, t.size ≤ 70 := by
  intro t ht
  unfold itTs at ht
  obtain ⟨q, hm, rfl⟩ := List.mem_map.1 ht
  obtain ⟨j, hj, rfl⟩ := List.getElem_of_mem (List.mem_of_mem_take hm)
  have := hq j hj
  unfold nthQ at this
  rw [List.getElem?_eq_getElem hj] at this
  exact itT_size _ this
theorem info_str : (Tryd.prog.info? 9).map (fun i => (i.zero, i.size, i.bytes)) = some (some (.string ⟨#[]⟩), 1, 16) := by kernel_rfl
/-- an own list of texts -/
def OwnS (w : World) (base : Nat) (v : Value) (ts : List ByteArray) : Prop := w.ownsRow base 9 1 v ts.length (ts.map Value.string)
theorem OwnS.alloc {w : World} {base : Nat} {v : Value} {ts : List ByteArray} (h : OwnS w base v ts) (o : Obj) : OwnS (w.alloc o) base v ts := World.ownsRow.alloc h o
theorem OwnS.below {w w' : World} {base : Nat} {v : Value} {ts : List ByteArray} (h : OwnS w base v ts) (hb : Below w.heap.size w w') : OwnS w' base v ts := by
  obtain ⟨h1, h2⟩ := h
  refine ⟨h1, ?_⟩
  rcases h2 with h2 | ⟨g, cap, cur, hv, hg, hh, r⟩
  · exact .inl h2
  · exact .inr ⟨g, cap, cur, hv, hg, by rw [hb.block g (lt_of_block hh)]; exact hh, r⟩
theorem OwnS.snoc {w' : World} {base : Nat} {v' : Value} {ts : List ByteArray} {x : ByteArray} (h : w'.ownsRow base 9 1 v' (ts.length + 1) (ts.map Value.string ++ [.string x])) : OwnS w' base v' (ts ++ [x]) := by
  unfold OwnS
  rw [List.length_append, List.map_append]
  exact h
theorem ownS_block {w : World} {base : Nat} {v : Value} {ts : List ByteArray} (h : OwnS w base v ts) : ∀ k, v.ownBlock = some k → base ≤ k := fun k hk => (World.ownsRow.lt h k hk).1
theorem OwnS.cells {w : World} {base : Nat} {v : Value} {ts : List ByteArray} (h : OwnS w base v ts) : (ts = [] ∧ ∃ A c, v = .slice A 0 c) ∨ ∃ g c, v = .slice (some ⟨g, 0, none⟩) ts.length c ∧ g < w.heap.size ∧ ts.length ≤ c ∧ ∀ (j : Nat) x, ts[j]? = some x → w.cell? ⟨g, 0 + j, none⟩ = some (.string x) := by
  rcases h.2 with ⟨hv, hn⟩ | ⟨g, cap, cur, hv, hg, hh, hc, hm, hs, ht⟩
  · exact .inl ⟨List.eq_nil_of_length_eq_zero hn, none, 0, hv⟩
  · refine .inr ⟨g, cap, hv, lt_of_block hh, hc, fun j x hx => ?_⟩
    have hj : j < ts.length := (List.getElem?_eq_some_iff.1 hx).1
    rw [Nat.zero_add, blk_cell hh j]
    have h1 : (cur.toList.take (ts.length * 1))[j]? = (ts.map Value.string)[j]? := by rw [ht]
    rw [Nat.mul_one, List.getElem?_take_of_lt hj] at h1
    rw [← Array.getElem?_toList, h1, List.getElem?_map, hx]
    rfl
theorem joined_any (v : Value) (base : Nat) (ts : List ByteArray) (w : World) (h : OwnS w base v ts) (hn : ts.length ≤ 1000) (hz : ∀ t ∈ ts, t.size ≤ 70) :
    Calls Tryd.prog 14 #[.string ⟨#[44]⟩, v] w fun e w' => e = .returned (.string (joinB ts)) ∧ Below w.heap.size w w' := by
  rcases h.cells with ⟨rfl, A, c, rfl⟩ | ⟨g, c, rfl, hg, hc, hcells⟩
  · have K := Tryd.strings_Join_none A c ⟨#[44]⟩ w
    go_enter Tryd.func14, Tryd.ntmps14
    go_wp2_with fail
    refine K.mono ?_
    rintro e w1 ⟨rfl, rfl⟩
    go_wp2
    go_ret
    exact ⟨rfl, Below.refl _ _⟩
  · have hl := joinB_len ts hz
    have K := Tryd.strings_Join g 0 c ts ⟨#[44]⟩ w hcells hg (by omega) hc (show (Lib.join (ts.map (·.data.toList)) [44]).length ≤ 140737488355328 by omega)
    clear hl hcells hg hc hz hn h
    go_enter Tryd.func14, Tryd.ntmps14
    go_wp2_with fail
    refine K.mono ?_
    rintro e w1 ⟨rfl, hb⟩
    go_wp2
    go_ret
    exact ⟨rfl, hb⟩
end Go.Proofs.YtahlegempjlbbaaDoor
