/- Texts with a blank between each two, and five texts in an array (layer 26). -/
import Derived.Test.YtahlegempjlbbaaDoorCsE
namespace Go.Proofs.YtahlegempjlbbaaDoor
open Go.RowKit
set_option linter.unusedVariables false

/-- texts with a blank between each two -/
def joinW (ts : List ByteArray) : ByteArray := ⟨(Lib.join (ts.map (·.data.toList)) [32]).toArray⟩
theorem tail_snocW (r : List (List UInt8)) (x : List UInt8) : Lib.joinTail [32] (r ++ [x]) = Lib.joinTail [32] r ++ ([32] ++ x) := by
  unfold Lib.joinTail
  rw [List.map_append, List.flatten_append]
  simp
theorem joinW_nil : joinW [] = ⟨#[]⟩ := rfl
theorem joinW_one (t : ByteArray) : joinW [t] = t := by
  unfold joinW
  rw [List.map_cons, List.map_nil, Lib.join_one]
theorem joinW_snoc (ts : List ByteArray) (t : ByteArray) (h : ts ≠ []) : joinW (ts ++ [t]) = joinW ts ++ chr 32 ++ t := by
  cases ts with
  | nil => exact absurd rfl h
  | cons x r =>
    unfold joinW
    rw [List.cons_append, List.map_cons, List.map_append, List.map_cons, List.map_nil, Lib.join_cons, tail_snocW, List.map_cons, Lib.join_cons]
    apply ByteArray.ext
    simp [chr]
theorem tail_lenW (r : List ByteArray) (h : ∀ t ∈ r, t.size ≤ 80000) : (Lib.joinTail [32] (r.map (·.data.toList))).length ≤ 80001 * r.length := by
  induction r with
  | nil => exact Nat.zero_le _
  | cons t r ih =>
    have h1 := h t (List.mem_cons_self ..)
    have h2 := ih fun x hx => h x (List.mem_cons_of_mem _ hx)
    unfold Lib.joinTail at h2 ⊢
    rw [List.map_cons, List.map_cons, List.flatten_cons, List.length_append, List.length_append, List.length_cons, List.length_cons]
    have e : t.data.toList.length = t.size := by rw [Array.length_toList]; rfl
    rw [e]
    simp only [List.length_nil]
    omega
theorem joinW_len (ts : List ByteArray) (h : ∀ t ∈ ts, t.size ≤ 80000) : (Lib.join (ts.map (·.data.toList)) [32]).length ≤ 80001 * ts.length := by
  cases ts with
  | nil => exact Nat.zero_le _
  | cons t r =>
    have h1 := h t (List.mem_cons_self ..)
    have h2 := tail_lenW r fun x hx => h x (List.mem_cons_of_mem _ hx)
    rw [List.map_cons, Lib.join_cons, List.length_append, List.length_cons]
    have e : t.data.toList.length = t.size := by rw [Array.length_toList]; rfl
    rw [e]; omega
theorem joinW_size (ts : List ByteArray) (h : ∀ t ∈ ts, t.size ≤ 80000) : (joinW ts).size ≤ 80001 * ts.length := by
  show (Lib.join (ts.map (·.data.toList)) [32]).toArray.size ≤ _
  rw [List.size_toArray]
  exact joinW_len ts h
/-- a field's text -/
def shT (L : Nat → List Q4) (f : Nat) : ByteArray := joinB (itTs (L f) (L f).length)
theorem shT_size (L : Nat → List Q4) (f : Nat) (hl : (L f).length ≤ 1000) (hin : ∀ k, k < (L f).length → Q4In (nthQ (L f) k)) : (shT L f).size ≤ 80000 := by
  have h := joinB_size (itTs (L f) (L f).length) (itTs_size (L f) hin _)
  rw [itTs_len (L f) _ (Nat.le_refl _)] at h
  unfold shT; omega
/-- the texts of the fields below k -/
def shTs (L : Nat → List Q4) (k : Nat) : List ByteArray := (List.range k).map (shT L)
theorem shTs_step (L : Nat → List Q4) (k : Nat) : shTs L (k + 1) = shTs L k ++ [shT L k] := by
  unfold shTs; rw [List.range_succ, List.map_append]; rfl
theorem shTs_len (L : Nat → List Q4) (k : Nat) : (shTs L k).length = k := by simp [shTs]
theorem shTs_size (L : Nat → List Q4) (hl : ∀ f, f < 5 → (L f).length ≤ 1000) (hin : ∀ f, f < 5 → ∀ k, k < (L f).length → Q4In (nthQ (L f) k)) (k : Nat) (hk : k ≤ 5) : ∀ t ∈ shTs L k, t.size ≤ 80000 := by
  intro t ht
  unfold shTs at ht
  obtain ⟨f, hf, rfl⟩ := List.mem_map.1 ht
  have hf5 : f < 5 := by have := List.mem_range.1 hf; omega
  exact shT_size L f (hl f hf5) (hin f hf5)
/-- an array's cells, k of five texts told -/
def shC (T : Nat → ByteArray) (k : Nat) : Array Value := #[.string (if 0 < k then T 0 else ⟨#[]⟩), .string (if 1 < k then T 1 else ⟨#[]⟩), .string (if 2 < k then T 2 else ⟨#[]⟩), .string (if 3 < k then T 3 else ⟨#[]⟩), .string (if 4 < k then T 4 else ⟨#[]⟩)]
theorem shC_put (T : Nat → ByteArray) (k : Nat) (h : k < 5) : (shC T k).setIfInBounds k (.string (T k)) = shC T (k + 1) := by
  match k, h with
  | 0, _ => rfl
  | 1, _ => rfl
  | 2, _ => rfl
  | 3, _ => rfl
  | 4, _ => rfl
theorem shC_get (T : Nat → ByteArray) (k : Nat) (h : k < 5) : ∃ v, (shC T k)[k]? = some v := by
  match k, h with
  | 0, _ => exact ⟨_, rfl⟩
  | 1, _ => exact ⟨_, rfl⟩
  | 2, _ => exact ⟨_, rfl⟩
  | 3, _ => exact ⟨_, rfl⟩
  | 4, _ => exact ⟨_, rfl⟩
theorem joinedW_any (L : Nat → List Q4) (g : Nat) (w : World) {ty : TypeId} (h : w.heap[g]? = some (.cells (shC (shT L) 5) ty (0, 0))) (hz : ∀ t ∈ shTs L 5, t.size ≤ 80000) :
    Calls Tryd.prog 14 #[.string ⟨#[32]⟩, .slice (some ⟨g, 0, none⟩) 5 5] w fun e w' => e = .returned (.string (joinW (shTs L 5))) ∧ Below w.heap.size w w' := by
  have hl := joinW_len (shTs L 5) hz
  rw [shTs_len] at hl
  have K : Calls Tryd.prog 21 #[.slice (some ⟨g, 0, none⟩) 5 5, .string ⟨#[32]⟩] w fun e w' => e = .returned (.string (joinW (shTs L 5))) ∧ Below w.heap.size w w' := Tryd.strings_Join g 0 5 (shTs L 5) ⟨#[32]⟩ w (fun j x hx => by
      rw [Nat.zero_add, blk_cell h j]
      have hj : j < 5 := by have := (List.getElem?_eq_some_iff.1 hx).1; rwa [shTs_len] at this
      match j, hj with
      | 0, _ => cases hx; rfl
      | 1, _ => cases hx; rfl
      | 2, _ => cases hx; rfl
      | 3, _ => cases hx; rfl
      | 4, _ => cases hx; rfl) (lt_of_block h) (show 5 ≤ 140737488355328 by omega) (Nat.le_refl _) (show (Lib.join ((shTs L 5).map (·.data.toList)) [32]).length ≤ 140737488355328 by omega)
  clear hl hz h
  go_enter Tryd.func14, Tryd.ntmps14
  go_wp2_with fail
  refine K.mono ?_
  rintro e w1 ⟨rfl, hb⟩
  go_wp2
  go_ret
  exact ⟨rfl, hb⟩
end Go.Proofs.YtahlegempjlbbaaDoor
