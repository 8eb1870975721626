/- Contract of the document's Of over numbers that rise (layer 3), and a step law for an append to a row of the call's own in a region. -/
import Derived.Test.YtjlieamjlelipaaDoorCvS
import Derived.Deep.RegionLaw
import Derived.Laws.AppendOwn
namespace Go

theorem step_append_own' {P : Program} {ops : Array Oper} {o : Oper} {a : Act} {w : World} {K : Act → World → Prop} {Q : Exit → Act → World → Prop} {E : Prop}
    (hg : o.guard = none) (s x : Operand) (t : TypeId) (hop : o.op = Op.call { callee := Callee.builtin Builtin.append, args := #[s, x], argTypes := #[t, t] })
    (base : Nat) (e : TypeId) (i : TypeInfo) (z : Value) (size bytes : Nat) (h1 : P.underlying t = some (.slice e)) (h2 : P.info? e = some i) (h3 : i.zero = some z) (h4 : i.size = size) (h5 : i.bytes = bytes) (h6 : z.cells.size = size) (h7 : 0 < size)
    (v : Value) (n : Nat) (xs : List Value) (hs : a.eval s = v) (hown : w.ownsRow base e size v n xs)
    (ad : Addr) (m c : Nat) (news : List Value) (hx : a.eval x = .slice (some ad) m c) (hn : news.length = m * size) (hc : ∀ j u, news[j]? = some u → w.cell? (ad.add j) = some u) (h1c : ∀ u ∈ news, u.oneCell' = true)
    (b1 : n + m ≤ maxLen) (b2 : (n + m) * bytes ≤ 140737488355328) (hbase : base ≤ w.heap.size)
    (hK : ∀ v' w', w'.ownsRow base e size v' (n + m) (xs ++ news) → w.grownBy w' v.ownBlock → K (a.put o.dst v') w') :
    if Region.wanted o (yielded ops a.tmps) = true then Oper.wp P o a w K Q else E := by
  have hw : Region.wanted o (yielded ops a.tmps) = true := by simp [Region.wanted, hg]
  rw [if_pos hw]
  obtain ⟨v', w', hrun, r1, r2, _⟩ := run_append_own (P := P) w base t o.type e i z size bytes h1 h2 h3 h4 h5 h6 h7 v n xs hown ad m c news hn hc h1c b1 b2 hbase
  unfold Oper.wp
  simp [execOp, hop, resolve, invoke, builtin, hs, hx, hrun, Result.andThen]
  exact hK v' w' r1 r2
end Go
namespace Go.Proofs.YtjlieamjlelipaaDoor
open Go.RowKit
set_option linter.unusedVariables false

def ROfAt (zs : List Int) (w : World) (v i : Value) (wr : World) : Prop := ∃ (p : Nat) (ps : List P3), p ≤ zs.length ∧ i = .int .i64 p ∧ ps.length ≤ p ∧ pieces zs = ps ++ pieces (zs.drop p) ∧ OwnR wr w.heap.size v ps ∧ Below w.heap.size w wr
/-- how far the inner loop has gone: the first j + 1 numbers are a step apart -/
def RInAt (zs : List Int) (p : Nat) (w : World) (k : Value) (wr : World) : Prop := ∃ j : Nat, p + j < zs.length ∧ k = .int .i64 ((p + j : Nat) : Int) ∧
  (1 ≤ j → extN (zs.drop p) (stepOf (zs.drop p)) (j + 1) (zs.length - p - (j + 1)) = extN (zs.drop p) (stepOf (zs.drop p)) 2 (zs.length - p - 2)) ∧ Quiet w wr
/-- the end of one round: the piece that is appended -/
def PieceIs (zs : List Int) (p k : Nat) (st : Int) : Prop := p ≤ k ∧ k < zs.length ∧ runN (zs.drop p) = k + 1 - p ∧ pieceOf ((zs.drop p).take (runN (zs.drop p))) = (zs[p]?.getD 0, zs[k]?.getD 0, st)
theorem piece_next (zs : List Int) (p k : Nat) (st : Int) (ps : List P3) (h : PieceIs zs p k st) (hp : pieces zs = ps ++ pieces (zs.drop p)) : pieces zs = (ps ++ [(zs[p]?.getD 0, zs[k]?.getD 0, st)]) ++ pieces (zs.drop (k + 1)) := by
  obtain ⟨h1, h2, h3, h4⟩ := h
  rw [hp, pieces_step (zs.drop p) (by rw [List.length_drop]; omega), h4, List.drop_drop, h3, show p + (k + 1 - p) = k + 1 by omega]
  simp
end Go.Proofs.YtjlieamjlelipaaDoor
