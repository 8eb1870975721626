/-
  No cell of these rows narrows 'for every input' (looked for: loops, veiled, ifaces, maps, wideKeys, modest, calm, conditions, laid).
  DERIVED. THE GIVEN ROWS OF THIS SEAT. 2 by the template 'for every input the law returns true; each argument reads behind the call as it read before'; 0 by the template 'total and deterministic' (their statements: YtjlieamjlelipaaTotals.lean).
  GIVEN WITH THE SEED: the statements are not yours to turn. If you find one false, say at which input.
  Laid BY PROGRAM, IN A SANDBOX (cutbox-rows.mjs): the forced cells as the released guide's own fill.sh prints them over the translation a1d3b3690cbcffa6… (all of the seat's roots in one cut). By AI agents, Wed Nov 11 2026. No macro, syntax, notation, axiom, sorry.
-/
import Derived.Test.YtjlieamjlelipaaChecked
import GoSem.Claim
import GoSem.ClaimJoined
import GoSem.ClaimMapViews
import Derived.JoinedTies
import Derived.KernelRfl
namespace Go.Proofs.Ytjlieamjlelipaa
/- THE CELL 'sum', in the pinned program and in every row, IS THE sha256 OF THE DUMP (.gsa) THAT YtjlieamjlelipaaProg.lean LOADS. Nothing in Lean hashes anything: it is a label: what it is worth is what the hold of that sum in a sandbox is worth. -/
noncomputable def Try.pinned : Pinned := { name := "ytjlieamjlelipaa", sum := "a1d3b3690cbcffa6dcbe7264c794e37cba01d7beccd6cde8f0aa3f046cc6eada", checked := Try.checked }
namespace Rows
def none {H : Type} : Left H := { results := [], args := [] }

/-- 'ferialaw03.CoverList': WHATEVER THE INPUT: true; the input reads as it did. -/
def coverListSpec : ChangeSpec := { name := "coverList", fn := fun _ => fun
  | [d] => { results := [.lit (.bool true)], args := [d] }
  | _ => none }
def coverListRow : OpenClaim := { program := "ytjlieamjlelipaa", sum := "a1d3b3690cbcffa6dcbe7264c794e37cba01d7beccd6cde8f0aa3f046cc6eada", func := "feria/ferialaw03.CoverList", spec := "coverList", apart := false }
def CoverListSaid : Prop := coverListRow.holds Try.pinned (OpenSpec.ofChange coverListSpec)

/-- ITS FALSE NEIGHBOUR: 'it returns false'. Refute it at one input. -/
def coverListWrong : ChangeSpec := { name := "coverList", fn := fun _ => fun
  | [d] => { results := [.lit (.bool false)], args := [d] }
  | _ => none }
def CoverListWrongFalsely : Prop := coverListRow.holds Try.pinned (OpenSpec.ofChange coverListWrong)

/-- 'ferialaw03.CoverBack': WHATEVER THE INPUT: true; the input reads as it did. -/
def coverBackSpec : ChangeSpec := { name := "coverBack", fn := fun _ => fun
  | [d] => { results := [.lit (.bool true)], args := [d] }
  | _ => none }
def coverBackRow : OpenClaim := { program := "ytjlieamjlelipaa", sum := "a1d3b3690cbcffa6dcbe7264c794e37cba01d7beccd6cde8f0aa3f046cc6eada", func := "feria/ferialaw03.CoverBack", spec := "coverBack", apart := false }
def CoverBackSaid : Prop := coverBackRow.holds Try.pinned (OpenSpec.ofChange coverBackSpec)

/-- ITS FALSE NEIGHBOUR: 'it returns false'. Refute it at one input. -/
def coverBackWrong : ChangeSpec := { name := "coverBack", fn := fun _ => fun
  | [d] => { results := [.lit (.bool false)], args := [d] }
  | _ => none }
def CoverBackWrongFalsely : Prop := coverBackRow.holds Try.pinned (OpenSpec.ofChange coverBackWrong)

/- THE SECOND FORM. 'bulk': how many values and letters a reading holds, each counted each time it is reached (what is shared counts as often as it is met; a slice's spare places count too). A statement '..UptoSaid' is the law's where the arguments, and the package variables that the reading takes, are together of bulk at most 1048576: NARROWER than '..Said'. Prove '..Said' where nothing that the law and all that it calls make is longer than what came in: it says more and counts as full. Else prove '..UptoSaid'. A law counts once. -/
mutual
def uptoBulk {H : Type} : DataW H → Nat
  | .lit (.string bytes) => bytes.length + 1
  | .lit _ => 1
  | .nil => 1
  | .ptr d => uptoBulk d + 1
  | .slice elems spare => uptoBulkAll elems + uptoBulkAll spare + 1
  | .agg parts => uptoBulkAll parts + 1
  | .iface _ d => uptoBulk d + 1
  | .map entries => uptoBulkEntries entries + 1
  | .held _ => 1
def uptoBulkAll {H : Type} : List (DataW H) → Nat
  | [] => 0
  | d :: r => uptoBulk d + uptoBulkAll r
def uptoBulkEntries {H : Type} : List (Lit × DataW H) → Nat
  | [] => 0
  | x :: r => uptoBulkEntry x + uptoBulkEntries r
def uptoBulkEntry {H : Type} : Lit × DataW H → Nat
  | (.string bytes, d) => bytes.length + uptoBulk d + 1
  | (_, d) => uptoBulk d + 1
 end
def uptoSmall : (H : Type) → List (DataW H) → Bool := fun _ ds => decide (uptoBulkAll ds ≤ 1048576)
def OpenSpec.upto (s : _root_.Go.ChangeSpec) : _root_.Go.OpenSpec := { _root_.Go.OpenSpec.ofChange s with cond := some uptoSmall }

/-- 'ferialaw03.CoverList', WHERE WHAT IT READS IS OF BULK AT MOST 1048576: true; the input reads as it did. -/
def coverListUptoRow : OpenClaim := { program := "ytjlieamjlelipaa", sum := "a1d3b3690cbcffa6dcbe7264c794e37cba01d7beccd6cde8f0aa3f046cc6eada", func := "feria/ferialaw03.CoverList", spec := "coverList", apart := false, narrowed := true }
def CoverListUptoSaid : Prop := coverListUptoRow.holds Try.pinned (OpenSpec.upto coverListSpec)

/-- 'ferialaw03.CoverBack', WHERE WHAT IT READS IS OF BULK AT MOST 1048576: true; the input reads as it did. -/
def coverBackUptoRow : OpenClaim := { program := "ytjlieamjlelipaa", sum := "a1d3b3690cbcffa6dcbe7264c794e37cba01d7beccd6cde8f0aa3f046cc6eada", func := "feria/ferialaw03.CoverBack", spec := "coverBack", apart := false, narrowed := true }
def CoverBackUptoSaid : Prop := coverBackUptoRow.holds Try.pinned (OpenSpec.upto coverBackSpec)

end Rows
end Go.Proofs.Ytjlieamjlelipaa
