/-
  No cell of these rows narrows 'for every input' (looked for: loops, veiled, ifaces, maps, wideKeys, modest, calm, conditions, laid).
  DERIVED. THE GIVEN ROWS OF THIS SEAT. 4 by the template 'for every input the law returns true; each argument reads behind the call as it read before'; 0 by the template 'total and deterministic' (their statements: YtjhaekbehnkecaaTotals.lean).
  GIVEN WITH THE SEED: the statements are not yours to turn. If you find one false, say at which input.
  Laid BY PROGRAM, IN A SANDBOX (cutbox-rows.mjs): the forced cells as the released guide's own fill.sh prints them over the translation 3bad8ddb59a9578c… (all of the seat's roots in one cut). By AI agents, Wed Nov 11 2026. No macro, syntax, notation, axiom, sorry.
-/
import Derived.Test.YtjhaekbehnkecaaChecked
import GoSem.Claim
import GoSem.ClaimJoined
import GoSem.ClaimMapViews
import Derived.JoinedTies
import Derived.KernelRfl
namespace Go.Proofs.Ytjhaekbehnkecaa
/- THE CELL 'sum', in the pinned program and in every row, IS THE sha256 OF THE DUMP (.gsa) THAT YtjhaekbehnkecaaProg.lean LOADS. Nothing in Lean hashes anything: it is a label: what it is worth is what the hold of that sum in a sandbox is worth. -/
noncomputable def Try.pinned : Pinned := { name := "ytjhaekbehnkecaa", sum := "3bad8ddb59a9578c2d421504028a1d1301f9485a014a1c5600fe8358b34843c7", checked := Try.checked }
namespace Rows
def none {H : Type} : Left H := { results := [], args := [] }

/-- 'ferialaw06.WeekShapes': WHATEVER THE INPUT: true; the input reads as it did. -/
def weekShapesSpec : ChangeSpec := { name := "weekShapes", fn := fun _ => fun
  | [d1, d2, d3] => { results := [.lit (.bool true)], args := [d1, d2, d3] }
  | _ => none }
def weekShapesRow : OpenClaim := { program := "ytjhaekbehnkecaa", sum := "3bad8ddb59a9578c2d421504028a1d1301f9485a014a1c5600fe8358b34843c7", func := "feria/ferialaw06.WeekShapes", spec := "weekShapes", unfollowed := true, recurses := true, apart := false }
def WeekShapesSaid : Prop := weekShapesRow.holds Try.pinned (OpenSpec.ofChange weekShapesSpec)

/-- ITS FALSE NEIGHBOUR: 'it returns false'. Refute it at one input. -/
def weekShapesWrong : ChangeSpec := { name := "weekShapes", fn := fun _ => fun
  | [d1, d2, d3] => { results := [.lit (.bool false)], args := [d1, d2, d3] }
  | _ => none }
def WeekShapesWrongFalsely : Prop := weekShapesRow.holds Try.pinned (OpenSpec.ofChange weekShapesWrong)

/-- 'ferialaw08.MomentStamps': WHATEVER THE INPUT: true; the input reads as it did. -/
def momentStampsSpec : ChangeSpec := { name := "momentStamps", fn := fun _ => fun
  | [d1, d2] => { results := [.lit (.bool true)], args := [d1, d2] }
  | _ => none }
def momentStampsRow : OpenClaim := { program := "ytjhaekbehnkecaa", sum := "3bad8ddb59a9578c2d421504028a1d1301f9485a014a1c5600fe8358b34843c7", func := "feria/ferialaw08.MomentStamps", spec := "momentStamps", unfollowed := true, recurses := true, apart := false }
def MomentStampsSaid : Prop := momentStampsRow.holds Try.pinned (OpenSpec.ofChange momentStampsSpec)

/-- ITS FALSE NEIGHBOUR: 'it returns false'. Refute it at one input. -/
def momentStampsWrong : ChangeSpec := { name := "momentStamps", fn := fun _ => fun
  | [d1, d2] => { results := [.lit (.bool false)], args := [d1, d2] }
  | _ => none }
def MomentStampsWrongFalsely : Prop := momentStampsRow.holds Try.pinned (OpenSpec.ofChange momentStampsWrong)

/-- 'ferialaw08.MomentReads': WHATEVER THE INPUT: true; the input reads as it did. -/
def momentReadsSpec : ChangeSpec := { name := "momentReads", fn := fun _ => fun
  | [d] => { results := [.lit (.bool true)], args := [d] }
  | _ => none }
def momentReadsRow : OpenClaim := { program := "ytjhaekbehnkecaa", sum := "3bad8ddb59a9578c2d421504028a1d1301f9485a014a1c5600fe8358b34843c7", func := "feria/ferialaw08.MomentReads", spec := "momentReads", unfollowed := true, recurses := true, apart := false }
def MomentReadsSaid : Prop := momentReadsRow.holds Try.pinned (OpenSpec.ofChange momentReadsSpec)

/-- ITS FALSE NEIGHBOUR: 'it returns false'. Refute it at one input. -/
def momentReadsWrong : ChangeSpec := { name := "momentReads", fn := fun _ => fun
  | [d] => { results := [.lit (.bool false)], args := [d] }
  | _ => none }
def MomentReadsWrongFalsely : Prop := momentReadsRow.holds Try.pinned (OpenSpec.ofChange momentReadsWrong)

/-- 'ferialaw08.MomentBack': WHATEVER THE INPUT: true; the input reads as it did. -/
def momentBackSpec : ChangeSpec := { name := "momentBack", fn := fun _ => fun
  | [d1, d2] => { results := [.lit (.bool true)], args := [d1, d2] }
  | _ => none }
def momentBackRow : OpenClaim := { program := "ytjhaekbehnkecaa", sum := "3bad8ddb59a9578c2d421504028a1d1301f9485a014a1c5600fe8358b34843c7", func := "feria/ferialaw08.MomentBack", spec := "momentBack", unfollowed := true, recurses := true, apart := false }
def MomentBackSaid : Prop := momentBackRow.holds Try.pinned (OpenSpec.ofChange momentBackSpec)

/-- ITS FALSE NEIGHBOUR: 'it returns false'. Refute it at one input. -/
def momentBackWrong : ChangeSpec := { name := "momentBack", fn := fun _ => fun
  | [d1, d2] => { results := [.lit (.bool false)], args := [d1, d2] }
  | _ => none }
def MomentBackWrongFalsely : Prop := momentBackRow.holds Try.pinned (OpenSpec.ofChange momentBackWrong)

/- THE SECOND FORM. 'bulk': how many values and letters a reading holds, each counted each time it is reached (what is shared counts as often as it is met; a slice's spare places count too). A statement '..UptoSaid' is the law's where the arguments, and the package variables that the reading takes, are together of bulk at most 1048576: NARROWER than '..Said'. Prove '..Said' where nothing that the law and all that it calls make is longer than what came in: it says more and counts as full. Else prove '..UptoSaid'. A law counts once. -/
mutual
def uptoBulk {H : Type} : DataW H → Nat
  | .lit (.string bytes) => bytes.length + 1
  | .lit _ => 1
  | .nil => 1
  | .ptr d => uptoBulk d + 1
  | .slice elems spare => uptoBulkAll elems + uptoBulkAll spare + 1
  | .agg parts => uptoBulkAll parts + 1
  | .iface _ d => uptoBulk d + 1
  | .map entries => uptoBulkEntries entries + 1
  | .held _ => 1
def uptoBulkAll {H : Type} : List (DataW H) → Nat
  | [] => 0
  | d :: r => uptoBulk d + uptoBulkAll r
def uptoBulkEntries {H : Type} : List (Lit × DataW H) → Nat
  | [] => 0
  | x :: r => uptoBulkEntry x + uptoBulkEntries r
def uptoBulkEntry {H : Type} : Lit × DataW H → Nat
  | (.string bytes, d) => bytes.length + uptoBulk d + 1
  | (_, d) => uptoBulk d + 1
 end
def uptoSmall : (H : Type) → List (DataW H) → Bool := fun _ ds => decide (uptoBulkAll ds ≤ 1048576)
def OpenSpec.upto (s : _root_.Go.ChangeSpec) : _root_.Go.OpenSpec := { _root_.Go.OpenSpec.ofChange s with cond := some uptoSmall }

/-- 'ferialaw06.WeekShapes', WHERE WHAT IT READS IS OF BULK AT MOST 1048576: true; the input reads as it did. -/
def weekShapesUptoRow : OpenClaim := { program := "ytjhaekbehnkecaa", sum := "3bad8ddb59a9578c2d421504028a1d1301f9485a014a1c5600fe8358b34843c7", func := "feria/ferialaw06.WeekShapes", spec := "weekShapes", unfollowed := true, recurses := true, apart := false, narrowed := true }
def WeekShapesUptoSaid : Prop := weekShapesUptoRow.holds Try.pinned (OpenSpec.upto weekShapesSpec)

/-- 'ferialaw08.MomentStamps', WHERE WHAT IT READS IS OF BULK AT MOST 1048576: true; the input reads as it did. -/
def momentStampsUptoRow : OpenClaim := { program := "ytjhaekbehnkecaa", sum := "3bad8ddb59a9578c2d421504028a1d1301f9485a014a1c5600fe8358b34843c7", func := "feria/ferialaw08.MomentStamps", spec := "momentStamps", unfollowed := true, recurses := true, apart := false, narrowed := true }
def MomentStampsUptoSaid : Prop := momentStampsUptoRow.holds Try.pinned (OpenSpec.upto momentStampsSpec)

/-- 'ferialaw08.MomentReads', WHERE WHAT IT READS IS OF BULK AT MOST 1048576: true; the input reads as it did. -/
def momentReadsUptoRow : OpenClaim := { program := "ytjhaekbehnkecaa", sum := "3bad8ddb59a9578c2d421504028a1d1301f9485a014a1c5600fe8358b34843c7", func := "feria/ferialaw08.MomentReads", spec := "momentReads", unfollowed := true, recurses := true, apart := false, narrowed := true }
def MomentReadsUptoSaid : Prop := momentReadsUptoRow.holds Try.pinned (OpenSpec.upto momentReadsSpec)

/-- 'ferialaw08.MomentBack', WHERE WHAT IT READS IS OF BULK AT MOST 1048576: true; the input reads as it did. -/
def momentBackUptoRow : OpenClaim := { program := "ytjhaekbehnkecaa", sum := "3bad8ddb59a9578c2d421504028a1d1301f9485a014a1c5600fe8358b34843c7", func := "feria/ferialaw08.MomentBack", spec := "momentBack", unfollowed := true, recurses := true, apart := false, narrowed := true }
def MomentBackUptoSaid : Prop := momentBackUptoRow.holds Try.pinned (OpenSpec.upto momentBackSpec)

end Rows
end Go.Proofs.Ytjhaekbehnkecaa
