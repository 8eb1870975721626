/-
  No cell of these rows narrows 'for every input' (looked for: loops, veiled, ifaces, maps, wideKeys, modest, calm, conditions, laid).
  DERIVED. THE GIVEN ROWS OF THIS SEAT. 5 by the template 'for every input the law returns true; each argument reads behind the call as it read before'; 0 by the template 'total and deterministic' (their statements: YtknomegdfaicnaaTotals.lean).
  GIVEN WITH THE SEED: the statements are not yours to turn. If you find one false, say at which input.
  Laid BY PROGRAM, IN A SANDBOX (cutbox-rows.mjs): the forced cells as the released guide's own fill.sh prints them over the translation 2a4e2db7a27558e6… (all of the seat's roots in one cut). By AI agents, Wed Nov 11 2026. No macro, syntax, notation, axiom, sorry.
-/
import Derived.Test.YtknomegdfaicnaaChecked
import GoSem.Claim
import GoSem.ClaimJoined
import GoSem.ClaimMapViews
import Derived.JoinedTies
import Derived.KernelRfl
namespace Go.Proofs.Ytknomegdfaicnaa
/- THE CELL 'sum', in the pinned program and in every row, IS THE sha256 OF THE DUMP (.gsa) THAT YtknomegdfaicnaaProg.lean LOADS. Nothing in Lean hashes anything: it is a label: what it is worth is what the hold of that sum in a sandbox is worth. -/
noncomputable def Try.pinned : Pinned := { name := "ytknomegdfaicnaa", sum := "2a4e2db7a27558e6b170abe77aa3abd4e4e92846079f9d530817c983ec4126da", checked := Try.checked }
namespace Rows
def none {H : Type} : Left H := { results := [], args := [] }

/-- 'ferialaw06.WeekShapes': WHATEVER THE INPUT: true; the input reads as it did. -/
def weekShapesSpec : ChangeSpec := { name := "weekShapes", fn := fun _ => fun
  | [d1, d2, d3] => { results := [.lit (.bool true)], args := [d1, d2, d3] }
  | _ => none }
def weekShapesRow : OpenClaim := { program := "ytknomegdfaicnaa", sum := "2a4e2db7a27558e6b170abe77aa3abd4e4e92846079f9d530817c983ec4126da", func := "feria/ferialaw06.WeekShapes", spec := "weekShapes", unfollowed := true, recurses := true, apart := false }
def WeekShapesSaid : Prop := weekShapesRow.holds Try.pinned (OpenSpec.ofChange weekShapesSpec)

/-- ITS FALSE NEIGHBOUR: 'it returns false'. Refute it at one input. -/
def weekShapesWrong : ChangeSpec := { name := "weekShapes", fn := fun _ => fun
  | [d1, d2, d3] => { results := [.lit (.bool false)], args := [d1, d2, d3] }
  | _ => none }
def WeekShapesWrongFalsely : Prop := weekShapesRow.holds Try.pinned (OpenSpec.ofChange weekShapesWrong)

/-- 'ferialaw08.MomentReads': WHATEVER THE INPUT: true; the input reads as it did. -/
def momentReadsSpec : ChangeSpec := { name := "momentReads", fn := fun _ => fun
  | [d] => { results := [.lit (.bool true)], args := [d] }
  | _ => none }
def momentReadsRow : OpenClaim := { program := "ytknomegdfaicnaa", sum := "2a4e2db7a27558e6b170abe77aa3abd4e4e92846079f9d530817c983ec4126da", func := "feria/ferialaw08.MomentReads", spec := "momentReads", unfollowed := true, recurses := true, apart := false }
def MomentReadsSaid : Prop := momentReadsRow.holds Try.pinned (OpenSpec.ofChange momentReadsSpec)

/-- ITS FALSE NEIGHBOUR: 'it returns false'. Refute it at one input. -/
def momentReadsWrong : ChangeSpec := { name := "momentReads", fn := fun _ => fun
  | [d] => { results := [.lit (.bool false)], args := [d] }
  | _ => none }
def MomentReadsWrongFalsely : Prop := momentReadsRow.holds Try.pinned (OpenSpec.ofChange momentReadsWrong)

/-- 'ferialaw08.MomentBack': WHATEVER THE INPUT: true; the input reads as it did. -/
def momentBackSpec : ChangeSpec := { name := "momentBack", fn := fun _ => fun
  | [d1, d2] => { results := [.lit (.bool true)], args := [d1, d2] }
  | _ => none }
def momentBackRow : OpenClaim := { program := "ytknomegdfaicnaa", sum := "2a4e2db7a27558e6b170abe77aa3abd4e4e92846079f9d530817c983ec4126da", func := "feria/ferialaw08.MomentBack", spec := "momentBack", unfollowed := true, recurses := true, apart := false }
def MomentBackSaid : Prop := momentBackRow.holds Try.pinned (OpenSpec.ofChange momentBackSpec)

/-- ITS FALSE NEIGHBOUR: 'it returns false'. Refute it at one input. -/
def momentBackWrong : ChangeSpec := { name := "momentBack", fn := fun _ => fun
  | [d1, d2] => { results := [.lit (.bool false)], args := [d1, d2] }
  | _ => none }
def MomentBackWrongFalsely : Prop := momentBackRow.holds Try.pinned (OpenSpec.ofChange momentBackWrong)

/-- 'ferialaw11.LexNone': WHATEVER THE INPUT: true; the input reads as it did. -/
def lexNoneSpec : ChangeSpec := { name := "lexNone", fn := fun _ => fun
  | [d] => { results := [.lit (.bool true)], args := [d] }
  | _ => none }
def lexNoneRow : OpenClaim := { program := "ytknomegdfaicnaa", sum := "2a4e2db7a27558e6b170abe77aa3abd4e4e92846079f9d530817c983ec4126da", func := "feria/ferialaw11.LexNone", spec := "lexNone", unfollowed := true, recurses := true, apart := false }
def LexNoneSaid : Prop := lexNoneRow.holds Try.pinned (OpenSpec.ofChange lexNoneSpec)

/-- ITS FALSE NEIGHBOUR: 'it returns false'. Refute it at one input. -/
def lexNoneWrong : ChangeSpec := { name := "lexNone", fn := fun _ => fun
  | [d] => { results := [.lit (.bool false)], args := [d] }
  | _ => none }
def LexNoneWrongFalsely : Prop := lexNoneRow.holds Try.pinned (OpenSpec.ofChange lexNoneWrong)

/-- 'ferialaw11.LexTakes': WHATEVER THE INPUT: true; the input reads as it did. -/
def lexTakesSpec : ChangeSpec := { name := "lexTakes", fn := fun _ => fun
  | [d] => { results := [.lit (.bool true)], args := [d] }
  | _ => none }
def lexTakesRow : OpenClaim := { program := "ytknomegdfaicnaa", sum := "2a4e2db7a27558e6b170abe77aa3abd4e4e92846079f9d530817c983ec4126da", func := "feria/ferialaw11.LexTakes", spec := "lexTakes", unfollowed := true, recurses := true, apart := false }
def LexTakesSaid : Prop := lexTakesRow.holds Try.pinned (OpenSpec.ofChange lexTakesSpec)

/-- ITS FALSE NEIGHBOUR: 'it returns false'. Refute it at one input. -/
def lexTakesWrong : ChangeSpec := { name := "lexTakes", fn := fun _ => fun
  | [d] => { results := [.lit (.bool false)], args := [d] }
  | _ => none }
def LexTakesWrongFalsely : Prop := lexTakesRow.holds Try.pinned (OpenSpec.ofChange lexTakesWrong)

/- THE SECOND FORM. 'bulk': how many values and letters a reading holds, each counted each time it is reached (what is shared counts as often as it is met; a slice's spare places count too). A statement '..UptoSaid' is the law's where the arguments, and the package variables that the reading takes, are together of bulk at most 1048576: NARROWER than '..Said'. Prove '..Said' where nothing that the law and all that it calls make is longer than what came in: it says more and counts as full. Else prove '..UptoSaid'. A law counts once. -/
mutual
def uptoBulk {H : Type} : DataW H → Nat
  | .lit (.string bytes) => bytes.length + 1
  | .lit _ => 1
  | .nil => 1
  | .ptr d => uptoBulk d + 1
  | .slice elems spare => uptoBulkAll elems + uptoBulkAll spare + 1
  | .agg parts => uptoBulkAll parts + 1
  | .iface _ d => uptoBulk d + 1
  | .map entries => uptoBulkEntries entries + 1
  | .held _ => 1
def uptoBulkAll {H : Type} : List (DataW H) → Nat
  | [] => 0
  | d :: r => uptoBulk d + uptoBulkAll r
def uptoBulkEntries {H : Type} : List (Lit × DataW H) → Nat
  | [] => 0
  | x :: r => uptoBulkEntry x + uptoBulkEntries r
def uptoBulkEntry {H : Type} : Lit × DataW H → Nat
  | (.string bytes, d) => bytes.length + uptoBulk d + 1
  | (_, d) => uptoBulk d + 1
 end
def uptoSmall : (H : Type) → List (DataW H) → Bool := fun _ ds => decide (uptoBulkAll ds ≤ 1048576)
def OpenSpec.upto (s : _root_.Go.ChangeSpec) : _root_.Go.OpenSpec := { _root_.Go.OpenSpec.ofChange s with cond := some uptoSmall }

/-- 'ferialaw06.WeekShapes', WHERE WHAT IT READS IS OF BULK AT MOST 1048576: true; the input reads as it did. -/
def weekShapesUptoRow : OpenClaim := { program := "ytknomegdfaicnaa", sum := "2a4e2db7a27558e6b170abe77aa3abd4e4e92846079f9d530817c983ec4126da", func := "feria/ferialaw06.WeekShapes", spec := "weekShapes", unfollowed := true, recurses := true, apart := false, narrowed := true }
def WeekShapesUptoSaid : Prop := weekShapesUptoRow.holds Try.pinned (OpenSpec.upto weekShapesSpec)

/-- 'ferialaw08.MomentReads', WHERE WHAT IT READS IS OF BULK AT MOST 1048576: true; the input reads as it did. -/
def momentReadsUptoRow : OpenClaim := { program := "ytknomegdfaicnaa", sum := "2a4e2db7a27558e6b170abe77aa3abd4e4e92846079f9d530817c983ec4126da", func := "feria/ferialaw08.MomentReads", spec := "momentReads", unfollowed := true, recurses := true, apart := false, narrowed := true }
def MomentReadsUptoSaid : Prop := momentReadsUptoRow.holds Try.pinned (OpenSpec.upto momentReadsSpec)

/-- 'ferialaw08.MomentBack', WHERE WHAT IT READS IS OF BULK AT MOST 1048576: true; the input reads as it did. -/
def momentBackUptoRow : OpenClaim := { program := "ytknomegdfaicnaa", sum := "2a4e2db7a27558e6b170abe77aa3abd4e4e92846079f9d530817c983ec4126da", func := "feria/ferialaw08.MomentBack", spec := "momentBack", unfollowed := true, recurses := true, apart := false, narrowed := true }
def MomentBackUptoSaid : Prop := momentBackUptoRow.holds Try.pinned (OpenSpec.upto momentBackSpec)

/-- 'ferialaw11.LexNone', WHERE WHAT IT READS IS OF BULK AT MOST 1048576: true; the input reads as it did. -/
def lexNoneUptoRow : OpenClaim := { program := "ytknomegdfaicnaa", sum := "2a4e2db7a27558e6b170abe77aa3abd4e4e92846079f9d530817c983ec4126da", func := "feria/ferialaw11.LexNone", spec := "lexNone", unfollowed := true, recurses := true, apart := false, narrowed := true }
def LexNoneUptoSaid : Prop := lexNoneUptoRow.holds Try.pinned (OpenSpec.upto lexNoneSpec)

/-- 'ferialaw11.LexTakes', WHERE WHAT IT READS IS OF BULK AT MOST 1048576: true; the input reads as it did. -/
def lexTakesUptoRow : OpenClaim := { program := "ytknomegdfaicnaa", sum := "2a4e2db7a27558e6b170abe77aa3abd4e4e92846079f9d530817c983ec4126da", func := "feria/ferialaw11.LexTakes", spec := "lexTakes", unfollowed := true, recurses := true, apart := false, narrowed := true }
def LexTakesUptoSaid : Prop := lexTakesUptoRow.holds Try.pinned (OpenSpec.upto lexTakesSpec)

end Rows
end Go.Proofs.Ytknomegdfaicnaa
