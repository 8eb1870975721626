/-
  NARROWER THAN 'FOR EVERY INPUT', by the rows' own cells (each row's printed sentence says how): ClauseMay: laid · ClauseHas: laid · ClauseMeets: laid · ClauseFull: laid.
  DERIVED. THE GIVEN ROWS OF THIS SEAT. 4 by the template 'for every input the law returns true; each argument reads behind the call as it read before'; 0 by the template 'total and deterministic' (their statements: YtbfndcogieiejaaDoorTotals.lean).
  GIVEN WITH THE SEED: the statements are not yours to turn. If you find one false, say at which input.
  Laid BY PROGRAM, IN A SANDBOX (cutbox-rows.mjs): the forced cells as the released guide's own fill.sh prints them over the translation 2a06b6801610a355… (all of the seat's roots in one cut). By AI agents, Wed Nov 11 2026. No macro, syntax, notation, axiom, sorry.
-/
import Derived.Test.YtbfndcogieiejaaDoorChecked
import GoSem.Claim
import GoSem.ClaimJoined
import GoSem.ClaimMapViews
import Derived.JoinedTies
import Derived.KernelRfl
namespace Go.Proofs.YtbfndcogieiejaaDoor
/- THE CELL 'sum', in the pinned program and in every row, IS THE sha256 OF THE DUMP (.gsa) THAT YtbfndcogieiejaaDoorProg.lean LOADS. Nothing in Lean hashes anything: it is a label: what it is worth is what the hold of that sum in a sandbox is worth. -/
noncomputable def Tryd.pinned : Pinned := { name := "ytbfndcogieiejaadoor", sum := "2a06b6801610a355ceb311ada3962a8e1f7d62581436eeefdb1170ee13b76f67", checked := Tryd.checked }
namespace Rows
def none {H : Type} : Left H := { results := [], args := [] }

/- WHAT THE LISTED PACKAGE-LEVEL VARIABLES READ AS WHEN THE CALL BEGINS. Each datum BY PROGRAM (the guide's laid-datum.mjs) off the statement by which the dump's own 'gosem.cut.vars' lays the variable. In a bare row this is a premise. The card (YtbfndcogieiejaaDoorCards.lean) ties it to the program's text. -/
def laid_feria_unit_names {H : Type} : DataW H := .agg [.lit (.string [83, 69, 67, 79, 78, 68, 76, 89]), .lit (.string [77, 73, 78, 85, 84, 69, 76, 89]), .lit (.string [72, 79, 85, 82, 76, 89]), .lit (.string [68, 65, 73, 76, 89]), .lit (.string [87, 69, 69, 75, 76, 89]), .lit (.string [77, 79, 78, 84, 72, 76, 89]), .lit (.string [89, 69, 65, 82, 76, 89])]

/-- 'ferialaw13.ClauseMay': WHATEVER THE INPUT: true; the input reads as it did. -/
def clauseMaySpec : ChangeSpec := { name := "clauseMay", fn := fun _ => fun
  | [d] => { results := [.lit (.bool true)], args := [d] }
  | _ => none }
def clauseMayRow : OpenClaim := { program := "ytbfndcogieiejaadoor", sum := "2a06b6801610a355ceb311ada3962a8e1f7d62581436eeefdb1170ee13b76f67", func := "feria/ferialaw13.ClauseMay", spec := "clauseMay", unfollowed := true, recurses := true, named := ["feria/unit.names"], apart := false, laid := [("feria/unit.names", laid_feria_unit_names)] }
def ClauseMaySaid : Prop := clauseMayRow.holds Tryd.pinned (OpenSpec.ofChange clauseMaySpec)

/-- ITS FALSE NEIGHBOUR: 'it returns false'. Refute it at one input. -/
def clauseMayWrong : ChangeSpec := { name := "clauseMay", fn := fun _ => fun
  | [d] => { results := [.lit (.bool false)], args := [d] }
  | _ => none }
def ClauseMayWrongFalsely : Prop := clauseMayRow.holds Tryd.pinned (OpenSpec.ofChange clauseMayWrong)

/-- 'ferialaw13.ClauseHas': WHATEVER THE INPUT: true; the input reads as it did. -/
def clauseHasSpec : ChangeSpec := { name := "clauseHas", fn := fun _ => fun
  | [d1, d2, d3] => { results := [.lit (.bool true)], args := [d1, d2, d3] }
  | _ => none }
def clauseHasRow : OpenClaim := { program := "ytbfndcogieiejaadoor", sum := "2a06b6801610a355ceb311ada3962a8e1f7d62581436eeefdb1170ee13b76f67", func := "feria/ferialaw13.ClauseHas", spec := "clauseHas", unfollowed := true, recurses := true, named := ["feria/unit.names"], apart := false, laid := [("feria/unit.names", laid_feria_unit_names)] }
def ClauseHasSaid : Prop := clauseHasRow.holds Tryd.pinned (OpenSpec.ofChange clauseHasSpec)

/-- ITS FALSE NEIGHBOUR: 'it returns false'. Refute it at one input. -/
def clauseHasWrong : ChangeSpec := { name := "clauseHas", fn := fun _ => fun
  | [d1, d2, d3] => { results := [.lit (.bool false)], args := [d1, d2, d3] }
  | _ => none }
def ClauseHasWrongFalsely : Prop := clauseHasRow.holds Tryd.pinned (OpenSpec.ofChange clauseHasWrong)

/-- 'ferialaw13.ClauseMeets': WHATEVER THE INPUT: true; the input reads as it did. -/
def clauseMeetsSpec : ChangeSpec := { name := "clauseMeets", fn := fun _ => fun
  | [d1, d2] => { results := [.lit (.bool true)], args := [d1, d2] }
  | _ => none }
def clauseMeetsRow : OpenClaim := { program := "ytbfndcogieiejaadoor", sum := "2a06b6801610a355ceb311ada3962a8e1f7d62581436eeefdb1170ee13b76f67", func := "feria/ferialaw13.ClauseMeets", spec := "clauseMeets", unfollowed := true, recurses := true, named := ["feria/unit.names"], apart := false, laid := [("feria/unit.names", laid_feria_unit_names)] }
def ClauseMeetsSaid : Prop := clauseMeetsRow.holds Tryd.pinned (OpenSpec.ofChange clauseMeetsSpec)

/-- ITS FALSE NEIGHBOUR: 'it returns false'. Refute it at one input. -/
def clauseMeetsWrong : ChangeSpec := { name := "clauseMeets", fn := fun _ => fun
  | [d1, d2] => { results := [.lit (.bool false)], args := [d1, d2] }
  | _ => none }
def ClauseMeetsWrongFalsely : Prop := clauseMeetsRow.holds Tryd.pinned (OpenSpec.ofChange clauseMeetsWrong)

/-- 'ferialaw13.ClauseFull': WHATEVER THE INPUT: true; the input reads as it did. -/
def clauseFullSpec : ChangeSpec := { name := "clauseFull", fn := fun _ => fun
  | [d1, d2, d3] => { results := [.lit (.bool true)], args := [d1, d2, d3] }
  | _ => none }
def clauseFullRow : OpenClaim := { program := "ytbfndcogieiejaadoor", sum := "2a06b6801610a355ceb311ada3962a8e1f7d62581436eeefdb1170ee13b76f67", func := "feria/ferialaw13.ClauseFull", spec := "clauseFull", unfollowed := true, recurses := true, named := ["feria/unit.names"], apart := false, laid := [("feria/unit.names", laid_feria_unit_names)] }
def ClauseFullSaid : Prop := clauseFullRow.holds Tryd.pinned (OpenSpec.ofChange clauseFullSpec)

/-- ITS FALSE NEIGHBOUR: 'it returns false'. Refute it at one input. -/
def clauseFullWrong : ChangeSpec := { name := "clauseFull", fn := fun _ => fun
  | [d1, d2, d3] => { results := [.lit (.bool false)], args := [d1, d2, d3] }
  | _ => none }
def ClauseFullWrongFalsely : Prop := clauseFullRow.holds Tryd.pinned (OpenSpec.ofChange clauseFullWrong)

/- THE SECOND FORM. 'bulk': how many values and letters a reading holds, each counted each time it is reached (what is shared counts as often as it is met; a slice's spare places count too). A statement '..UptoSaid' is the law's where the arguments, and the package variables that the reading takes, are together of bulk at most 1048576: NARROWER than '..Said'. Prove '..Said' where nothing that the law and all that it calls make is longer than what came in: it says more and counts as full. Else prove '..UptoSaid'. A law counts once. -/
mutual
def uptoBulk {H : Type} : DataW H → Nat
  | .lit (.string bytes) => bytes.length + 1
  | .lit _ => 1
  | .nil => 1
  | .ptr d => uptoBulk d + 1
  | .slice elems spare => uptoBulkAll elems + uptoBulkAll spare + 1
  | .agg parts => uptoBulkAll parts + 1
  | .iface _ d => uptoBulk d + 1
  | .map entries => uptoBulkEntries entries + 1
  | .held _ => 1
def uptoBulkAll {H : Type} : List (DataW H) → Nat
  | [] => 0
  | d :: r => uptoBulk d + uptoBulkAll r
def uptoBulkEntries {H : Type} : List (Lit × DataW H) → Nat
  | [] => 0
  | x :: r => uptoBulkEntry x + uptoBulkEntries r
def uptoBulkEntry {H : Type} : Lit × DataW H → Nat
  | (.string bytes, d) => bytes.length + uptoBulk d + 1
  | (_, d) => uptoBulk d + 1
 end
def uptoSmall : (H : Type) → List (DataW H) → Bool := fun _ ds => decide (uptoBulkAll ds ≤ 1048576)
def OpenSpec.upto (s : _root_.Go.ChangeSpec) : _root_.Go.OpenSpec := { _root_.Go.OpenSpec.ofChange s with cond := some uptoSmall }

/-- 'ferialaw13.ClauseMay', WHERE WHAT IT READS IS OF BULK AT MOST 1048576: true; the input reads as it did. -/
def clauseMayUptoRow : OpenClaim := { program := "ytbfndcogieiejaadoor", sum := "2a06b6801610a355ceb311ada3962a8e1f7d62581436eeefdb1170ee13b76f67", func := "feria/ferialaw13.ClauseMay", spec := "clauseMay", unfollowed := true, recurses := true, named := ["feria/unit.names"], apart := false, laid := [("feria/unit.names", laid_feria_unit_names)], narrowed := true }
def ClauseMayUptoSaid : Prop := clauseMayUptoRow.holds Tryd.pinned (OpenSpec.upto clauseMaySpec)

/-- 'ferialaw13.ClauseHas', WHERE WHAT IT READS IS OF BULK AT MOST 1048576: true; the input reads as it did. -/
def clauseHasUptoRow : OpenClaim := { program := "ytbfndcogieiejaadoor", sum := "2a06b6801610a355ceb311ada3962a8e1f7d62581436eeefdb1170ee13b76f67", func := "feria/ferialaw13.ClauseHas", spec := "clauseHas", unfollowed := true, recurses := true, named := ["feria/unit.names"], apart := false, laid := [("feria/unit.names", laid_feria_unit_names)], narrowed := true }
def ClauseHasUptoSaid : Prop := clauseHasUptoRow.holds Tryd.pinned (OpenSpec.upto clauseHasSpec)

/-- 'ferialaw13.ClauseMeets', WHERE WHAT IT READS IS OF BULK AT MOST 1048576: true; the input reads as it did. -/
def clauseMeetsUptoRow : OpenClaim := { program := "ytbfndcogieiejaadoor", sum := "2a06b6801610a355ceb311ada3962a8e1f7d62581436eeefdb1170ee13b76f67", func := "feria/ferialaw13.ClauseMeets", spec := "clauseMeets", unfollowed := true, recurses := true, named := ["feria/unit.names"], apart := false, laid := [("feria/unit.names", laid_feria_unit_names)], narrowed := true }
def ClauseMeetsUptoSaid : Prop := clauseMeetsUptoRow.holds Tryd.pinned (OpenSpec.upto clauseMeetsSpec)

/-- 'ferialaw13.ClauseFull', WHERE WHAT IT READS IS OF BULK AT MOST 1048576: true; the input reads as it did. -/
def clauseFullUptoRow : OpenClaim := { program := "ytbfndcogieiejaadoor", sum := "2a06b6801610a355ceb311ada3962a8e1f7d62581436eeefdb1170ee13b76f67", func := "feria/ferialaw13.ClauseFull", spec := "clauseFull", unfollowed := true, recurses := true, named := ["feria/unit.names"], apart := false, laid := [("feria/unit.names", laid_feria_unit_names)], narrowed := true }
def ClauseFullUptoSaid : Prop := clauseFullUptoRow.holds Tryd.pinned (OpenSpec.upto clauseFullSpec)

end Rows
end Go.Proofs.YtbfndcogieiejaaDoor
