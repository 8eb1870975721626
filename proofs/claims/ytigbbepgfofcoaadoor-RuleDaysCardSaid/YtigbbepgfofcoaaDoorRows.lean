/-
  NARROWER THAN 'FOR EVERY INPUT', by the rows' own cells (each row's printed sentence says how): RuleChecks: laid · RuleDays: laid · RuleTimes: laid.
  DERIVED. THE GIVEN ROWS OF THIS SEAT. 3 by the template 'for every input the law returns true; each argument reads behind the call as it read before'; 0 by the template 'total and deterministic' (their statements: YtigbbepgfofcoaaDoorTotals.lean).
  GIVEN WITH THE SEED: the statements are not yours to turn. If you find one false, say at which input.
  Laid BY PROGRAM, IN A SANDBOX (cutbox-rows.mjs): the forced cells as the released guide's own fill.sh prints them over the translation 7ce4bc5ca96e3c37… (all of the seat's roots in one cut). By AI agents, Wed Nov 11 2026. No macro, syntax, notation, axiom, sorry.
-/
import Derived.Test.YtigbbepgfofcoaaDoorChecked
import GoSem.Claim
import GoSem.ClaimJoined
import GoSem.ClaimMapViews
import Derived.JoinedTies
import Derived.KernelRfl
namespace Go.Proofs.YtigbbepgfofcoaaDoor
/- THE CELL 'sum', in the pinned program and in every row, IS THE sha256 OF THE DUMP (.gsa) THAT YtigbbepgfofcoaaDoorProg.lean LOADS. Nothing in Lean hashes anything: it is a label: what it is worth is what the hold of that sum in a sandbox is worth. -/
noncomputable def Tryd.pinned : Pinned := { name := "ytigbbepgfofcoaadoor", sum := "7ce4bc5ca96e3c3749b1f6ca394399416c5e00296596b4f2a486c6d5db3571bf", checked := Tryd.checked }
namespace Rows
def none {H : Type} : Left H := { results := [], args := [] }

/- WHAT THE LISTED PACKAGE-LEVEL VARIABLES READ AS WHEN THE CALL BEGINS. Each datum BY PROGRAM (the guide's laid-datum.mjs) off the statement by which the dump's own 'gosem.cut.vars' lays the variable. In a bare row this is a premise. The card (YtigbbepgfofcoaaDoorCards.lean) ties it to the program's text. -/
def laid_feria_unit_names {H : Type} : DataW H := .agg [.lit (.string [83, 69, 67, 79, 78, 68, 76, 89]), .lit (.string [77, 73, 78, 85, 84, 69, 76, 89]), .lit (.string [72, 79, 85, 82, 76, 89]), .lit (.string [68, 65, 73, 76, 89]), .lit (.string [87, 69, 69, 75, 76, 89]), .lit (.string [77, 79, 78, 84, 72, 76, 89]), .lit (.string [89, 69, 65, 82, 76, 89])]

/-- 'ferialaw32.RuleChecks': WHATEVER THE INPUT: true; the input reads as it did. -/
def ruleChecksSpec : ChangeSpec := { name := "ruleChecks", fn := fun _ => fun
  | [d1, d2] => { results := [.lit (.bool true)], args := [d1, d2] }
  | _ => none }
def ruleChecksRow : OpenClaim := { program := "ytigbbepgfofcoaadoor", sum := "7ce4bc5ca96e3c3749b1f6ca394399416c5e00296596b4f2a486c6d5db3571bf", func := "feria/ferialaw32.RuleChecks", spec := "ruleChecks", unfollowed := true, recurses := true, named := ["feria/unit.names"], apart := false, laid := [("feria/unit.names", laid_feria_unit_names)] }
def RuleChecksSaid : Prop := ruleChecksRow.holds Tryd.pinned (OpenSpec.ofChange ruleChecksSpec)

/-- ITS FALSE NEIGHBOUR: 'it returns false'. Refute it at one input. -/
def ruleChecksWrong : ChangeSpec := { name := "ruleChecks", fn := fun _ => fun
  | [d1, d2] => { results := [.lit (.bool false)], args := [d1, d2] }
  | _ => none }
def RuleChecksWrongFalsely : Prop := ruleChecksRow.holds Tryd.pinned (OpenSpec.ofChange ruleChecksWrong)

/-- 'ferialaw32.RuleDays': WHATEVER THE INPUT: true; the input reads as it did. -/
def ruleDaysSpec : ChangeSpec := { name := "ruleDays", fn := fun _ => fun
  | [d1, d2] => { results := [.lit (.bool true)], args := [d1, d2] }
  | _ => none }
def ruleDaysRow : OpenClaim := { program := "ytigbbepgfofcoaadoor", sum := "7ce4bc5ca96e3c3749b1f6ca394399416c5e00296596b4f2a486c6d5db3571bf", func := "feria/ferialaw32.RuleDays", spec := "ruleDays", unfollowed := true, recurses := true, named := ["feria/unit.names"], apart := false, laid := [("feria/unit.names", laid_feria_unit_names)] }
def RuleDaysSaid : Prop := ruleDaysRow.holds Tryd.pinned (OpenSpec.ofChange ruleDaysSpec)

/-- ITS FALSE NEIGHBOUR: 'it returns false'. Refute it at one input. -/
def ruleDaysWrong : ChangeSpec := { name := "ruleDays", fn := fun _ => fun
  | [d1, d2] => { results := [.lit (.bool false)], args := [d1, d2] }
  | _ => none }
def RuleDaysWrongFalsely : Prop := ruleDaysRow.holds Tryd.pinned (OpenSpec.ofChange ruleDaysWrong)

/-- 'ferialaw32.RuleTimes': WHATEVER THE INPUT: true; the input reads as it did. -/
def ruleTimesSpec : ChangeSpec := { name := "ruleTimes", fn := fun _ => fun
  | [d1, d2] => { results := [.lit (.bool true)], args := [d1, d2] }
  | _ => none }
def ruleTimesRow : OpenClaim := { program := "ytigbbepgfofcoaadoor", sum := "7ce4bc5ca96e3c3749b1f6ca394399416c5e00296596b4f2a486c6d5db3571bf", func := "feria/ferialaw32.RuleTimes", spec := "ruleTimes", unfollowed := true, recurses := true, named := ["feria/unit.names"], apart := false, laid := [("feria/unit.names", laid_feria_unit_names)] }
def RuleTimesSaid : Prop := ruleTimesRow.holds Tryd.pinned (OpenSpec.ofChange ruleTimesSpec)

/-- ITS FALSE NEIGHBOUR: 'it returns false'. Refute it at one input. -/
def ruleTimesWrong : ChangeSpec := { name := "ruleTimes", fn := fun _ => fun
  | [d1, d2] => { results := [.lit (.bool false)], args := [d1, d2] }
  | _ => none }
def RuleTimesWrongFalsely : Prop := ruleTimesRow.holds Tryd.pinned (OpenSpec.ofChange ruleTimesWrong)

/- THE SECOND FORM. 'bulk': how many values and letters a reading holds, each counted each time it is reached (what is shared counts as often as it is met; a slice's spare places count too). A statement '..UptoSaid' is the law's where the arguments, and the package variables that the reading takes, are together of bulk at most 1048576: NARROWER than '..Said'. Prove '..Said' where nothing that the law and all that it calls make is longer than what came in: it says more and counts as full. Else prove '..UptoSaid'. A law counts once. -/
mutual
def uptoBulk {H : Type} : DataW H → Nat
  | .lit (.string bytes) => bytes.length + 1
  | .lit _ => 1
  | .nil => 1
  | .ptr d => uptoBulk d + 1
  | .slice elems spare => uptoBulkAll elems + uptoBulkAll spare + 1
  | .agg parts => uptoBulkAll parts + 1
  | .iface _ d => uptoBulk d + 1
  | .map entries => uptoBulkEntries entries + 1
  | .held _ => 1
def uptoBulkAll {H : Type} : List (DataW H) → Nat
  | [] => 0
  | d :: r => uptoBulk d + uptoBulkAll r
def uptoBulkEntries {H : Type} : List (Lit × DataW H) → Nat
  | [] => 0
  | x :: r => uptoBulkEntry x + uptoBulkEntries r
def uptoBulkEntry {H : Type} : Lit × DataW H → Nat
  | (.string bytes, d) => bytes.length + uptoBulk d + 1
  | (_, d) => uptoBulk d + 1
 end
def uptoSmall : (H : Type) → List (DataW H) → Bool := fun _ ds => decide (uptoBulkAll ds ≤ 1048576)
def OpenSpec.upto (s : _root_.Go.ChangeSpec) : _root_.Go.OpenSpec := { _root_.Go.OpenSpec.ofChange s with cond := some uptoSmall }

/-- 'ferialaw32.RuleChecks', WHERE WHAT IT READS IS OF BULK AT MOST 1048576: true; the input reads as it did. -/
def ruleChecksUptoRow : OpenClaim := { program := "ytigbbepgfofcoaadoor", sum := "7ce4bc5ca96e3c3749b1f6ca394399416c5e00296596b4f2a486c6d5db3571bf", func := "feria/ferialaw32.RuleChecks", spec := "ruleChecks", unfollowed := true, recurses := true, named := ["feria/unit.names"], apart := false, laid := [("feria/unit.names", laid_feria_unit_names)], narrowed := true }
def RuleChecksUptoSaid : Prop := ruleChecksUptoRow.holds Tryd.pinned (OpenSpec.upto ruleChecksSpec)

/-- 'ferialaw32.RuleDays', WHERE WHAT IT READS IS OF BULK AT MOST 1048576: true; the input reads as it did. -/
def ruleDaysUptoRow : OpenClaim := { program := "ytigbbepgfofcoaadoor", sum := "7ce4bc5ca96e3c3749b1f6ca394399416c5e00296596b4f2a486c6d5db3571bf", func := "feria/ferialaw32.RuleDays", spec := "ruleDays", unfollowed := true, recurses := true, named := ["feria/unit.names"], apart := false, laid := [("feria/unit.names", laid_feria_unit_names)], narrowed := true }
def RuleDaysUptoSaid : Prop := ruleDaysUptoRow.holds Tryd.pinned (OpenSpec.upto ruleDaysSpec)

/-- 'ferialaw32.RuleTimes', WHERE WHAT IT READS IS OF BULK AT MOST 1048576: true; the input reads as it did. -/
def ruleTimesUptoRow : OpenClaim := { program := "ytigbbepgfofcoaadoor", sum := "7ce4bc5ca96e3c3749b1f6ca394399416c5e00296596b4f2a486c6d5db3571bf", func := "feria/ferialaw32.RuleTimes", spec := "ruleTimes", unfollowed := true, recurses := true, named := ["feria/unit.names"], apart := false, laid := [("feria/unit.names", laid_feria_unit_names)], narrowed := true }
def RuleTimesUptoSaid : Prop := ruleTimesUptoRow.holds Tryd.pinned (OpenSpec.upto ruleTimesSpec)

end Rows
end Go.Proofs.YtigbbepgfofcoaaDoor
