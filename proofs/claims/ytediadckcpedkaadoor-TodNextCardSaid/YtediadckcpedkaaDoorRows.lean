/-
  NARROWER THAN 'FOR EVERY INPUT', by the rows' own cells (each row's printed sentence says how): WeekNames: laid · UnitWhich: laid · ClauseMay: laid · TodNext: laid · TodOn: laid.
  DERIVED. THE GIVEN ROWS OF THIS SEAT. 5 by the template 'for every input the law returns true; each argument reads behind the call as it read before'; 0 by the template 'total and deterministic' (their statements: YtediadckcpedkaaDoorTotals.lean).
  GIVEN WITH THE SEED: the statements are not yours to turn. If you find one false, say at which input.
  Laid BY PROGRAM, IN A SANDBOX (cutbox-rows.mjs): the forced cells as the released guide's own fill.sh prints them over the translation 0493334dea2f1e4e… (all of the seat's roots in one cut). By AI agents, Wed Nov 11 2026. No macro, syntax, notation, axiom, sorry.
-/
import Derived.Test.YtediadckcpedkaaDoorChecked
import GoSem.Claim
import GoSem.ClaimJoined
import GoSem.ClaimMapViews
import Derived.JoinedTies
import Derived.KernelRfl
namespace Go.Proofs.YtediadckcpedkaaDoor
/- THE CELL 'sum', in the pinned program and in every row, IS THE sha256 OF THE DUMP (.gsa) THAT YtediadckcpedkaaDoorProg.lean LOADS. Nothing in Lean hashes anything: it is a label: what it is worth is what the hold of that sum in a sandbox is worth. -/
noncomputable def Tryd.pinned : Pinned := { name := "ytediadckcpedkaadoor", sum := "0493334dea2f1e4e3add47ba4f6d2ea92f03a9b3e72ec00ad2b1f9fa892b564b", checked := Tryd.checked }
namespace Rows
def none {H : Type} : Left H := { results := [], args := [] }

/- WHAT THE LISTED PACKAGE-LEVEL VARIABLES READ AS WHEN THE CALL BEGINS. Each datum BY PROGRAM (the guide's laid-datum.mjs) off the statement by which the dump's own 'gosem.cut.vars' lays the variable. In a bare row this is a premise. The card (YtediadckcpedkaaDoorCards.lean) ties it to the program's text. -/
def laid_feria_week_names {H : Type} : DataW H := .agg [.lit (.string [77, 111, 110]), .lit (.string [84, 117, 101]), .lit (.string [87, 101, 100]), .lit (.string [84, 104, 117]), .lit (.string [70, 114, 105]), .lit (.string [83, 97, 116]), .lit (.string [83, 117, 110])]
def laid_feria_unit_names {H : Type} : DataW H := .agg [.lit (.string [83, 69, 67, 79, 78, 68, 76, 89]), .lit (.string [77, 73, 78, 85, 84, 69, 76, 89]), .lit (.string [72, 79, 85, 82, 76, 89]), .lit (.string [68, 65, 73, 76, 89]), .lit (.string [87, 69, 69, 75, 76, 89]), .lit (.string [77, 79, 78, 84, 72, 76, 89]), .lit (.string [89, 69, 65, 82, 76, 89])]
def laid_math_bits_deBruijn64tab {H : Type} : DataW H := .agg [.lit (.int .u8 0), .lit (.int .u8 1), .lit (.int .u8 56), .lit (.int .u8 2), .lit (.int .u8 57), .lit (.int .u8 49), .lit (.int .u8 28), .lit (.int .u8 3), .lit (.int .u8 61), .lit (.int .u8 58), .lit (.int .u8 42), .lit (.int .u8 50), .lit (.int .u8 38), .lit (.int .u8 29), .lit (.int .u8 17), .lit (.int .u8 4), .lit (.int .u8 62), .lit (.int .u8 47), .lit (.int .u8 59), .lit (.int .u8 36), .lit (.int .u8 45), .lit (.int .u8 43), .lit (.int .u8 51), .lit (.int .u8 22), .lit (.int .u8 53), .lit (.int .u8 39), .lit (.int .u8 33), .lit (.int .u8 30), .lit (.int .u8 24), .lit (.int .u8 18), .lit (.int .u8 12), .lit (.int .u8 5), .lit (.int .u8 63), .lit (.int .u8 55), .lit (.int .u8 48), .lit (.int .u8 27), .lit (.int .u8 60), .lit (.int .u8 41), .lit (.int .u8 37), .lit (.int .u8 16), .lit (.int .u8 46), .lit (.int .u8 35), .lit (.int .u8 44), .lit (.int .u8 21), .lit (.int .u8 52), .lit (.int .u8 32), .lit (.int .u8 23), .lit (.int .u8 11), .lit (.int .u8 54), .lit (.int .u8 26), .lit (.int .u8 40), .lit (.int .u8 15), .lit (.int .u8 34), .lit (.int .u8 20), .lit (.int .u8 31), .lit (.int .u8 10), .lit (.int .u8 25), .lit (.int .u8 14), .lit (.int .u8 19), .lit (.int .u8 9), .lit (.int .u8 13), .lit (.int .u8 8), .lit (.int .u8 7), .lit (.int .u8 6)]

/-- 'ferialaw06.WeekNames': WHATEVER THE INPUT: true; the input reads as it did. -/
def weekNamesSpec : ChangeSpec := { name := "weekNames", fn := fun _ => fun
  | [d1, d2] => { results := [.lit (.bool true)], args := [d1, d2] }
  | _ => none }
def weekNamesRow : OpenClaim := { program := "ytediadckcpedkaadoor", sum := "0493334dea2f1e4e3add47ba4f6d2ea92f03a9b3e72ec00ad2b1f9fa892b564b", func := "feria/ferialaw06.WeekNames", spec := "weekNames", named := ["feria/week.names"], apart := false, laid := [("feria/week.names", laid_feria_week_names)] }
def WeekNamesSaid : Prop := weekNamesRow.holds Tryd.pinned (OpenSpec.ofChange weekNamesSpec)

/-- ITS FALSE NEIGHBOUR: 'it returns false'. Refute it at one input. -/
def weekNamesWrong : ChangeSpec := { name := "weekNames", fn := fun _ => fun
  | [d1, d2] => { results := [.lit (.bool false)], args := [d1, d2] }
  | _ => none }
def WeekNamesWrongFalsely : Prop := weekNamesRow.holds Tryd.pinned (OpenSpec.ofChange weekNamesWrong)

/-- 'ferialaw10.UnitWhich': WHATEVER THE INPUT: true; the input reads as it did. -/
def unitWhichSpec : ChangeSpec := { name := "unitWhich", fn := fun _ => fun
  | [d1, d2, d3] => { results := [.lit (.bool true)], args := [d1, d2, d3] }
  | _ => none }
def unitWhichRow : OpenClaim := { program := "ytediadckcpedkaadoor", sum := "0493334dea2f1e4e3add47ba4f6d2ea92f03a9b3e72ec00ad2b1f9fa892b564b", func := "feria/ferialaw10.UnitWhich", spec := "unitWhich", named := ["feria/unit.names"], apart := false, laid := [("feria/unit.names", laid_feria_unit_names)] }
def UnitWhichSaid : Prop := unitWhichRow.holds Tryd.pinned (OpenSpec.ofChange unitWhichSpec)

/-- ITS FALSE NEIGHBOUR: 'it returns false'. Refute it at one input. -/
def unitWhichWrong : ChangeSpec := { name := "unitWhich", fn := fun _ => fun
  | [d1, d2, d3] => { results := [.lit (.bool false)], args := [d1, d2, d3] }
  | _ => none }
def UnitWhichWrongFalsely : Prop := unitWhichRow.holds Tryd.pinned (OpenSpec.ofChange unitWhichWrong)

/-- 'ferialaw13.ClauseMay': WHATEVER THE INPUT: true; the input reads as it did. -/
def clauseMaySpec : ChangeSpec := { name := "clauseMay", fn := fun _ => fun
  | [d] => { results := [.lit (.bool true)], args := [d] }
  | _ => none }
def clauseMayRow : OpenClaim := { program := "ytediadckcpedkaadoor", sum := "0493334dea2f1e4e3add47ba4f6d2ea92f03a9b3e72ec00ad2b1f9fa892b564b", func := "feria/ferialaw13.ClauseMay", spec := "clauseMay", unfollowed := true, recurses := true, named := ["feria/unit.names"], apart := false, laid := [("feria/unit.names", laid_feria_unit_names)] }
def ClauseMaySaid : Prop := clauseMayRow.holds Tryd.pinned (OpenSpec.ofChange clauseMaySpec)

/-- ITS FALSE NEIGHBOUR: 'it returns false'. Refute it at one input. -/
def clauseMayWrong : ChangeSpec := { name := "clauseMay", fn := fun _ => fun
  | [d] => { results := [.lit (.bool false)], args := [d] }
  | _ => none }
def ClauseMayWrongFalsely : Prop := clauseMayRow.holds Tryd.pinned (OpenSpec.ofChange clauseMayWrong)

/-- 'ferialaw07.TodNext': WHATEVER THE INPUT: true; the input reads as it did. -/
def todNextSpec : ChangeSpec := { name := "todNext", fn := fun _ => fun
  | [d1, d2] => { results := [.lit (.bool true)], args := [d1, d2] }
  | _ => none }
def todNextRow : OpenClaim := { program := "ytediadckcpedkaadoor", sum := "0493334dea2f1e4e3add47ba4f6d2ea92f03a9b3e72ec00ad2b1f9fa892b564b", func := "feria/ferialaw07.TodNext", spec := "todNext", named := ["math/bits.deBruijn64tab"], apart := false, laid := [("math/bits.deBruijn64tab", laid_math_bits_deBruijn64tab)] }
def TodNextSaid : Prop := todNextRow.holds Tryd.pinned (OpenSpec.ofChange todNextSpec)

/-- ITS FALSE NEIGHBOUR: 'it returns false'. Refute it at one input. -/
def todNextWrong : ChangeSpec := { name := "todNext", fn := fun _ => fun
  | [d1, d2] => { results := [.lit (.bool false)], args := [d1, d2] }
  | _ => none }
def TodNextWrongFalsely : Prop := todNextRow.holds Tryd.pinned (OpenSpec.ofChange todNextWrong)

/-- 'ferialaw07.TodOn': WHATEVER THE INPUT: true; the input reads as it did. -/
def todOnSpec : ChangeSpec := { name := "todOn", fn := fun _ => fun
  | [d] => { results := [.lit (.bool true)], args := [d] }
  | _ => none }
def todOnRow : OpenClaim := { program := "ytediadckcpedkaadoor", sum := "0493334dea2f1e4e3add47ba4f6d2ea92f03a9b3e72ec00ad2b1f9fa892b564b", func := "feria/ferialaw07.TodOn", spec := "todOn", named := ["math/bits.deBruijn64tab"], apart := false, laid := [("math/bits.deBruijn64tab", laid_math_bits_deBruijn64tab)] }
def TodOnSaid : Prop := todOnRow.holds Tryd.pinned (OpenSpec.ofChange todOnSpec)

/-- ITS FALSE NEIGHBOUR: 'it returns false'. Refute it at one input. -/
def todOnWrong : ChangeSpec := { name := "todOn", fn := fun _ => fun
  | [d] => { results := [.lit (.bool false)], args := [d] }
  | _ => none }
def TodOnWrongFalsely : Prop := todOnRow.holds Tryd.pinned (OpenSpec.ofChange todOnWrong)

/- THE SECOND FORM. 'bulk': how many values and letters a reading holds, each counted each time it is reached (what is shared counts as often as it is met; a slice's spare places count too). A statement '..UptoSaid' is the law's where the arguments, and the package variables that the reading takes, are together of bulk at most 1048576: NARROWER than '..Said'. Prove '..Said' where nothing that the law and all that it calls make is longer than what came in: it says more and counts as full. Else prove '..UptoSaid'. A law counts once. -/
mutual
def uptoBulk {H : Type} : DataW H → Nat
  | .lit (.string bytes) => bytes.length + 1
  | .lit _ => 1
  | .nil => 1
  | .ptr d => uptoBulk d + 1
  | .slice elems spare => uptoBulkAll elems + uptoBulkAll spare + 1
  | .agg parts => uptoBulkAll parts + 1
  | .iface _ d => uptoBulk d + 1
  | .map entries => uptoBulkEntries entries + 1
  | .held _ => 1
def uptoBulkAll {H : Type} : List (DataW H) → Nat
  | [] => 0
  | d :: r => uptoBulk d + uptoBulkAll r
def uptoBulkEntries {H : Type} : List (Lit × DataW H) → Nat
  | [] => 0
  | x :: r => uptoBulkEntry x + uptoBulkEntries r
def uptoBulkEntry {H : Type} : Lit × DataW H → Nat
  | (.string bytes, d) => bytes.length + uptoBulk d + 1
  | (_, d) => uptoBulk d + 1
 end
def uptoSmall : (H : Type) → List (DataW H) → Bool := fun _ ds => decide (uptoBulkAll ds ≤ 1048576)
def OpenSpec.upto (s : _root_.Go.ChangeSpec) : _root_.Go.OpenSpec := { _root_.Go.OpenSpec.ofChange s with cond := some uptoSmall }

/-- 'ferialaw06.WeekNames', WHERE WHAT IT READS IS OF BULK AT MOST 1048576: true; the input reads as it did. -/
def weekNamesUptoRow : OpenClaim := { program := "ytediadckcpedkaadoor", sum := "0493334dea2f1e4e3add47ba4f6d2ea92f03a9b3e72ec00ad2b1f9fa892b564b", func := "feria/ferialaw06.WeekNames", spec := "weekNames", named := ["feria/week.names"], apart := false, laid := [("feria/week.names", laid_feria_week_names)], narrowed := true }
def WeekNamesUptoSaid : Prop := weekNamesUptoRow.holds Tryd.pinned (OpenSpec.upto weekNamesSpec)

/-- 'ferialaw10.UnitWhich', WHERE WHAT IT READS IS OF BULK AT MOST 1048576: true; the input reads as it did. -/
def unitWhichUptoRow : OpenClaim := { program := "ytediadckcpedkaadoor", sum := "0493334dea2f1e4e3add47ba4f6d2ea92f03a9b3e72ec00ad2b1f9fa892b564b", func := "feria/ferialaw10.UnitWhich", spec := "unitWhich", named := ["feria/unit.names"], apart := false, laid := [("feria/unit.names", laid_feria_unit_names)], narrowed := true }
def UnitWhichUptoSaid : Prop := unitWhichUptoRow.holds Tryd.pinned (OpenSpec.upto unitWhichSpec)

/-- 'ferialaw13.ClauseMay', WHERE WHAT IT READS IS OF BULK AT MOST 1048576: true; the input reads as it did. -/
def clauseMayUptoRow : OpenClaim := { program := "ytediadckcpedkaadoor", sum := "0493334dea2f1e4e3add47ba4f6d2ea92f03a9b3e72ec00ad2b1f9fa892b564b", func := "feria/ferialaw13.ClauseMay", spec := "clauseMay", unfollowed := true, recurses := true, named := ["feria/unit.names"], apart := false, laid := [("feria/unit.names", laid_feria_unit_names)], narrowed := true }
def ClauseMayUptoSaid : Prop := clauseMayUptoRow.holds Tryd.pinned (OpenSpec.upto clauseMaySpec)

/-- 'ferialaw07.TodNext', WHERE WHAT IT READS IS OF BULK AT MOST 1048576: true; the input reads as it did. -/
def todNextUptoRow : OpenClaim := { program := "ytediadckcpedkaadoor", sum := "0493334dea2f1e4e3add47ba4f6d2ea92f03a9b3e72ec00ad2b1f9fa892b564b", func := "feria/ferialaw07.TodNext", spec := "todNext", named := ["math/bits.deBruijn64tab"], apart := false, laid := [("math/bits.deBruijn64tab", laid_math_bits_deBruijn64tab)], narrowed := true }
def TodNextUptoSaid : Prop := todNextUptoRow.holds Tryd.pinned (OpenSpec.upto todNextSpec)

/-- 'ferialaw07.TodOn', WHERE WHAT IT READS IS OF BULK AT MOST 1048576: true; the input reads as it did. -/
def todOnUptoRow : OpenClaim := { program := "ytediadckcpedkaadoor", sum := "0493334dea2f1e4e3add47ba4f6d2ea92f03a9b3e72ec00ad2b1f9fa892b564b", func := "feria/ferialaw07.TodOn", spec := "todOn", named := ["math/bits.deBruijn64tab"], apart := false, laid := [("math/bits.deBruijn64tab", laid_math_bits_deBruijn64tab)], narrowed := true }
def TodOnUptoSaid : Prop := todOnUptoRow.holds Tryd.pinned (OpenSpec.upto todOnSpec)

end Rows
end Go.Proofs.YtediadckcpedkaaDoor
