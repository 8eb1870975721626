/-
  NARROWER THAN 'FOR EVERY INPUT', by the rows' own cells (each row's printed sentence says how): MaskSpans: laid · MaskNext: laid · MaskAll: laid · MaskBack: laid · CoverOf: laid · TodParts: laid · CalChecks: laid · CalFields: laid · CronChecks: laid · ClauseMay: laid.
  DERIVED. THE GIVEN ROWS OF THIS SEAT. 10 by the template 'for every input the law returns true; each argument reads behind the call as it read before'; 0 by the template 'total and deterministic' (their statements: YtjlieamjlelipaaDoorTotals.lean).
  GIVEN WITH THE SEED: the statements are not yours to turn. If you find one false, say at which input.
  Laid BY PROGRAM, IN A SANDBOX (cutbox-rows.mjs): the forced cells as the released guide's own fill.sh prints them over the translation 6f6cf1e4400be0e6… (all of the seat's roots in one cut). By AI agents, Wed Nov 11 2026. No macro, syntax, notation, axiom, sorry.
-/
import Derived.Test.YtjlieamjlelipaaDoorChecked
import GoSem.Claim
import GoSem.ClaimJoined
import GoSem.ClaimMapViews
import Derived.JoinedTies
import Derived.KernelRfl
namespace Go.Proofs.YtjlieamjlelipaaDoor
/- THE CELL 'sum', in the pinned program and in every row, IS THE sha256 OF THE DUMP (.gsa) THAT YtjlieamjlelipaaDoorProg.lean LOADS. Nothing in Lean hashes anything: it is a label: what it is worth is what the hold of that sum in a sandbox is worth. -/
noncomputable def Tryd.pinned : Pinned := { name := "ytjlieamjlelipaadoor", sum := "6f6cf1e4400be0e6c9c2aa6a2b19e42f1c7e626c4b96911e0e96ab630c219419", checked := Tryd.checked }
namespace Rows
def none {H : Type} : Left H := { results := [], args := [] }

/- WHAT THE LISTED PACKAGE-LEVEL VARIABLES READ AS WHEN THE CALL BEGINS. Each datum BY PROGRAM (the guide's laid-datum.mjs) off the statement by which the dump's own 'gosem.cut.vars' lays the variable. In a bare row this is a premise. The card (YtjlieamjlelipaaDoorCards.lean) ties it to the program's text. -/
def laid_math_bits_deBruijn64tab {H : Type} : DataW H := .agg [.lit (.int .u8 0), .lit (.int .u8 1), .lit (.int .u8 56), .lit (.int .u8 2), .lit (.int .u8 57), .lit (.int .u8 49), .lit (.int .u8 28), .lit (.int .u8 3), .lit (.int .u8 61), .lit (.int .u8 58), .lit (.int .u8 42), .lit (.int .u8 50), .lit (.int .u8 38), .lit (.int .u8 29), .lit (.int .u8 17), .lit (.int .u8 4), .lit (.int .u8 62), .lit (.int .u8 47), .lit (.int .u8 59), .lit (.int .u8 36), .lit (.int .u8 45), .lit (.int .u8 43), .lit (.int .u8 51), .lit (.int .u8 22), .lit (.int .u8 53), .lit (.int .u8 39), .lit (.int .u8 33), .lit (.int .u8 30), .lit (.int .u8 24), .lit (.int .u8 18), .lit (.int .u8 12), .lit (.int .u8 5), .lit (.int .u8 63), .lit (.int .u8 55), .lit (.int .u8 48), .lit (.int .u8 27), .lit (.int .u8 60), .lit (.int .u8 41), .lit (.int .u8 37), .lit (.int .u8 16), .lit (.int .u8 46), .lit (.int .u8 35), .lit (.int .u8 44), .lit (.int .u8 21), .lit (.int .u8 52), .lit (.int .u8 32), .lit (.int .u8 23), .lit (.int .u8 11), .lit (.int .u8 54), .lit (.int .u8 26), .lit (.int .u8 40), .lit (.int .u8 15), .lit (.int .u8 34), .lit (.int .u8 20), .lit (.int .u8 31), .lit (.int .u8 10), .lit (.int .u8 25), .lit (.int .u8 14), .lit (.int .u8 19), .lit (.int .u8 9), .lit (.int .u8 13), .lit (.int .u8 8), .lit (.int .u8 7), .lit (.int .u8 6)]
def laid_feria_cal_bounds {H : Type} : DataW H := .agg [.agg [.lit (.int .i64 1), .lit (.int .i64 7)], .agg [.lit (.int .i64 1970), .lit (.int .i64 2369)], .agg [.lit (.int .i64 1), .lit (.int .i64 12)], .agg [.lit (.int .i64 1), .lit (.int .i64 31)], .agg [.lit (.int .i64 0), .lit (.int .i64 23)], .agg [.lit (.int .i64 0), .lit (.int .i64 59)], .agg [.lit (.int .i64 0), .lit (.int .i64 59)]]
def laid_feria_cron_bounds {H : Type} : DataW H := .agg [.agg [.lit (.int .i64 0), .lit (.int .i64 59)], .agg [.lit (.int .i64 0), .lit (.int .i64 23)], .agg [.lit (.int .i64 1), .lit (.int .i64 31)], .agg [.lit (.int .i64 1), .lit (.int .i64 12)], .agg [.lit (.int .i64 0), .lit (.int .i64 7)]]
def laid_feria_unit_names {H : Type} : DataW H := .agg [.lit (.string [83, 69, 67, 79, 78, 68, 76, 89]), .lit (.string [77, 73, 78, 85, 84, 69, 76, 89]), .lit (.string [72, 79, 85, 82, 76, 89]), .lit (.string [68, 65, 73, 76, 89]), .lit (.string [87, 69, 69, 75, 76, 89]), .lit (.string [77, 79, 78, 84, 72, 76, 89]), .lit (.string [89, 69, 65, 82, 76, 89])]

/-- 'ferialaw02.MaskSpans': WHATEVER THE INPUT: true; the input reads as it did. -/
def maskSpansSpec : ChangeSpec := { name := "maskSpans", fn := fun _ => fun
  | [d1, d2, d3] => { results := [.lit (.bool true)], args := [d1, d2, d3] }
  | _ => none }
def maskSpansRow : OpenClaim := { program := "ytjlieamjlelipaadoor", sum := "6f6cf1e4400be0e6c9c2aa6a2b19e42f1c7e626c4b96911e0e96ab630c219419", func := "feria/ferialaw02.MaskSpans", spec := "maskSpans", named := ["math/bits.deBruijn64tab"], apart := false, laid := [("math/bits.deBruijn64tab", laid_math_bits_deBruijn64tab)] }
def MaskSpansSaid : Prop := maskSpansRow.holds Tryd.pinned (OpenSpec.ofChange maskSpansSpec)

/-- ITS FALSE NEIGHBOUR: 'it returns false'. Refute it at one input. -/
def maskSpansWrong : ChangeSpec := { name := "maskSpans", fn := fun _ => fun
  | [d1, d2, d3] => { results := [.lit (.bool false)], args := [d1, d2, d3] }
  | _ => none }
def MaskSpansWrongFalsely : Prop := maskSpansRow.holds Tryd.pinned (OpenSpec.ofChange maskSpansWrong)

/-- 'ferialaw02.MaskNext': WHATEVER THE INPUT: true; the input reads as it did. -/
def maskNextSpec : ChangeSpec := { name := "maskNext", fn := fun _ => fun
  | [d1, d2, d3] => { results := [.lit (.bool true)], args := [d1, d2, d3] }
  | _ => none }
def maskNextRow : OpenClaim := { program := "ytjlieamjlelipaadoor", sum := "6f6cf1e4400be0e6c9c2aa6a2b19e42f1c7e626c4b96911e0e96ab630c219419", func := "feria/ferialaw02.MaskNext", spec := "maskNext", named := ["math/bits.deBruijn64tab"], apart := false, laid := [("math/bits.deBruijn64tab", laid_math_bits_deBruijn64tab)] }
def MaskNextSaid : Prop := maskNextRow.holds Tryd.pinned (OpenSpec.ofChange maskNextSpec)

/-- ITS FALSE NEIGHBOUR: 'it returns false'. Refute it at one input. -/
def maskNextWrong : ChangeSpec := { name := "maskNext", fn := fun _ => fun
  | [d1, d2, d3] => { results := [.lit (.bool false)], args := [d1, d2, d3] }
  | _ => none }
def MaskNextWrongFalsely : Prop := maskNextRow.holds Tryd.pinned (OpenSpec.ofChange maskNextWrong)

/-- 'ferialaw02.MaskAll': WHATEVER THE INPUT: true; the input reads as it did. -/
def maskAllSpec : ChangeSpec := { name := "maskAll", fn := fun _ => fun
  | [d1, d2] => { results := [.lit (.bool true)], args := [d1, d2] }
  | _ => none }
def maskAllRow : OpenClaim := { program := "ytjlieamjlelipaadoor", sum := "6f6cf1e4400be0e6c9c2aa6a2b19e42f1c7e626c4b96911e0e96ab630c219419", func := "feria/ferialaw02.MaskAll", spec := "maskAll", unfollowed := true, recurses := true, named := ["math/bits.deBruijn64tab"], apart := false, laid := [("math/bits.deBruijn64tab", laid_math_bits_deBruijn64tab)] }
def MaskAllSaid : Prop := maskAllRow.holds Tryd.pinned (OpenSpec.ofChange maskAllSpec)

/-- ITS FALSE NEIGHBOUR: 'it returns false'. Refute it at one input. -/
def maskAllWrong : ChangeSpec := { name := "maskAll", fn := fun _ => fun
  | [d1, d2] => { results := [.lit (.bool false)], args := [d1, d2] }
  | _ => none }
def MaskAllWrongFalsely : Prop := maskAllRow.holds Tryd.pinned (OpenSpec.ofChange maskAllWrong)

/-- 'ferialaw02.MaskBack': WHATEVER THE INPUT: true; the input reads as it did. -/
def maskBackSpec : ChangeSpec := { name := "maskBack", fn := fun _ => fun
  | [d] => { results := [.lit (.bool true)], args := [d] }
  | _ => none }
def maskBackRow : OpenClaim := { program := "ytjlieamjlelipaadoor", sum := "6f6cf1e4400be0e6c9c2aa6a2b19e42f1c7e626c4b96911e0e96ab630c219419", func := "feria/ferialaw02.MaskBack", spec := "maskBack", unfollowed := true, recurses := true, named := ["math/bits.deBruijn64tab"], apart := false, laid := [("math/bits.deBruijn64tab", laid_math_bits_deBruijn64tab)] }
def MaskBackSaid : Prop := maskBackRow.holds Tryd.pinned (OpenSpec.ofChange maskBackSpec)

/-- ITS FALSE NEIGHBOUR: 'it returns false'. Refute it at one input. -/
def maskBackWrong : ChangeSpec := { name := "maskBack", fn := fun _ => fun
  | [d] => { results := [.lit (.bool false)], args := [d] }
  | _ => none }
def MaskBackWrongFalsely : Prop := maskBackRow.holds Tryd.pinned (OpenSpec.ofChange maskBackWrong)

/-- 'ferialaw03.CoverOf': WHATEVER THE INPUT: true; the input reads as it did. -/
def coverOfSpec : ChangeSpec := { name := "coverOf", fn := fun _ => fun
  | [d1, d2] => { results := [.lit (.bool true)], args := [d1, d2] }
  | _ => none }
def coverOfRow : OpenClaim := { program := "ytjlieamjlelipaadoor", sum := "6f6cf1e4400be0e6c9c2aa6a2b19e42f1c7e626c4b96911e0e96ab630c219419", func := "feria/ferialaw03.CoverOf", spec := "coverOf", unfollowed := true, recurses := true, named := ["math/bits.deBruijn64tab"], apart := false, laid := [("math/bits.deBruijn64tab", laid_math_bits_deBruijn64tab)] }
def CoverOfSaid : Prop := coverOfRow.holds Tryd.pinned (OpenSpec.ofChange coverOfSpec)

/-- ITS FALSE NEIGHBOUR: 'it returns false'. Refute it at one input. -/
def coverOfWrong : ChangeSpec := { name := "coverOf", fn := fun _ => fun
  | [d1, d2] => { results := [.lit (.bool false)], args := [d1, d2] }
  | _ => none }
def CoverOfWrongFalsely : Prop := coverOfRow.holds Tryd.pinned (OpenSpec.ofChange coverOfWrong)

/-- 'ferialaw07.TodParts': WHATEVER THE INPUT: true; the input reads as it did. -/
def todPartsSpec : ChangeSpec := { name := "todParts", fn := fun _ => fun
  | [d1, d2, d3] => { results := [.lit (.bool true)], args := [d1, d2, d3] }
  | _ => none }
def todPartsRow : OpenClaim := { program := "ytjlieamjlelipaadoor", sum := "6f6cf1e4400be0e6c9c2aa6a2b19e42f1c7e626c4b96911e0e96ab630c219419", func := "feria/ferialaw07.TodParts", spec := "todParts", named := ["math/bits.deBruijn64tab"], apart := false, laid := [("math/bits.deBruijn64tab", laid_math_bits_deBruijn64tab)] }
def TodPartsSaid : Prop := todPartsRow.holds Tryd.pinned (OpenSpec.ofChange todPartsSpec)

/-- ITS FALSE NEIGHBOUR: 'it returns false'. Refute it at one input. -/
def todPartsWrong : ChangeSpec := { name := "todParts", fn := fun _ => fun
  | [d1, d2, d3] => { results := [.lit (.bool false)], args := [d1, d2, d3] }
  | _ => none }
def TodPartsWrongFalsely : Prop := todPartsRow.holds Tryd.pinned (OpenSpec.ofChange todPartsWrong)

/-- 'ferialaw28.CalChecks': WHATEVER THE INPUT: true; the input reads as it did. -/
def calChecksSpec : ChangeSpec := { name := "calChecks", fn := fun _ => fun
  | [d] => { results := [.lit (.bool true)], args := [d] }
  | _ => none }
def calChecksRow : OpenClaim := { program := "ytjlieamjlelipaadoor", sum := "6f6cf1e4400be0e6c9c2aa6a2b19e42f1c7e626c4b96911e0e96ab630c219419", func := "feria/ferialaw28.CalChecks", spec := "calChecks", unfollowed := true, recurses := true, named := ["feria/cal.bounds"], apart := false, laid := [("feria/cal.bounds", laid_feria_cal_bounds)] }
def CalChecksSaid : Prop := calChecksRow.holds Tryd.pinned (OpenSpec.ofChange calChecksSpec)

/-- ITS FALSE NEIGHBOUR: 'it returns false'. Refute it at one input. -/
def calChecksWrong : ChangeSpec := { name := "calChecks", fn := fun _ => fun
  | [d] => { results := [.lit (.bool false)], args := [d] }
  | _ => none }
def CalChecksWrongFalsely : Prop := calChecksRow.holds Tryd.pinned (OpenSpec.ofChange calChecksWrong)

/-- 'ferialaw28.CalFields': WHATEVER THE INPUT: true; the input reads as it did. -/
def calFieldsSpec : ChangeSpec := { name := "calFields", fn := fun _ => fun
  | [d1, d2, d3] => { results := [.lit (.bool true)], args := [d1, d2, d3] }
  | _ => none }
def calFieldsRow : OpenClaim := { program := "ytjlieamjlelipaadoor", sum := "6f6cf1e4400be0e6c9c2aa6a2b19e42f1c7e626c4b96911e0e96ab630c219419", func := "feria/ferialaw28.CalFields", spec := "calFields", unfollowed := true, recurses := true, named := ["feria/cal.bounds"], apart := false, laid := [("feria/cal.bounds", laid_feria_cal_bounds)] }
def CalFieldsSaid : Prop := calFieldsRow.holds Tryd.pinned (OpenSpec.ofChange calFieldsSpec)

/-- ITS FALSE NEIGHBOUR: 'it returns false'. Refute it at one input. -/
def calFieldsWrong : ChangeSpec := { name := "calFields", fn := fun _ => fun
  | [d1, d2, d3] => { results := [.lit (.bool false)], args := [d1, d2, d3] }
  | _ => none }
def CalFieldsWrongFalsely : Prop := calFieldsRow.holds Tryd.pinned (OpenSpec.ofChange calFieldsWrong)

/-- 'ferialaw24.CronChecks': WHATEVER THE INPUT: true; the input reads as it did. -/
def cronChecksSpec : ChangeSpec := { name := "cronChecks", fn := fun _ => fun
  | [d] => { results := [.lit (.bool true)], args := [d] }
  | _ => none }
def cronChecksRow : OpenClaim := { program := "ytjlieamjlelipaadoor", sum := "6f6cf1e4400be0e6c9c2aa6a2b19e42f1c7e626c4b96911e0e96ab630c219419", func := "feria/ferialaw24.CronChecks", spec := "cronChecks", unfollowed := true, recurses := true, named := ["feria/cron.bounds"], apart := false, laid := [("feria/cron.bounds", laid_feria_cron_bounds)] }
def CronChecksSaid : Prop := cronChecksRow.holds Tryd.pinned (OpenSpec.ofChange cronChecksSpec)

/-- ITS FALSE NEIGHBOUR: 'it returns false'. Refute it at one input. -/
def cronChecksWrong : ChangeSpec := { name := "cronChecks", fn := fun _ => fun
  | [d] => { results := [.lit (.bool false)], args := [d] }
  | _ => none }
def CronChecksWrongFalsely : Prop := cronChecksRow.holds Tryd.pinned (OpenSpec.ofChange cronChecksWrong)

/-- 'ferialaw13.ClauseMay': WHATEVER THE INPUT: true; the input reads as it did. -/
def clauseMaySpec : ChangeSpec := { name := "clauseMay", fn := fun _ => fun
  | [d] => { results := [.lit (.bool true)], args := [d] }
  | _ => none }
def clauseMayRow : OpenClaim := { program := "ytjlieamjlelipaadoor", sum := "6f6cf1e4400be0e6c9c2aa6a2b19e42f1c7e626c4b96911e0e96ab630c219419", func := "feria/ferialaw13.ClauseMay", spec := "clauseMay", unfollowed := true, recurses := true, named := ["feria/unit.names"], apart := false, laid := [("feria/unit.names", laid_feria_unit_names)] }
def ClauseMaySaid : Prop := clauseMayRow.holds Tryd.pinned (OpenSpec.ofChange clauseMaySpec)

/-- ITS FALSE NEIGHBOUR: 'it returns false'. Refute it at one input. -/
def clauseMayWrong : ChangeSpec := { name := "clauseMay", fn := fun _ => fun
  | [d] => { results := [.lit (.bool false)], args := [d] }
  | _ => none }
def ClauseMayWrongFalsely : Prop := clauseMayRow.holds Tryd.pinned (OpenSpec.ofChange clauseMayWrong)

/- THE SECOND FORM. 'bulk': how many values and letters a reading holds, each counted each time it is reached (what is shared counts as often as it is met; a slice's spare places count too). A statement '..UptoSaid' is the law's where the arguments, and the package variables that the reading takes, are together of bulk at most 1048576: NARROWER than '..Said'. Prove '..Said' where nothing that the law and all that it calls make is longer than what came in: it says more and counts as full. Else prove '..UptoSaid'. A law counts once. -/
mutual
def uptoBulk {H : Type} : DataW H → Nat
  | .lit (.string bytes) => bytes.length + 1
  | .lit _ => 1
  | .nil => 1
  | .ptr d => uptoBulk d + 1
  | .slice elems spare => uptoBulkAll elems + uptoBulkAll spare + 1
  | .agg parts => uptoBulkAll parts + 1
  | .iface _ d => uptoBulk d + 1
  | .map entries => uptoBulkEntries entries + 1
  | .held _ => 1
def uptoBulkAll {H : Type} : List (DataW H) → Nat
  | [] => 0
  | d :: r => uptoBulk d + uptoBulkAll r
def uptoBulkEntries {H : Type} : List (Lit × DataW H) → Nat
  | [] => 0
  | x :: r => uptoBulkEntry x + uptoBulkEntries r
def uptoBulkEntry {H : Type} : Lit × DataW H → Nat
  | (.string bytes, d) => bytes.length + uptoBulk d + 1
  | (_, d) => uptoBulk d + 1
 end
def uptoSmall : (H : Type) → List (DataW H) → Bool := fun _ ds => decide (uptoBulkAll ds ≤ 1048576)
def OpenSpec.upto (s : _root_.Go.ChangeSpec) : _root_.Go.OpenSpec := { _root_.Go.OpenSpec.ofChange s with cond := some uptoSmall }

/-- 'ferialaw02.MaskSpans', WHERE WHAT IT READS IS OF BULK AT MOST 1048576: true; the input reads as it did. -/
def maskSpansUptoRow : OpenClaim := { program := "ytjlieamjlelipaadoor", sum := "6f6cf1e4400be0e6c9c2aa6a2b19e42f1c7e626c4b96911e0e96ab630c219419", func := "feria/ferialaw02.MaskSpans", spec := "maskSpans", named := ["math/bits.deBruijn64tab"], apart := false, laid := [("math/bits.deBruijn64tab", laid_math_bits_deBruijn64tab)], narrowed := true }
def MaskSpansUptoSaid : Prop := maskSpansUptoRow.holds Tryd.pinned (OpenSpec.upto maskSpansSpec)

/-- 'ferialaw02.MaskNext', WHERE WHAT IT READS IS OF BULK AT MOST 1048576: true; the input reads as it did. -/
def maskNextUptoRow : OpenClaim := { program := "ytjlieamjlelipaadoor", sum := "6f6cf1e4400be0e6c9c2aa6a2b19e42f1c7e626c4b96911e0e96ab630c219419", func := "feria/ferialaw02.MaskNext", spec := "maskNext", named := ["math/bits.deBruijn64tab"], apart := false, laid := [("math/bits.deBruijn64tab", laid_math_bits_deBruijn64tab)], narrowed := true }
def MaskNextUptoSaid : Prop := maskNextUptoRow.holds Tryd.pinned (OpenSpec.upto maskNextSpec)

/-- 'ferialaw02.MaskAll', WHERE WHAT IT READS IS OF BULK AT MOST 1048576: true; the input reads as it did. -/
def maskAllUptoRow : OpenClaim := { program := "ytjlieamjlelipaadoor", sum := "6f6cf1e4400be0e6c9c2aa6a2b19e42f1c7e626c4b96911e0e96ab630c219419", func := "feria/ferialaw02.MaskAll", spec := "maskAll", unfollowed := true, recurses := true, named := ["math/bits.deBruijn64tab"], apart := false, laid := [("math/bits.deBruijn64tab", laid_math_bits_deBruijn64tab)], narrowed := true }
def MaskAllUptoSaid : Prop := maskAllUptoRow.holds Tryd.pinned (OpenSpec.upto maskAllSpec)

/-- 'ferialaw02.MaskBack', WHERE WHAT IT READS IS OF BULK AT MOST 1048576: true; the input reads as it did. -/
def maskBackUptoRow : OpenClaim := { program := "ytjlieamjlelipaadoor", sum := "6f6cf1e4400be0e6c9c2aa6a2b19e42f1c7e626c4b96911e0e96ab630c219419", func := "feria/ferialaw02.MaskBack", spec := "maskBack", unfollowed := true, recurses := true, named := ["math/bits.deBruijn64tab"], apart := false, laid := [("math/bits.deBruijn64tab", laid_math_bits_deBruijn64tab)], narrowed := true }
def MaskBackUptoSaid : Prop := maskBackUptoRow.holds Tryd.pinned (OpenSpec.upto maskBackSpec)

/-- 'ferialaw03.CoverOf', WHERE WHAT IT READS IS OF BULK AT MOST 1048576: true; the input reads as it did. -/
def coverOfUptoRow : OpenClaim := { program := "ytjlieamjlelipaadoor", sum := "6f6cf1e4400be0e6c9c2aa6a2b19e42f1c7e626c4b96911e0e96ab630c219419", func := "feria/ferialaw03.CoverOf", spec := "coverOf", unfollowed := true, recurses := true, named := ["math/bits.deBruijn64tab"], apart := false, laid := [("math/bits.deBruijn64tab", laid_math_bits_deBruijn64tab)], narrowed := true }
def CoverOfUptoSaid : Prop := coverOfUptoRow.holds Tryd.pinned (OpenSpec.upto coverOfSpec)

/-- 'ferialaw07.TodParts', WHERE WHAT IT READS IS OF BULK AT MOST 1048576: true; the input reads as it did. -/
def todPartsUptoRow : OpenClaim := { program := "ytjlieamjlelipaadoor", sum := "6f6cf1e4400be0e6c9c2aa6a2b19e42f1c7e626c4b96911e0e96ab630c219419", func := "feria/ferialaw07.TodParts", spec := "todParts", named := ["math/bits.deBruijn64tab"], apart := false, laid := [("math/bits.deBruijn64tab", laid_math_bits_deBruijn64tab)], narrowed := true }
def TodPartsUptoSaid : Prop := todPartsUptoRow.holds Tryd.pinned (OpenSpec.upto todPartsSpec)

/-- 'ferialaw28.CalChecks', WHERE WHAT IT READS IS OF BULK AT MOST 1048576: true; the input reads as it did. -/
def calChecksUptoRow : OpenClaim := { program := "ytjlieamjlelipaadoor", sum := "6f6cf1e4400be0e6c9c2aa6a2b19e42f1c7e626c4b96911e0e96ab630c219419", func := "feria/ferialaw28.CalChecks", spec := "calChecks", unfollowed := true, recurses := true, named := ["feria/cal.bounds"], apart := false, laid := [("feria/cal.bounds", laid_feria_cal_bounds)], narrowed := true }
def CalChecksUptoSaid : Prop := calChecksUptoRow.holds Tryd.pinned (OpenSpec.upto calChecksSpec)

/-- 'ferialaw28.CalFields', WHERE WHAT IT READS IS OF BULK AT MOST 1048576: true; the input reads as it did. -/
def calFieldsUptoRow : OpenClaim := { program := "ytjlieamjlelipaadoor", sum := "6f6cf1e4400be0e6c9c2aa6a2b19e42f1c7e626c4b96911e0e96ab630c219419", func := "feria/ferialaw28.CalFields", spec := "calFields", unfollowed := true, recurses := true, named := ["feria/cal.bounds"], apart := false, laid := [("feria/cal.bounds", laid_feria_cal_bounds)], narrowed := true }
def CalFieldsUptoSaid : Prop := calFieldsUptoRow.holds Tryd.pinned (OpenSpec.upto calFieldsSpec)

/-- 'ferialaw24.CronChecks', WHERE WHAT IT READS IS OF BULK AT MOST 1048576: true; the input reads as it did. -/
def cronChecksUptoRow : OpenClaim := { program := "ytjlieamjlelipaadoor", sum := "6f6cf1e4400be0e6c9c2aa6a2b19e42f1c7e626c4b96911e0e96ab630c219419", func := "feria/ferialaw24.CronChecks", spec := "cronChecks", unfollowed := true, recurses := true, named := ["feria/cron.bounds"], apart := false, laid := [("feria/cron.bounds", laid_feria_cron_bounds)], narrowed := true }
def CronChecksUptoSaid : Prop := cronChecksUptoRow.holds Tryd.pinned (OpenSpec.upto cronChecksSpec)

/-- 'ferialaw13.ClauseMay', WHERE WHAT IT READS IS OF BULK AT MOST 1048576: true; the input reads as it did. -/
def clauseMayUptoRow : OpenClaim := { program := "ytjlieamjlelipaadoor", sum := "6f6cf1e4400be0e6c9c2aa6a2b19e42f1c7e626c4b96911e0e96ab630c219419", func := "feria/ferialaw13.ClauseMay", spec := "clauseMay", unfollowed := true, recurses := true, named := ["feria/unit.names"], apart := false, laid := [("feria/unit.names", laid_feria_unit_names)], narrowed := true }
def ClauseMayUptoSaid : Prop := clauseMayUptoRow.holds Tryd.pinned (OpenSpec.upto clauseMaySpec)

end Rows
end Go.Proofs.YtjlieamjlelipaaDoor
