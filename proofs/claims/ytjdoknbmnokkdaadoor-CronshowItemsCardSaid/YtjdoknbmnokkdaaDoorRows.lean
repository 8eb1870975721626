/-
  NARROWER THAN 'FOR EVERY INPUT', by the rows' own cells (each row's printed sentence says how): CronWeeks: laid · CronshowItems: laid · RuleChecks: laid · RuleDays: laid · RuleTimes: laid · BoundPeriods: laid.
  DERIVED. THE GIVEN ROWS OF THIS SEAT. 6 by the template 'for every input the law returns true; each argument reads behind the call as it read before'; 0 by the template 'total and deterministic' (their statements: YtjdoknbmnokkdaaDoorTotals.lean).
  GIVEN WITH THE SEED: the statements are not yours to turn. If you find one false, say at which input.
  Laid BY PROGRAM, IN A SANDBOX (cutbox-rows.mjs): the forced cells as the released guide's own fill.sh prints them over the translation 0b5fd6c409c983bb… (all of the seat's roots in one cut). By AI agents, Wed Nov 11 2026. No macro, syntax, notation, axiom, sorry.
-/
import Derived.Test.YtjdoknbmnokkdaaDoorChecked
import GoSem.Claim
import GoSem.ClaimJoined
import GoSem.ClaimMapViews
import Derived.JoinedTies
import Derived.KernelRfl
namespace Go.Proofs.YtjdoknbmnokkdaaDoor
/- THE CELL 'sum', in the pinned program and in every row, IS THE sha256 OF THE DUMP (.gsa) THAT YtjdoknbmnokkdaaDoorProg.lean LOADS. Nothing in Lean hashes anything: it is a label: what it is worth is what the hold of that sum in a sandbox is worth. -/
noncomputable def Tryd.pinned : Pinned := { name := "ytjdoknbmnokkdaadoor", sum := "0b5fd6c409c983bba870e0055118d68541c2f82b026de49899c9257befbd8334", checked := Tryd.checked }
namespace Rows
def none {H : Type} : Left H := { results := [], args := [] }

/- WHAT THE LISTED PACKAGE-LEVEL VARIABLES READ AS WHEN THE CALL BEGINS. Each datum BY PROGRAM (the guide's laid-datum.mjs) off the statement by which the dump's own 'gosem.cut.vars' lays the variable. In a bare row this is a premise. The card (YtjdoknbmnokkdaaDoorCards.lean) ties it to the program's text. -/
def laid_feria_cron_bounds {H : Type} : DataW H := .agg [.agg [.lit (.int .i64 0), .lit (.int .i64 59)], .agg [.lit (.int .i64 0), .lit (.int .i64 23)], .agg [.lit (.int .i64 1), .lit (.int .i64 31)], .agg [.lit (.int .i64 1), .lit (.int .i64 12)], .agg [.lit (.int .i64 0), .lit (.int .i64 7)]]
def laid_math_bits_deBruijn32tab {H : Type} : DataW H := .agg [.lit (.int .u8 0), .lit (.int .u8 1), .lit (.int .u8 28), .lit (.int .u8 2), .lit (.int .u8 29), .lit (.int .u8 14), .lit (.int .u8 24), .lit (.int .u8 3), .lit (.int .u8 30), .lit (.int .u8 22), .lit (.int .u8 20), .lit (.int .u8 15), .lit (.int .u8 25), .lit (.int .u8 17), .lit (.int .u8 4), .lit (.int .u8 8), .lit (.int .u8 31), .lit (.int .u8 27), .lit (.int .u8 13), .lit (.int .u8 23), .lit (.int .u8 21), .lit (.int .u8 19), .lit (.int .u8 16), .lit (.int .u8 7), .lit (.int .u8 26), .lit (.int .u8 12), .lit (.int .u8 18), .lit (.int .u8 6), .lit (.int .u8 11), .lit (.int .u8 5), .lit (.int .u8 10), .lit (.int .u8 9)]
def laid_math_bits_deBruijn64tab {H : Type} : DataW H := .agg [.lit (.int .u8 0), .lit (.int .u8 1), .lit (.int .u8 56), .lit (.int .u8 2), .lit (.int .u8 57), .lit (.int .u8 49), .lit (.int .u8 28), .lit (.int .u8 3), .lit (.int .u8 61), .lit (.int .u8 58), .lit (.int .u8 42), .lit (.int .u8 50), .lit (.int .u8 38), .lit (.int .u8 29), .lit (.int .u8 17), .lit (.int .u8 4), .lit (.int .u8 62), .lit (.int .u8 47), .lit (.int .u8 59), .lit (.int .u8 36), .lit (.int .u8 45), .lit (.int .u8 43), .lit (.int .u8 51), .lit (.int .u8 22), .lit (.int .u8 53), .lit (.int .u8 39), .lit (.int .u8 33), .lit (.int .u8 30), .lit (.int .u8 24), .lit (.int .u8 18), .lit (.int .u8 12), .lit (.int .u8 5), .lit (.int .u8 63), .lit (.int .u8 55), .lit (.int .u8 48), .lit (.int .u8 27), .lit (.int .u8 60), .lit (.int .u8 41), .lit (.int .u8 37), .lit (.int .u8 16), .lit (.int .u8 46), .lit (.int .u8 35), .lit (.int .u8 44), .lit (.int .u8 21), .lit (.int .u8 52), .lit (.int .u8 32), .lit (.int .u8 23), .lit (.int .u8 11), .lit (.int .u8 54), .lit (.int .u8 26), .lit (.int .u8 40), .lit (.int .u8 15), .lit (.int .u8 34), .lit (.int .u8 20), .lit (.int .u8 31), .lit (.int .u8 10), .lit (.int .u8 25), .lit (.int .u8 14), .lit (.int .u8 19), .lit (.int .u8 9), .lit (.int .u8 13), .lit (.int .u8 8), .lit (.int .u8 7), .lit (.int .u8 6)]
def laid_internal_strconv_uint64pow10 {H : Type} : DataW H := .agg [.lit (.int .u64 1), .lit (.int .u64 10), .lit (.int .u64 100), .lit (.int .u64 1000), .lit (.int .u64 10000), .lit (.int .u64 100000), .lit (.int .u64 1000000), .lit (.int .u64 10000000), .lit (.int .u64 100000000), .lit (.int .u64 1000000000), .lit (.int .u64 10000000000), .lit (.int .u64 100000000000), .lit (.int .u64 1000000000000), .lit (.int .u64 10000000000000), .lit (.int .u64 100000000000000), .lit (.int .u64 1000000000000000), .lit (.int .u64 10000000000000000), .lit (.int .u64 100000000000000000), .lit (.int .u64 1000000000000000000), .lit (.int .u64 10000000000000000000)]
def laid_feria_unit_names {H : Type} : DataW H := .agg [.lit (.string [83, 69, 67, 79, 78, 68, 76, 89]), .lit (.string [77, 73, 78, 85, 84, 69, 76, 89]), .lit (.string [72, 79, 85, 82, 76, 89]), .lit (.string [68, 65, 73, 76, 89]), .lit (.string [87, 69, 69, 75, 76, 89]), .lit (.string [77, 79, 78, 84, 72, 76, 89]), .lit (.string [89, 69, 65, 82, 76, 89])]

/-- 'ferialaw24.CronWeeks': WHATEVER THE INPUT: true; the input reads as it did. -/
def cronWeeksSpec : ChangeSpec := { name := "cronWeeks", fn := fun _ => fun
  | [d] => { results := [.lit (.bool true)], args := [d] }
  | _ => none }
def cronWeeksRow : OpenClaim := { program := "ytjdoknbmnokkdaadoor", sum := "0b5fd6c409c983bba870e0055118d68541c2f82b026de49899c9257befbd8334", func := "feria/ferialaw24.CronWeeks", spec := "cronWeeks", unfollowed := true, recurses := true, named := ["feria/cron.bounds"], apart := false, laid := [("feria/cron.bounds", laid_feria_cron_bounds)] }
def CronWeeksSaid : Prop := cronWeeksRow.holds Tryd.pinned (OpenSpec.ofChange cronWeeksSpec)

/-- ITS FALSE NEIGHBOUR: 'it returns false'. Refute it at one input. -/
def cronWeeksWrong : ChangeSpec := { name := "cronWeeks", fn := fun _ => fun
  | [d] => { results := [.lit (.bool false)], args := [d] }
  | _ => none }
def CronWeeksWrongFalsely : Prop := cronWeeksRow.holds Tryd.pinned (OpenSpec.ofChange cronWeeksWrong)

/-- 'ferialaw26.CronshowItems': WHATEVER THE INPUT: true; the input reads as it did. -/
def cronshowItemsSpec : ChangeSpec := { name := "cronshowItems", fn := fun _ => fun
  | [d] => { results := [.lit (.bool true)], args := [d] }
  | _ => none }
def cronshowItemsRow : OpenClaim := { program := "ytjdoknbmnokkdaadoor", sum := "0b5fd6c409c983bba870e0055118d68541c2f82b026de49899c9257befbd8334", func := "feria/ferialaw26.CronshowItems", spec := "cronshowItems", inPlace := ["internal/abi.NoEscape", "internal/bytealg.MakeNoZero"], recurses := true, named := ["internal/strconv.uint64pow10", "math/bits.deBruijn32tab", "math/bits.deBruijn64tab"], apart := false, laid := [("math/bits.deBruijn32tab", laid_math_bits_deBruijn32tab), ("math/bits.deBruijn64tab", laid_math_bits_deBruijn64tab), ("internal/strconv.uint64pow10", laid_internal_strconv_uint64pow10)] }
def CronshowItemsSaid : Prop := cronshowItemsRow.holds Tryd.pinned (OpenSpec.ofChange cronshowItemsSpec)

/-- ITS FALSE NEIGHBOUR: 'it returns false'. Refute it at one input. -/
def cronshowItemsWrong : ChangeSpec := { name := "cronshowItems", fn := fun _ => fun
  | [d] => { results := [.lit (.bool false)], args := [d] }
  | _ => none }
def CronshowItemsWrongFalsely : Prop := cronshowItemsRow.holds Tryd.pinned (OpenSpec.ofChange cronshowItemsWrong)

/-- 'ferialaw32.RuleChecks': WHATEVER THE INPUT: true; the input reads as it did. -/
def ruleChecksSpec : ChangeSpec := { name := "ruleChecks", fn := fun _ => fun
  | [d1, d2] => { results := [.lit (.bool true)], args := [d1, d2] }
  | _ => none }
def ruleChecksRow : OpenClaim := { program := "ytjdoknbmnokkdaadoor", sum := "0b5fd6c409c983bba870e0055118d68541c2f82b026de49899c9257befbd8334", func := "feria/ferialaw32.RuleChecks", spec := "ruleChecks", unfollowed := true, recurses := true, named := ["feria/unit.names"], apart := false, laid := [("feria/unit.names", laid_feria_unit_names)] }
def RuleChecksSaid : Prop := ruleChecksRow.holds Tryd.pinned (OpenSpec.ofChange ruleChecksSpec)

/-- ITS FALSE NEIGHBOUR: 'it returns false'. Refute it at one input. -/
def ruleChecksWrong : ChangeSpec := { name := "ruleChecks", fn := fun _ => fun
  | [d1, d2] => { results := [.lit (.bool false)], args := [d1, d2] }
  | _ => none }
def RuleChecksWrongFalsely : Prop := ruleChecksRow.holds Tryd.pinned (OpenSpec.ofChange ruleChecksWrong)

/-- 'ferialaw32.RuleDays': WHATEVER THE INPUT: true; the input reads as it did. -/
def ruleDaysSpec : ChangeSpec := { name := "ruleDays", fn := fun _ => fun
  | [d1, d2] => { results := [.lit (.bool true)], args := [d1, d2] }
  | _ => none }
def ruleDaysRow : OpenClaim := { program := "ytjdoknbmnokkdaadoor", sum := "0b5fd6c409c983bba870e0055118d68541c2f82b026de49899c9257befbd8334", func := "feria/ferialaw32.RuleDays", spec := "ruleDays", unfollowed := true, recurses := true, named := ["feria/unit.names"], apart := false, laid := [("feria/unit.names", laid_feria_unit_names)] }
def RuleDaysSaid : Prop := ruleDaysRow.holds Tryd.pinned (OpenSpec.ofChange ruleDaysSpec)

/-- ITS FALSE NEIGHBOUR: 'it returns false'. Refute it at one input. -/
def ruleDaysWrong : ChangeSpec := { name := "ruleDays", fn := fun _ => fun
  | [d1, d2] => { results := [.lit (.bool false)], args := [d1, d2] }
  | _ => none }
def RuleDaysWrongFalsely : Prop := ruleDaysRow.holds Tryd.pinned (OpenSpec.ofChange ruleDaysWrong)

/-- 'ferialaw32.RuleTimes': WHATEVER THE INPUT: true; the input reads as it did. -/
def ruleTimesSpec : ChangeSpec := { name := "ruleTimes", fn := fun _ => fun
  | [d1, d2] => { results := [.lit (.bool true)], args := [d1, d2] }
  | _ => none }
def ruleTimesRow : OpenClaim := { program := "ytjdoknbmnokkdaadoor", sum := "0b5fd6c409c983bba870e0055118d68541c2f82b026de49899c9257befbd8334", func := "feria/ferialaw32.RuleTimes", spec := "ruleTimes", unfollowed := true, recurses := true, named := ["feria/unit.names"], apart := false, laid := [("feria/unit.names", laid_feria_unit_names)] }
def RuleTimesSaid : Prop := ruleTimesRow.holds Tryd.pinned (OpenSpec.ofChange ruleTimesSpec)

/-- ITS FALSE NEIGHBOUR: 'it returns false'. Refute it at one input. -/
def ruleTimesWrong : ChangeSpec := { name := "ruleTimes", fn := fun _ => fun
  | [d1, d2] => { results := [.lit (.bool false)], args := [d1, d2] }
  | _ => none }
def RuleTimesWrongFalsely : Prop := ruleTimesRow.holds Tryd.pinned (OpenSpec.ofChange ruleTimesWrong)

/-- 'ferialaw45.BoundPeriods': WHATEVER THE INPUT: true; the input reads as it did. -/
def boundPeriodsSpec : ChangeSpec := { name := "boundPeriods", fn := fun _ => fun
  | [d1, d2] => { results := [.lit (.bool true)], args := [d1, d2] }
  | _ => none }
def boundPeriodsRow : OpenClaim := { program := "ytjdoknbmnokkdaadoor", sum := "0b5fd6c409c983bba870e0055118d68541c2f82b026de49899c9257befbd8334", func := "feria/ferialaw45.BoundPeriods", spec := "boundPeriods", unfollowed := true, recurses := true, named := ["feria/unit.names"], apart := false, laid := [("feria/unit.names", laid_feria_unit_names)] }
def BoundPeriodsSaid : Prop := boundPeriodsRow.holds Tryd.pinned (OpenSpec.ofChange boundPeriodsSpec)

/-- ITS FALSE NEIGHBOUR: 'it returns false'. Refute it at one input. -/
def boundPeriodsWrong : ChangeSpec := { name := "boundPeriods", fn := fun _ => fun
  | [d1, d2] => { results := [.lit (.bool false)], args := [d1, d2] }
  | _ => none }
def BoundPeriodsWrongFalsely : Prop := boundPeriodsRow.holds Tryd.pinned (OpenSpec.ofChange boundPeriodsWrong)

/- THE SECOND FORM. 'bulk': how many values and letters a reading holds, each counted each time it is reached (what is shared counts as often as it is met; a slice's spare places count too). A statement '..UptoSaid' is the law's where the arguments, and the package variables that the reading takes, are together of bulk at most 1048576: NARROWER than '..Said'. Prove '..Said' where nothing that the law and all that it calls make is longer than what came in: it says more and counts as full. Else prove '..UptoSaid'. A law counts once. -/
mutual
def uptoBulk {H : Type} : DataW H → Nat
  | .lit (.string bytes) => bytes.length + 1
  | .lit _ => 1
  | .nil => 1
  | .ptr d => uptoBulk d + 1
  | .slice elems spare => uptoBulkAll elems + uptoBulkAll spare + 1
  | .agg parts => uptoBulkAll parts + 1
  | .iface _ d => uptoBulk d + 1
  | .map entries => uptoBulkEntries entries + 1
  | .held _ => 1
def uptoBulkAll {H : Type} : List (DataW H) → Nat
  | [] => 0
  | d :: r => uptoBulk d + uptoBulkAll r
def uptoBulkEntries {H : Type} : List (Lit × DataW H) → Nat
  | [] => 0
  | x :: r => uptoBulkEntry x + uptoBulkEntries r
def uptoBulkEntry {H : Type} : Lit × DataW H → Nat
  | (.string bytes, d) => bytes.length + uptoBulk d + 1
  | (_, d) => uptoBulk d + 1
 end
def uptoSmall : (H : Type) → List (DataW H) → Bool := fun _ ds => decide (uptoBulkAll ds ≤ 1048576)
def OpenSpec.upto (s : _root_.Go.ChangeSpec) : _root_.Go.OpenSpec := { _root_.Go.OpenSpec.ofChange s with cond := some uptoSmall }

/-- 'ferialaw24.CronWeeks', WHERE WHAT IT READS IS OF BULK AT MOST 1048576: true; the input reads as it did. -/
def cronWeeksUptoRow : OpenClaim := { program := "ytjdoknbmnokkdaadoor", sum := "0b5fd6c409c983bba870e0055118d68541c2f82b026de49899c9257befbd8334", func := "feria/ferialaw24.CronWeeks", spec := "cronWeeks", unfollowed := true, recurses := true, named := ["feria/cron.bounds"], apart := false, laid := [("feria/cron.bounds", laid_feria_cron_bounds)], narrowed := true }
def CronWeeksUptoSaid : Prop := cronWeeksUptoRow.holds Tryd.pinned (OpenSpec.upto cronWeeksSpec)

/-- 'ferialaw26.CronshowItems', WHERE WHAT IT READS IS OF BULK AT MOST 1048576: true; the input reads as it did. -/
def cronshowItemsUptoRow : OpenClaim := { program := "ytjdoknbmnokkdaadoor", sum := "0b5fd6c409c983bba870e0055118d68541c2f82b026de49899c9257befbd8334", func := "feria/ferialaw26.CronshowItems", spec := "cronshowItems", inPlace := ["internal/abi.NoEscape", "internal/bytealg.MakeNoZero"], recurses := true, named := ["internal/strconv.uint64pow10", "math/bits.deBruijn32tab", "math/bits.deBruijn64tab"], apart := false, laid := [("math/bits.deBruijn32tab", laid_math_bits_deBruijn32tab), ("math/bits.deBruijn64tab", laid_math_bits_deBruijn64tab), ("internal/strconv.uint64pow10", laid_internal_strconv_uint64pow10)], narrowed := true }
def CronshowItemsUptoSaid : Prop := cronshowItemsUptoRow.holds Tryd.pinned (OpenSpec.upto cronshowItemsSpec)

/-- 'ferialaw32.RuleChecks', WHERE WHAT IT READS IS OF BULK AT MOST 1048576: true; the input reads as it did. -/
def ruleChecksUptoRow : OpenClaim := { program := "ytjdoknbmnokkdaadoor", sum := "0b5fd6c409c983bba870e0055118d68541c2f82b026de49899c9257befbd8334", func := "feria/ferialaw32.RuleChecks", spec := "ruleChecks", unfollowed := true, recurses := true, named := ["feria/unit.names"], apart := false, laid := [("feria/unit.names", laid_feria_unit_names)], narrowed := true }
def RuleChecksUptoSaid : Prop := ruleChecksUptoRow.holds Tryd.pinned (OpenSpec.upto ruleChecksSpec)

/-- 'ferialaw32.RuleDays', WHERE WHAT IT READS IS OF BULK AT MOST 1048576: true; the input reads as it did. -/
def ruleDaysUptoRow : OpenClaim := { program := "ytjdoknbmnokkdaadoor", sum := "0b5fd6c409c983bba870e0055118d68541c2f82b026de49899c9257befbd8334", func := "feria/ferialaw32.RuleDays", spec := "ruleDays", unfollowed := true, recurses := true, named := ["feria/unit.names"], apart := false, laid := [("feria/unit.names", laid_feria_unit_names)], narrowed := true }
def RuleDaysUptoSaid : Prop := ruleDaysUptoRow.holds Tryd.pinned (OpenSpec.upto ruleDaysSpec)

/-- 'ferialaw32.RuleTimes', WHERE WHAT IT READS IS OF BULK AT MOST 1048576: true; the input reads as it did. -/
def ruleTimesUptoRow : OpenClaim := { program := "ytjdoknbmnokkdaadoor", sum := "0b5fd6c409c983bba870e0055118d68541c2f82b026de49899c9257befbd8334", func := "feria/ferialaw32.RuleTimes", spec := "ruleTimes", unfollowed := true, recurses := true, named := ["feria/unit.names"], apart := false, laid := [("feria/unit.names", laid_feria_unit_names)], narrowed := true }
def RuleTimesUptoSaid : Prop := ruleTimesUptoRow.holds Tryd.pinned (OpenSpec.upto ruleTimesSpec)

/-- 'ferialaw45.BoundPeriods', WHERE WHAT IT READS IS OF BULK AT MOST 1048576: true; the input reads as it did. -/
def boundPeriodsUptoRow : OpenClaim := { program := "ytjdoknbmnokkdaadoor", sum := "0b5fd6c409c983bba870e0055118d68541c2f82b026de49899c9257befbd8334", func := "feria/ferialaw45.BoundPeriods", spec := "boundPeriods", unfollowed := true, recurses := true, named := ["feria/unit.names"], apart := false, laid := [("feria/unit.names", laid_feria_unit_names)], narrowed := true }
def BoundPeriodsUptoSaid : Prop := boundPeriodsUptoRow.holds Tryd.pinned (OpenSpec.upto boundPeriodsSpec)

end Rows
end Go.Proofs.YtjdoknbmnokkdaaDoor
