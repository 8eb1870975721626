/-
  NARROWER THAN 'FOR EVERY INPUT', by the rows' own cells (each row's printed sentence says how): CronChecks: laid · CronFields: laid · CalChecks: laid · CalFields: laid · CalEach: laid.
  DERIVED. THE GIVEN ROWS OF THIS SEAT. 5 by the template 'for every input the law returns true; each argument reads behind the call as it read before'; 0 by the template 'total and deterministic' (their statements: YtjgifiaokmmjfaaDoorTotals.lean).
  GIVEN WITH THE SEED: the statements are not yours to turn. If you find one false, say at which input.
  Laid BY PROGRAM, IN A SANDBOX (cutbox-rows.mjs): the forced cells as the released guide's own fill.sh prints them over the translation afd636b4205e1183… (all of the seat's roots in one cut). By AI agents, Wed Nov 11 2026. No macro, syntax, notation, axiom, sorry.
-/
import Derived.Test.YtjgifiaokmmjfaaDoorChecked
import GoSem.Claim
import GoSem.ClaimJoined
import GoSem.ClaimMapViews
import Derived.JoinedTies
import Derived.KernelRfl
namespace Go.Proofs.YtjgifiaokmmjfaaDoor
/- THE CELL 'sum', in the pinned program and in every row, IS THE sha256 OF THE DUMP (.gsa) THAT YtjgifiaokmmjfaaDoorProg.lean LOADS. Nothing in Lean hashes anything: it is a label: what it is worth is what the hold of that sum in a sandbox is worth. -/
noncomputable def Tryd.pinned : Pinned := { name := "ytjgifiaokmmjfaadoor", sum := "afd636b4205e1183ec488f6ab7907cf20f4b2c99b4424df5dceaa44c8ca9d3d6", checked := Tryd.checked }
namespace Rows
def none {H : Type} : Left H := { results := [], args := [] }

/- WHAT THE LISTED PACKAGE-LEVEL VARIABLES READ AS WHEN THE CALL BEGINS. Each datum BY PROGRAM (the guide's laid-datum.mjs) off the statement by which the dump's own 'gosem.cut.vars' lays the variable. In a bare row this is a premise. The card (YtjgifiaokmmjfaaDoorCards.lean) ties it to the program's text. -/
def laid_feria_cron_bounds {H : Type} : DataW H := .agg [.agg [.lit (.int .i64 0), .lit (.int .i64 59)], .agg [.lit (.int .i64 0), .lit (.int .i64 23)], .agg [.lit (.int .i64 1), .lit (.int .i64 31)], .agg [.lit (.int .i64 1), .lit (.int .i64 12)], .agg [.lit (.int .i64 0), .lit (.int .i64 7)]]
def laid_feria_cal_bounds {H : Type} : DataW H := .agg [.agg [.lit (.int .i64 1), .lit (.int .i64 7)], .agg [.lit (.int .i64 1970), .lit (.int .i64 2369)], .agg [.lit (.int .i64 1), .lit (.int .i64 12)], .agg [.lit (.int .i64 1), .lit (.int .i64 31)], .agg [.lit (.int .i64 0), .lit (.int .i64 23)], .agg [.lit (.int .i64 0), .lit (.int .i64 59)], .agg [.lit (.int .i64 0), .lit (.int .i64 59)]]

/-- 'ferialaw24.CronChecks': WHATEVER THE INPUT: true; the input reads as it did. -/
def cronChecksSpec : ChangeSpec := { name := "cronChecks", fn := fun _ => fun
  | [d] => { results := [.lit (.bool true)], args := [d] }
  | _ => none }
def cronChecksRow : OpenClaim := { program := "ytjgifiaokmmjfaadoor", sum := "afd636b4205e1183ec488f6ab7907cf20f4b2c99b4424df5dceaa44c8ca9d3d6", func := "feria/ferialaw24.CronChecks", spec := "cronChecks", unfollowed := true, recurses := true, named := ["feria/cron.bounds"], apart := false, laid := [("feria/cron.bounds", laid_feria_cron_bounds)] }
def CronChecksSaid : Prop := cronChecksRow.holds Tryd.pinned (OpenSpec.ofChange cronChecksSpec)

/-- ITS FALSE NEIGHBOUR: 'it returns false'. Refute it at one input. -/
def cronChecksWrong : ChangeSpec := { name := "cronChecks", fn := fun _ => fun
  | [d] => { results := [.lit (.bool false)], args := [d] }
  | _ => none }
def CronChecksWrongFalsely : Prop := cronChecksRow.holds Tryd.pinned (OpenSpec.ofChange cronChecksWrong)

/-- 'ferialaw24.CronFields': WHATEVER THE INPUT: true; the input reads as it did. -/
def cronFieldsSpec : ChangeSpec := { name := "cronFields", fn := fun _ => fun
  | [d1, d2, d3] => { results := [.lit (.bool true)], args := [d1, d2, d3] }
  | _ => none }
def cronFieldsRow : OpenClaim := { program := "ytjgifiaokmmjfaadoor", sum := "afd636b4205e1183ec488f6ab7907cf20f4b2c99b4424df5dceaa44c8ca9d3d6", func := "feria/ferialaw24.CronFields", spec := "cronFields", unfollowed := true, recurses := true, named := ["feria/cron.bounds"], apart := false, laid := [("feria/cron.bounds", laid_feria_cron_bounds)] }
def CronFieldsSaid : Prop := cronFieldsRow.holds Tryd.pinned (OpenSpec.ofChange cronFieldsSpec)

/-- ITS FALSE NEIGHBOUR: 'it returns false'. Refute it at one input. -/
def cronFieldsWrong : ChangeSpec := { name := "cronFields", fn := fun _ => fun
  | [d1, d2, d3] => { results := [.lit (.bool false)], args := [d1, d2, d3] }
  | _ => none }
def CronFieldsWrongFalsely : Prop := cronFieldsRow.holds Tryd.pinned (OpenSpec.ofChange cronFieldsWrong)

/-- 'ferialaw28.CalChecks': WHATEVER THE INPUT: true; the input reads as it did. -/
def calChecksSpec : ChangeSpec := { name := "calChecks", fn := fun _ => fun
  | [d] => { results := [.lit (.bool true)], args := [d] }
  | _ => none }
def calChecksRow : OpenClaim := { program := "ytjgifiaokmmjfaadoor", sum := "afd636b4205e1183ec488f6ab7907cf20f4b2c99b4424df5dceaa44c8ca9d3d6", func := "feria/ferialaw28.CalChecks", spec := "calChecks", unfollowed := true, recurses := true, named := ["feria/cal.bounds"], apart := false, laid := [("feria/cal.bounds", laid_feria_cal_bounds)] }
def CalChecksSaid : Prop := calChecksRow.holds Tryd.pinned (OpenSpec.ofChange calChecksSpec)

/-- ITS FALSE NEIGHBOUR: 'it returns false'. Refute it at one input. -/
def calChecksWrong : ChangeSpec := { name := "calChecks", fn := fun _ => fun
  | [d] => { results := [.lit (.bool false)], args := [d] }
  | _ => none }
def CalChecksWrongFalsely : Prop := calChecksRow.holds Tryd.pinned (OpenSpec.ofChange calChecksWrong)

/-- 'ferialaw28.CalFields': WHATEVER THE INPUT: true; the input reads as it did. -/
def calFieldsSpec : ChangeSpec := { name := "calFields", fn := fun _ => fun
  | [d1, d2, d3] => { results := [.lit (.bool true)], args := [d1, d2, d3] }
  | _ => none }
def calFieldsRow : OpenClaim := { program := "ytjgifiaokmmjfaadoor", sum := "afd636b4205e1183ec488f6ab7907cf20f4b2c99b4424df5dceaa44c8ca9d3d6", func := "feria/ferialaw28.CalFields", spec := "calFields", unfollowed := true, recurses := true, named := ["feria/cal.bounds"], apart := false, laid := [("feria/cal.bounds", laid_feria_cal_bounds)] }
def CalFieldsSaid : Prop := calFieldsRow.holds Tryd.pinned (OpenSpec.ofChange calFieldsSpec)

/-- ITS FALSE NEIGHBOUR: 'it returns false'. Refute it at one input. -/
def calFieldsWrong : ChangeSpec := { name := "calFields", fn := fun _ => fun
  | [d1, d2, d3] => { results := [.lit (.bool false)], args := [d1, d2, d3] }
  | _ => none }
def CalFieldsWrongFalsely : Prop := calFieldsRow.holds Tryd.pinned (OpenSpec.ofChange calFieldsWrong)

/-- 'ferialaw28.CalEach': WHATEVER THE INPUT: true; the input reads as it did. -/
def calEachSpec : ChangeSpec := { name := "calEach", fn := fun _ => fun
  | [d1, d2, d3] => { results := [.lit (.bool true)], args := [d1, d2, d3] }
  | _ => none }
def calEachRow : OpenClaim := { program := "ytjgifiaokmmjfaadoor", sum := "afd636b4205e1183ec488f6ab7907cf20f4b2c99b4424df5dceaa44c8ca9d3d6", func := "feria/ferialaw28.CalEach", spec := "calEach", unfollowed := true, recurses := true, named := ["feria/cal.bounds"], apart := false, laid := [("feria/cal.bounds", laid_feria_cal_bounds)] }
def CalEachSaid : Prop := calEachRow.holds Tryd.pinned (OpenSpec.ofChange calEachSpec)

/-- ITS FALSE NEIGHBOUR: 'it returns false'. Refute it at one input. -/
def calEachWrong : ChangeSpec := { name := "calEach", fn := fun _ => fun
  | [d1, d2, d3] => { results := [.lit (.bool false)], args := [d1, d2, d3] }
  | _ => none }
def CalEachWrongFalsely : Prop := calEachRow.holds Tryd.pinned (OpenSpec.ofChange calEachWrong)

/- THE SECOND FORM. 'bulk': how many values and letters a reading holds, each counted each time it is reached (what is shared counts as often as it is met; a slice's spare places count too). A statement '..UptoSaid' is the law's where the arguments, and the package variables that the reading takes, are together of bulk at most 1048576: NARROWER than '..Said'. Prove '..Said' where nothing that the law and all that it calls make is longer than what came in: it says more and counts as full. Else prove '..UptoSaid'. A law counts once. -/
mutual
def uptoBulk {H : Type} : DataW H → Nat
  | .lit (.string bytes) => bytes.length + 1
  | .lit _ => 1
  | .nil => 1
  | .ptr d => uptoBulk d + 1
  | .slice elems spare => uptoBulkAll elems + uptoBulkAll spare + 1
  | .agg parts => uptoBulkAll parts + 1
  | .iface _ d => uptoBulk d + 1
  | .map entries => uptoBulkEntries entries + 1
  | .held _ => 1
def uptoBulkAll {H : Type} : List (DataW H) → Nat
  | [] => 0
  | d :: r => uptoBulk d + uptoBulkAll r
def uptoBulkEntries {H : Type} : List (Lit × DataW H) → Nat
  | [] => 0
  | x :: r => uptoBulkEntry x + uptoBulkEntries r
def uptoBulkEntry {H : Type} : Lit × DataW H → Nat
  | (.string bytes, d) => bytes.length + uptoBulk d + 1
  | (_, d) => uptoBulk d + 1
 end
def uptoSmall : (H : Type) → List (DataW H) → Bool := fun _ ds => decide (uptoBulkAll ds ≤ 1048576)
def OpenSpec.upto (s : _root_.Go.ChangeSpec) : _root_.Go.OpenSpec := { _root_.Go.OpenSpec.ofChange s with cond := some uptoSmall }

/-- 'ferialaw24.CronChecks', WHERE WHAT IT READS IS OF BULK AT MOST 1048576: true; the input reads as it did. -/
def cronChecksUptoRow : OpenClaim := { program := "ytjgifiaokmmjfaadoor", sum := "afd636b4205e1183ec488f6ab7907cf20f4b2c99b4424df5dceaa44c8ca9d3d6", func := "feria/ferialaw24.CronChecks", spec := "cronChecks", unfollowed := true, recurses := true, named := ["feria/cron.bounds"], apart := false, laid := [("feria/cron.bounds", laid_feria_cron_bounds)], narrowed := true }
def CronChecksUptoSaid : Prop := cronChecksUptoRow.holds Tryd.pinned (OpenSpec.upto cronChecksSpec)

/-- 'ferialaw24.CronFields', WHERE WHAT IT READS IS OF BULK AT MOST 1048576: true; the input reads as it did. -/
def cronFieldsUptoRow : OpenClaim := { program := "ytjgifiaokmmjfaadoor", sum := "afd636b4205e1183ec488f6ab7907cf20f4b2c99b4424df5dceaa44c8ca9d3d6", func := "feria/ferialaw24.CronFields", spec := "cronFields", unfollowed := true, recurses := true, named := ["feria/cron.bounds"], apart := false, laid := [("feria/cron.bounds", laid_feria_cron_bounds)], narrowed := true }
def CronFieldsUptoSaid : Prop := cronFieldsUptoRow.holds Tryd.pinned (OpenSpec.upto cronFieldsSpec)

/-- 'ferialaw28.CalChecks', WHERE WHAT IT READS IS OF BULK AT MOST 1048576: true; the input reads as it did. -/
def calChecksUptoRow : OpenClaim := { program := "ytjgifiaokmmjfaadoor", sum := "afd636b4205e1183ec488f6ab7907cf20f4b2c99b4424df5dceaa44c8ca9d3d6", func := "feria/ferialaw28.CalChecks", spec := "calChecks", unfollowed := true, recurses := true, named := ["feria/cal.bounds"], apart := false, laid := [("feria/cal.bounds", laid_feria_cal_bounds)], narrowed := true }
def CalChecksUptoSaid : Prop := calChecksUptoRow.holds Tryd.pinned (OpenSpec.upto calChecksSpec)

/-- 'ferialaw28.CalFields', WHERE WHAT IT READS IS OF BULK AT MOST 1048576: true; the input reads as it did. -/
def calFieldsUptoRow : OpenClaim := { program := "ytjgifiaokmmjfaadoor", sum := "afd636b4205e1183ec488f6ab7907cf20f4b2c99b4424df5dceaa44c8ca9d3d6", func := "feria/ferialaw28.CalFields", spec := "calFields", unfollowed := true, recurses := true, named := ["feria/cal.bounds"], apart := false, laid := [("feria/cal.bounds", laid_feria_cal_bounds)], narrowed := true }
def CalFieldsUptoSaid : Prop := calFieldsUptoRow.holds Tryd.pinned (OpenSpec.upto calFieldsSpec)

/-- 'ferialaw28.CalEach', WHERE WHAT IT READS IS OF BULK AT MOST 1048576: true; the input reads as it did. -/
def calEachUptoRow : OpenClaim := { program := "ytjgifiaokmmjfaadoor", sum := "afd636b4205e1183ec488f6ab7907cf20f4b2c99b4424df5dceaa44c8ca9d3d6", func := "feria/ferialaw28.CalEach", spec := "calEach", unfollowed := true, recurses := true, named := ["feria/cal.bounds"], apart := false, laid := [("feria/cal.bounds", laid_feria_cal_bounds)], narrowed := true }
def CalEachUptoSaid : Prop := calEachUptoRow.holds Tryd.pinned (OpenSpec.upto calEachSpec)

end Rows
end Go.Proofs.YtjgifiaokmmjfaaDoor
