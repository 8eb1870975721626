/-
  DERIVED. GIVEN WITH THE SEED: THE CARDS: each row of YtjdoknbmnokkdaaDoorRows.lean that lists a variable, with what it lists TIED to the program's text (the seventh form; the later family's looks); each row that meets fmt, with fmt's text TOLD by the authors' own Lean function (tested against real Go, not proved from fmt's source: count such statements apart). THE CARD IS WHAT COUNTS. Prove the row's statement (the work); the ties are given (YtjdoknbmnokkdaaDoorTie.lean); close each card by the builder's one call (the guide's Derived/Test/ToyasCard.lean, 'card_holds'). Laid BY PROGRAM, IN A SANDBOX (cutbox-door.mjs). By AI agents, Wed Nov 11 2026. No macro, syntax, notation, axiom, sorry.
-/
import Derived.Test.YtjdoknbmnokkdaaDoorRows
import GoSem.ClaimSeven
namespace Go.Proofs.YtjdoknbmnokkdaaDoor
namespace Rows

/-- THE TIED CARD OF 'ferialaw24.CronWeeks'. -/
def cronWeeksCard : Claim7 := { stood := { row := cronWeeksRow, standIns := [], harness := (true, "176da19ed4868b821d839d68440021dcf75c9eb8946950e0cb8d5fb8bce868bf"), looks := false }, kinds := [], alts := [], laidByText := true, laidKinds := [.data], laidTests := true, laidLooks := .later }
def CronWeeksCardSaid : Prop := Claim7.holds Tryd.pinned (.plain (OpenSpec.ofChange cronWeeksSpec)) cronWeeksCard

/-- THE TIED CARD OF 'ferialaw26.CronshowItems'. -/
def cronshowItemsCard : Claim7 := { stood := { row := cronshowItemsRow, standIns := [], harness := (true, "176da19ed4868b821d839d68440021dcf75c9eb8946950e0cb8d5fb8bce868bf"), looks := false }, kinds := [], alts := [], laidByText := true, laidKinds := [.data, .data, .data], laidTests := true, laidLooks := .later }
def CronshowItemsCardSaid : Prop := Claim7.holds Tryd.pinned (.plain (OpenSpec.ofChange cronshowItemsSpec)) cronshowItemsCard

/-- THE TIED CARD OF 'ferialaw32.RuleChecks'. -/
def ruleChecksCard : Claim7 := { stood := { row := ruleChecksRow, standIns := [], harness := (true, "176da19ed4868b821d839d68440021dcf75c9eb8946950e0cb8d5fb8bce868bf"), looks := false }, kinds := [], alts := [], laidByText := true, laidKinds := [.data], laidTests := true, laidLooks := .later }
def RuleChecksCardSaid : Prop := Claim7.holds Tryd.pinned (.plain (OpenSpec.ofChange ruleChecksSpec)) ruleChecksCard

/-- THE TIED CARD OF 'ferialaw32.RuleDays'. -/
def ruleDaysCard : Claim7 := { stood := { row := ruleDaysRow, standIns := [], harness := (true, "176da19ed4868b821d839d68440021dcf75c9eb8946950e0cb8d5fb8bce868bf"), looks := false }, kinds := [], alts := [], laidByText := true, laidKinds := [.data], laidTests := true, laidLooks := .later }
def RuleDaysCardSaid : Prop := Claim7.holds Tryd.pinned (.plain (OpenSpec.ofChange ruleDaysSpec)) ruleDaysCard

/-- THE TIED CARD OF 'ferialaw32.RuleTimes'. -/
def ruleTimesCard : Claim7 := { stood := { row := ruleTimesRow, standIns := [], harness := (true, "176da19ed4868b821d839d68440021dcf75c9eb8946950e0cb8d5fb8bce868bf"), looks := false }, kinds := [], alts := [], laidByText := true, laidKinds := [.data], laidTests := true, laidLooks := .later }
def RuleTimesCardSaid : Prop := Claim7.holds Tryd.pinned (.plain (OpenSpec.ofChange ruleTimesSpec)) ruleTimesCard

/-- THE TIED CARD OF 'ferialaw45.BoundPeriods'. -/
def boundPeriodsCard : Claim7 := { stood := { row := boundPeriodsRow, standIns := [], harness := (true, "176da19ed4868b821d839d68440021dcf75c9eb8946950e0cb8d5fb8bce868bf"), looks := false }, kinds := [], alts := [], laidByText := true, laidKinds := [.data], laidTests := true, laidLooks := .later }
def BoundPeriodsCardSaid : Prop := Claim7.holds Tryd.pinned (.plain (OpenSpec.ofChange boundPeriodsSpec)) boundPeriodsCard

/-- THE SECOND FORM's CARD OF 'ferialaw24.CronWeeks'. -/
def cronWeeksUptoCard : Claim7 := { stood := { row := cronWeeksUptoRow, standIns := [], harness := (true, "176da19ed4868b821d839d68440021dcf75c9eb8946950e0cb8d5fb8bce868bf"), looks := false }, kinds := [], alts := [], laidByText := true, laidKinds := [.data], laidTests := true, laidLooks := .later }
def CronWeeksUptoCardSaid : Prop := Claim7.holds Tryd.pinned (.plain (OpenSpec.upto cronWeeksSpec)) cronWeeksUptoCard

/-- THE SECOND FORM's CARD OF 'ferialaw26.CronshowItems'. -/
def cronshowItemsUptoCard : Claim7 := { stood := { row := cronshowItemsUptoRow, standIns := [], harness := (true, "176da19ed4868b821d839d68440021dcf75c9eb8946950e0cb8d5fb8bce868bf"), looks := false }, kinds := [], alts := [], laidByText := true, laidKinds := [.data, .data, .data], laidTests := true, laidLooks := .later }
def CronshowItemsUptoCardSaid : Prop := Claim7.holds Tryd.pinned (.plain (OpenSpec.upto cronshowItemsSpec)) cronshowItemsUptoCard

/-- THE SECOND FORM's CARD OF 'ferialaw32.RuleChecks'. -/
def ruleChecksUptoCard : Claim7 := { stood := { row := ruleChecksUptoRow, standIns := [], harness := (true, "176da19ed4868b821d839d68440021dcf75c9eb8946950e0cb8d5fb8bce868bf"), looks := false }, kinds := [], alts := [], laidByText := true, laidKinds := [.data], laidTests := true, laidLooks := .later }
def RuleChecksUptoCardSaid : Prop := Claim7.holds Tryd.pinned (.plain (OpenSpec.upto ruleChecksSpec)) ruleChecksUptoCard

/-- THE SECOND FORM's CARD OF 'ferialaw32.RuleDays'. -/
def ruleDaysUptoCard : Claim7 := { stood := { row := ruleDaysUptoRow, standIns := [], harness := (true, "176da19ed4868b821d839d68440021dcf75c9eb8946950e0cb8d5fb8bce868bf"), looks := false }, kinds := [], alts := [], laidByText := true, laidKinds := [.data], laidTests := true, laidLooks := .later }
def RuleDaysUptoCardSaid : Prop := Claim7.holds Tryd.pinned (.plain (OpenSpec.upto ruleDaysSpec)) ruleDaysUptoCard

/-- THE SECOND FORM's CARD OF 'ferialaw32.RuleTimes'. -/
def ruleTimesUptoCard : Claim7 := { stood := { row := ruleTimesUptoRow, standIns := [], harness := (true, "176da19ed4868b821d839d68440021dcf75c9eb8946950e0cb8d5fb8bce868bf"), looks := false }, kinds := [], alts := [], laidByText := true, laidKinds := [.data], laidTests := true, laidLooks := .later }
def RuleTimesUptoCardSaid : Prop := Claim7.holds Tryd.pinned (.plain (OpenSpec.upto ruleTimesSpec)) ruleTimesUptoCard

/-- THE SECOND FORM's CARD OF 'ferialaw45.BoundPeriods'. -/
def boundPeriodsUptoCard : Claim7 := { stood := { row := boundPeriodsUptoRow, standIns := [], harness := (true, "176da19ed4868b821d839d68440021dcf75c9eb8946950e0cb8d5fb8bce868bf"), looks := false }, kinds := [], alts := [], laidByText := true, laidKinds := [.data], laidTests := true, laidLooks := .later }
def BoundPeriodsUptoCardSaid : Prop := Claim7.holds Tryd.pinned (.plain (OpenSpec.upto boundPeriodsSpec)) boundPeriodsUptoCard
end Rows
end Go.Proofs.YtjdoknbmnokkdaaDoor
