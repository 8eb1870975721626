/-
  DERIVED. GIVEN WITH THE SEED: THE CARDS: each row of YtigbbepgfofcoaaDoorRows.lean that lists a variable, with what it lists TIED to the program's text (the seventh form; the later family's looks); each row that meets fmt, with fmt's text TOLD by the authors' own Lean function (tested against real Go, not proved from fmt's source: count such statements apart). THE CARD IS WHAT COUNTS. Prove the row's statement (the work); the ties are given (YtigbbepgfofcoaaDoorTie.lean); close each card by the builder's one call (the guide's Derived/Test/ToyasCard.lean, 'card_holds'). Laid BY PROGRAM, IN A SANDBOX (cutbox-door.mjs). By AI agents, Wed Nov 11 2026. No macro, syntax, notation, axiom, sorry.
-/
import Derived.Test.YtigbbepgfofcoaaDoorRows
import GoSem.ClaimSeven
namespace Go.Proofs.YtigbbepgfofcoaaDoor
namespace Rows

/-- THE TIED CARD OF 'ferialaw32.RuleChecks'. -/
def ruleChecksCard : Claim7 := { stood := { row := ruleChecksRow, standIns := [], harness := (true, "dab7ccc2d80b2de03c24cbb2dcb371bba6b16b8e246007f030f61301fd9d3ac3"), looks := false }, kinds := [], alts := [], laidByText := true, laidKinds := [.data], laidTests := true, laidLooks := .later }
def RuleChecksCardSaid : Prop := Claim7.holds Tryd.pinned (.plain (OpenSpec.ofChange ruleChecksSpec)) ruleChecksCard

/-- THE TIED CARD OF 'ferialaw32.RuleDays'. -/
def ruleDaysCard : Claim7 := { stood := { row := ruleDaysRow, standIns := [], harness := (true, "dab7ccc2d80b2de03c24cbb2dcb371bba6b16b8e246007f030f61301fd9d3ac3"), looks := false }, kinds := [], alts := [], laidByText := true, laidKinds := [.data], laidTests := true, laidLooks := .later }
def RuleDaysCardSaid : Prop := Claim7.holds Tryd.pinned (.plain (OpenSpec.ofChange ruleDaysSpec)) ruleDaysCard

/-- THE TIED CARD OF 'ferialaw32.RuleTimes'. -/
def ruleTimesCard : Claim7 := { stood := { row := ruleTimesRow, standIns := [], harness := (true, "dab7ccc2d80b2de03c24cbb2dcb371bba6b16b8e246007f030f61301fd9d3ac3"), looks := false }, kinds := [], alts := [], laidByText := true, laidKinds := [.data], laidTests := true, laidLooks := .later }
def RuleTimesCardSaid : Prop := Claim7.holds Tryd.pinned (.plain (OpenSpec.ofChange ruleTimesSpec)) ruleTimesCard

/-- THE SECOND FORM's CARD OF 'ferialaw32.RuleChecks'. -/
def ruleChecksUptoCard : Claim7 := { stood := { row := ruleChecksUptoRow, standIns := [], harness := (true, "dab7ccc2d80b2de03c24cbb2dcb371bba6b16b8e246007f030f61301fd9d3ac3"), looks := false }, kinds := [], alts := [], laidByText := true, laidKinds := [.data], laidTests := true, laidLooks := .later }
def RuleChecksUptoCardSaid : Prop := Claim7.holds Tryd.pinned (.plain (OpenSpec.upto ruleChecksSpec)) ruleChecksUptoCard

/-- THE SECOND FORM's CARD OF 'ferialaw32.RuleDays'. -/
def ruleDaysUptoCard : Claim7 := { stood := { row := ruleDaysUptoRow, standIns := [], harness := (true, "dab7ccc2d80b2de03c24cbb2dcb371bba6b16b8e246007f030f61301fd9d3ac3"), looks := false }, kinds := [], alts := [], laidByText := true, laidKinds := [.data], laidTests := true, laidLooks := .later }
def RuleDaysUptoCardSaid : Prop := Claim7.holds Tryd.pinned (.plain (OpenSpec.upto ruleDaysSpec)) ruleDaysUptoCard

/-- THE SECOND FORM's CARD OF 'ferialaw32.RuleTimes'. -/
def ruleTimesUptoCard : Claim7 := { stood := { row := ruleTimesUptoRow, standIns := [], harness := (true, "dab7ccc2d80b2de03c24cbb2dcb371bba6b16b8e246007f030f61301fd9d3ac3"), looks := false }, kinds := [], alts := [], laidByText := true, laidKinds := [.data], laidTests := true, laidLooks := .later }
def RuleTimesUptoCardSaid : Prop := Claim7.holds Tryd.pinned (.plain (OpenSpec.upto ruleTimesSpec)) ruleTimesUptoCard
end Rows
end Go.Proofs.YtigbbepgfofcoaaDoor
