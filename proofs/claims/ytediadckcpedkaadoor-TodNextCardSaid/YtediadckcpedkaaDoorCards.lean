/-
  DERIVED. GIVEN WITH THE SEED: THE CARDS: each row of YtediadckcpedkaaDoorRows.lean that lists a variable, with what it lists TIED to the program's text (the seventh form; the later family's looks); each row that meets fmt, with fmt's text TOLD by the authors' own Lean function (tested against real Go, not proved from fmt's source: count such statements apart). THE CARD IS WHAT COUNTS. Prove the row's statement (the work); the ties are given (YtediadckcpedkaaDoorTie.lean); close each card by the builder's one call (the guide's Derived/Test/ToyasCard.lean, 'card_holds'). Laid BY PROGRAM, IN A SANDBOX (cutbox-door.mjs). By AI agents, Wed Nov 11 2026. No macro, syntax, notation, axiom, sorry.
-/
import Derived.Test.YtediadckcpedkaaDoorRows
import GoSem.ClaimSeven
namespace Go.Proofs.YtediadckcpedkaaDoor
namespace Rows

/-- THE TIED CARD OF 'ferialaw06.WeekNames'. -/
def weekNamesCard : Claim7 := { stood := { row := weekNamesRow, standIns := [], harness := (true, "b756fec065c6d1d6430d8b30b94dce2b44568789020921d6cfec4c97177ce55b"), looks := false }, kinds := [], alts := [], laidByText := true, laidKinds := [.data], laidTests := true, laidLooks := .later }
def WeekNamesCardSaid : Prop := Claim7.holds Tryd.pinned (.plain (OpenSpec.ofChange weekNamesSpec)) weekNamesCard

/-- THE TIED CARD OF 'ferialaw10.UnitWhich'. -/
def unitWhichCard : Claim7 := { stood := { row := unitWhichRow, standIns := [], harness := (true, "b756fec065c6d1d6430d8b30b94dce2b44568789020921d6cfec4c97177ce55b"), looks := false }, kinds := [], alts := [], laidByText := true, laidKinds := [.data], laidTests := true, laidLooks := .later }
def UnitWhichCardSaid : Prop := Claim7.holds Tryd.pinned (.plain (OpenSpec.ofChange unitWhichSpec)) unitWhichCard

/-- THE TIED CARD OF 'ferialaw13.ClauseMay'. -/
def clauseMayCard : Claim7 := { stood := { row := clauseMayRow, standIns := [], harness := (true, "b756fec065c6d1d6430d8b30b94dce2b44568789020921d6cfec4c97177ce55b"), looks := false }, kinds := [], alts := [], laidByText := true, laidKinds := [.data], laidTests := true, laidLooks := .later }
def ClauseMayCardSaid : Prop := Claim7.holds Tryd.pinned (.plain (OpenSpec.ofChange clauseMaySpec)) clauseMayCard

/-- THE TIED CARD OF 'ferialaw07.TodNext'. -/
def todNextCard : Claim7 := { stood := { row := todNextRow, standIns := [], harness := (true, "b756fec065c6d1d6430d8b30b94dce2b44568789020921d6cfec4c97177ce55b"), looks := false }, kinds := [], alts := [], laidByText := true, laidKinds := [.data], laidTests := true, laidLooks := .later }
def TodNextCardSaid : Prop := Claim7.holds Tryd.pinned (.plain (OpenSpec.ofChange todNextSpec)) todNextCard

/-- THE TIED CARD OF 'ferialaw07.TodOn'. -/
def todOnCard : Claim7 := { stood := { row := todOnRow, standIns := [], harness := (true, "b756fec065c6d1d6430d8b30b94dce2b44568789020921d6cfec4c97177ce55b"), looks := false }, kinds := [], alts := [], laidByText := true, laidKinds := [.data], laidTests := true, laidLooks := .later }
def TodOnCardSaid : Prop := Claim7.holds Tryd.pinned (.plain (OpenSpec.ofChange todOnSpec)) todOnCard

/-- THE SECOND FORM's CARD OF 'ferialaw06.WeekNames'. -/
def weekNamesUptoCard : Claim7 := { stood := { row := weekNamesUptoRow, standIns := [], harness := (true, "b756fec065c6d1d6430d8b30b94dce2b44568789020921d6cfec4c97177ce55b"), looks := false }, kinds := [], alts := [], laidByText := true, laidKinds := [.data], laidTests := true, laidLooks := .later }
def WeekNamesUptoCardSaid : Prop := Claim7.holds Tryd.pinned (.plain (OpenSpec.upto weekNamesSpec)) weekNamesUptoCard

/-- THE SECOND FORM's CARD OF 'ferialaw10.UnitWhich'. -/
def unitWhichUptoCard : Claim7 := { stood := { row := unitWhichUptoRow, standIns := [], harness := (true, "b756fec065c6d1d6430d8b30b94dce2b44568789020921d6cfec4c97177ce55b"), looks := false }, kinds := [], alts := [], laidByText := true, laidKinds := [.data], laidTests := true, laidLooks := .later }
def UnitWhichUptoCardSaid : Prop := Claim7.holds Tryd.pinned (.plain (OpenSpec.upto unitWhichSpec)) unitWhichUptoCard

/-- THE SECOND FORM's CARD OF 'ferialaw13.ClauseMay'. -/
def clauseMayUptoCard : Claim7 := { stood := { row := clauseMayUptoRow, standIns := [], harness := (true, "b756fec065c6d1d6430d8b30b94dce2b44568789020921d6cfec4c97177ce55b"), looks := false }, kinds := [], alts := [], laidByText := true, laidKinds := [.data], laidTests := true, laidLooks := .later }
def ClauseMayUptoCardSaid : Prop := Claim7.holds Tryd.pinned (.plain (OpenSpec.upto clauseMaySpec)) clauseMayUptoCard

/-- THE SECOND FORM's CARD OF 'ferialaw07.TodNext'. -/
def todNextUptoCard : Claim7 := { stood := { row := todNextUptoRow, standIns := [], harness := (true, "b756fec065c6d1d6430d8b30b94dce2b44568789020921d6cfec4c97177ce55b"), looks := false }, kinds := [], alts := [], laidByText := true, laidKinds := [.data], laidTests := true, laidLooks := .later }
def TodNextUptoCardSaid : Prop := Claim7.holds Tryd.pinned (.plain (OpenSpec.upto todNextSpec)) todNextUptoCard

/-- THE SECOND FORM's CARD OF 'ferialaw07.TodOn'. -/
def todOnUptoCard : Claim7 := { stood := { row := todOnUptoRow, standIns := [], harness := (true, "b756fec065c6d1d6430d8b30b94dce2b44568789020921d6cfec4c97177ce55b"), looks := false }, kinds := [], alts := [], laidByText := true, laidKinds := [.data], laidTests := true, laidLooks := .later }
def TodOnUptoCardSaid : Prop := Claim7.holds Tryd.pinned (.plain (OpenSpec.upto todOnSpec)) todOnUptoCard
end Rows
end Go.Proofs.YtediadckcpedkaaDoor
