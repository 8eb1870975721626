/-
  DERIVED. GIVEN WITH THE SEED: THE CARDS: each row of YtjpdfbljhbgbcaaDoorRows.lean that lists a variable, with what it lists TIED to the program's text (the seventh form; the later family's looks); each row that meets fmt, with fmt's text TOLD by the authors' own Lean function (tested against real Go, not proved from fmt's source: count such statements apart). THE CARD IS WHAT COUNTS. Prove the row's statement (the work); the ties are given (YtjpdfbljhbgbcaaDoorTie.lean); close each card by the builder's one call (the guide's Derived/Test/ToyasCard.lean, 'card_holds'). Laid BY PROGRAM, IN A SANDBOX (cutbox-door.mjs). By AI agents, Wed Nov 11 2026. No macro, syntax, notation, axiom, sorry.
-/
import Derived.Test.YtjpdfbljhbgbcaaDoorRows
import GoSem.ClaimSeven
namespace Go.Proofs.YtjpdfbljhbgbcaaDoor
namespace Rows

/-- THE TIED CARD OF 'ferialaw07.TodAll'. -/
def todAllCard : Claim7 := { stood := { row := todAllRow, standIns := [], harness := (true, "b8f6027b7feb977b9230616156751bf2ba685d45fcb3dcc9cd66f8b1591889dd"), looks := false }, kinds := [], alts := [], laidByText := true, laidKinds := [.data], laidTests := true, laidLooks := .later }
def TodAllCardSaid : Prop := Claim7.holds Tryd.pinned (.plain (OpenSpec.ofChange todAllSpec)) todAllCard

/-- THE TIED CARD OF 'ferialaw04.WideOf'. -/
def wideOfCard : Claim7 := { stood := { row := wideOfRow, standIns := [], harness := (true, "b8f6027b7feb977b9230616156751bf2ba685d45fcb3dcc9cd66f8b1591889dd"), looks := false }, kinds := [], alts := [], laidByText := true, laidKinds := [.data], laidTests := true, laidLooks := .later }
def WideOfCardSaid : Prop := Claim7.holds Tryd.pinned (.plain (OpenSpec.ofChange wideOfSpec)) wideOfCard

/-- THE TIED CARD OF 'ferialaw04.WideBoth'. -/
def wideBothCard : Claim7 := { stood := { row := wideBothRow, standIns := [], harness := (true, "b8f6027b7feb977b9230616156751bf2ba685d45fcb3dcc9cd66f8b1591889dd"), looks := false }, kinds := [], alts := [], laidByText := true, laidKinds := [.data], laidTests := true, laidLooks := .later }
def WideBothCardSaid : Prop := Claim7.holds Tryd.pinned (.plain (OpenSpec.ofChange wideBothSpec)) wideBothCard

/-- THE TIED CARD OF 'ferialaw04.WideAll'. -/
def wideAllCard : Claim7 := { stood := { row := wideAllRow, standIns := [], harness := (true, "b8f6027b7feb977b9230616156751bf2ba685d45fcb3dcc9cd66f8b1591889dd"), looks := false }, kinds := [], alts := [], laidByText := true, laidKinds := [.data], laidTests := true, laidLooks := .later }
def WideAllCardSaid : Prop := Claim7.holds Tryd.pinned (.plain (OpenSpec.ofChange wideAllSpec)) wideAllCard

/-- THE TIED CARD OF 'ferialaw04.WideBack'. -/
def wideBackCard : Claim7 := { stood := { row := wideBackRow, standIns := [], harness := (true, "b8f6027b7feb977b9230616156751bf2ba685d45fcb3dcc9cd66f8b1591889dd"), looks := false }, kinds := [], alts := [], laidByText := true, laidKinds := [.data], laidTests := true, laidLooks := .later }
def WideBackCardSaid : Prop := Claim7.holds Tryd.pinned (.plain (OpenSpec.ofChange wideBackSpec)) wideBackCard

/-- THE TIED CARD OF 'ferialaw13.ClauseMay'. -/
def clauseMayCard : Claim7 := { stood := { row := clauseMayRow, standIns := [], harness := (true, "b8f6027b7feb977b9230616156751bf2ba685d45fcb3dcc9cd66f8b1591889dd"), looks := false }, kinds := [], alts := [], laidByText := true, laidKinds := [.data], laidTests := true, laidLooks := .later }
def ClauseMayCardSaid : Prop := Claim7.holds Tryd.pinned (.plain (OpenSpec.ofChange clauseMaySpec)) clauseMayCard

/-- THE SECOND FORM's CARD OF 'ferialaw07.TodAll'. -/
def todAllUptoCard : Claim7 := { stood := { row := todAllUptoRow, standIns := [], harness := (true, "b8f6027b7feb977b9230616156751bf2ba685d45fcb3dcc9cd66f8b1591889dd"), looks := false }, kinds := [], alts := [], laidByText := true, laidKinds := [.data], laidTests := true, laidLooks := .later }
def TodAllUptoCardSaid : Prop := Claim7.holds Tryd.pinned (.plain (OpenSpec.upto todAllSpec)) todAllUptoCard

/-- THE SECOND FORM's CARD OF 'ferialaw04.WideOf'. -/
def wideOfUptoCard : Claim7 := { stood := { row := wideOfUptoRow, standIns := [], harness := (true, "b8f6027b7feb977b9230616156751bf2ba685d45fcb3dcc9cd66f8b1591889dd"), looks := false }, kinds := [], alts := [], laidByText := true, laidKinds := [.data], laidTests := true, laidLooks := .later }
def WideOfUptoCardSaid : Prop := Claim7.holds Tryd.pinned (.plain (OpenSpec.upto wideOfSpec)) wideOfUptoCard

/-- THE SECOND FORM's CARD OF 'ferialaw04.WideBoth'. -/
def wideBothUptoCard : Claim7 := { stood := { row := wideBothUptoRow, standIns := [], harness := (true, "b8f6027b7feb977b9230616156751bf2ba685d45fcb3dcc9cd66f8b1591889dd"), looks := false }, kinds := [], alts := [], laidByText := true, laidKinds := [.data], laidTests := true, laidLooks := .later }
def WideBothUptoCardSaid : Prop := Claim7.holds Tryd.pinned (.plain (OpenSpec.upto wideBothSpec)) wideBothUptoCard

/-- THE SECOND FORM's CARD OF 'ferialaw04.WideAll'. -/
def wideAllUptoCard : Claim7 := { stood := { row := wideAllUptoRow, standIns := [], harness := (true, "b8f6027b7feb977b9230616156751bf2ba685d45fcb3dcc9cd66f8b1591889dd"), looks := false }, kinds := [], alts := [], laidByText := true, laidKinds := [.data], laidTests := true, laidLooks := .later }
def WideAllUptoCardSaid : Prop := Claim7.holds Tryd.pinned (.plain (OpenSpec.upto wideAllSpec)) wideAllUptoCard

/-- THE SECOND FORM's CARD OF 'ferialaw04.WideBack'. -/
def wideBackUptoCard : Claim7 := { stood := { row := wideBackUptoRow, standIns := [], harness := (true, "b8f6027b7feb977b9230616156751bf2ba685d45fcb3dcc9cd66f8b1591889dd"), looks := false }, kinds := [], alts := [], laidByText := true, laidKinds := [.data], laidTests := true, laidLooks := .later }
def WideBackUptoCardSaid : Prop := Claim7.holds Tryd.pinned (.plain (OpenSpec.upto wideBackSpec)) wideBackUptoCard

/-- THE SECOND FORM's CARD OF 'ferialaw13.ClauseMay'. -/
def clauseMayUptoCard : Claim7 := { stood := { row := clauseMayUptoRow, standIns := [], harness := (true, "b8f6027b7feb977b9230616156751bf2ba685d45fcb3dcc9cd66f8b1591889dd"), looks := false }, kinds := [], alts := [], laidByText := true, laidKinds := [.data], laidTests := true, laidLooks := .later }
def ClauseMayUptoCardSaid : Prop := Claim7.holds Tryd.pinned (.plain (OpenSpec.upto clauseMaySpec)) clauseMayUptoCard
end Rows
end Go.Proofs.YtjpdfbljhbgbcaaDoor
