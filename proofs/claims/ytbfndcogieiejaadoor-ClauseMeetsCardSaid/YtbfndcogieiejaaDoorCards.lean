/-
  DERIVED. GIVEN WITH THE SEED: THE CARDS: each row of YtbfndcogieiejaaDoorRows.lean that lists a variable, with what it lists TIED to the program's text (the seventh form; the later family's looks); each row that meets fmt, with fmt's text TOLD by the authors' own Lean function (tested against real Go, not proved from fmt's source: count such statements apart). THE CARD IS WHAT COUNTS. Prove the row's statement (the work); the ties are given (YtbfndcogieiejaaDoorTie.lean); close each card by the builder's one call (the guide's Derived/Test/ToyasCard.lean, 'card_holds'). Laid BY PROGRAM, IN A SANDBOX (cutbox-door.mjs). By AI agents, Wed Nov 11 2026. No macro, syntax, notation, axiom, sorry.
-/
import Derived.Test.YtbfndcogieiejaaDoorRows
import GoSem.ClaimSeven
namespace Go.Proofs.YtbfndcogieiejaaDoor
namespace Rows

/-- THE TIED CARD OF 'ferialaw13.ClauseMay'. -/
def clauseMayCard : Claim7 := { stood := { row := clauseMayRow, standIns := [], harness := (true, "5a5d7631bab885bb91455e7dbf092ca1ba489360447f408db26ef14ec7be9c95"), looks := false }, kinds := [], alts := [], laidByText := true, laidKinds := [.data], laidTests := true, laidLooks := .later }
def ClauseMayCardSaid : Prop := Claim7.holds Tryd.pinned (.plain (OpenSpec.ofChange clauseMaySpec)) clauseMayCard

/-- THE TIED CARD OF 'ferialaw13.ClauseHas'. -/
def clauseHasCard : Claim7 := { stood := { row := clauseHasRow, standIns := [], harness := (true, "5a5d7631bab885bb91455e7dbf092ca1ba489360447f408db26ef14ec7be9c95"), looks := false }, kinds := [], alts := [], laidByText := true, laidKinds := [.data], laidTests := true, laidLooks := .later }
def ClauseHasCardSaid : Prop := Claim7.holds Tryd.pinned (.plain (OpenSpec.ofChange clauseHasSpec)) clauseHasCard

/-- THE TIED CARD OF 'ferialaw13.ClauseMeets'. -/
def clauseMeetsCard : Claim7 := { stood := { row := clauseMeetsRow, standIns := [], harness := (true, "5a5d7631bab885bb91455e7dbf092ca1ba489360447f408db26ef14ec7be9c95"), looks := false }, kinds := [], alts := [], laidByText := true, laidKinds := [.data], laidTests := true, laidLooks := .later }
def ClauseMeetsCardSaid : Prop := Claim7.holds Tryd.pinned (.plain (OpenSpec.ofChange clauseMeetsSpec)) clauseMeetsCard

/-- THE TIED CARD OF 'ferialaw13.ClauseFull'. -/
def clauseFullCard : Claim7 := { stood := { row := clauseFullRow, standIns := [], harness := (true, "5a5d7631bab885bb91455e7dbf092ca1ba489360447f408db26ef14ec7be9c95"), looks := false }, kinds := [], alts := [], laidByText := true, laidKinds := [.data], laidTests := true, laidLooks := .later }
def ClauseFullCardSaid : Prop := Claim7.holds Tryd.pinned (.plain (OpenSpec.ofChange clauseFullSpec)) clauseFullCard

/-- THE SECOND FORM's CARD OF 'ferialaw13.ClauseMay'. -/
def clauseMayUptoCard : Claim7 := { stood := { row := clauseMayUptoRow, standIns := [], harness := (true, "5a5d7631bab885bb91455e7dbf092ca1ba489360447f408db26ef14ec7be9c95"), looks := false }, kinds := [], alts := [], laidByText := true, laidKinds := [.data], laidTests := true, laidLooks := .later }
def ClauseMayUptoCardSaid : Prop := Claim7.holds Tryd.pinned (.plain (OpenSpec.upto clauseMaySpec)) clauseMayUptoCard

/-- THE SECOND FORM's CARD OF 'ferialaw13.ClauseHas'. -/
def clauseHasUptoCard : Claim7 := { stood := { row := clauseHasUptoRow, standIns := [], harness := (true, "5a5d7631bab885bb91455e7dbf092ca1ba489360447f408db26ef14ec7be9c95"), looks := false }, kinds := [], alts := [], laidByText := true, laidKinds := [.data], laidTests := true, laidLooks := .later }
def ClauseHasUptoCardSaid : Prop := Claim7.holds Tryd.pinned (.plain (OpenSpec.upto clauseHasSpec)) clauseHasUptoCard

/-- THE SECOND FORM's CARD OF 'ferialaw13.ClauseMeets'. -/
def clauseMeetsUptoCard : Claim7 := { stood := { row := clauseMeetsUptoRow, standIns := [], harness := (true, "5a5d7631bab885bb91455e7dbf092ca1ba489360447f408db26ef14ec7be9c95"), looks := false }, kinds := [], alts := [], laidByText := true, laidKinds := [.data], laidTests := true, laidLooks := .later }
def ClauseMeetsUptoCardSaid : Prop := Claim7.holds Tryd.pinned (.plain (OpenSpec.upto clauseMeetsSpec)) clauseMeetsUptoCard

/-- THE SECOND FORM's CARD OF 'ferialaw13.ClauseFull'. -/
def clauseFullUptoCard : Claim7 := { stood := { row := clauseFullUptoRow, standIns := [], harness := (true, "5a5d7631bab885bb91455e7dbf092ca1ba489360447f408db26ef14ec7be9c95"), looks := false }, kinds := [], alts := [], laidByText := true, laidKinds := [.data], laidTests := true, laidLooks := .later }
def ClauseFullUptoCardSaid : Prop := Claim7.holds Tryd.pinned (.plain (OpenSpec.upto clauseFullSpec)) clauseFullUptoCard
end Rows
end Go.Proofs.YtbfndcogieiejaaDoor
