/-
  DERIVED. GIVEN WITH THE SEED: THE CARDS: each row of YtjlieamjlelipaaDoorRows.lean that lists a variable, with what it lists TIED to the program's text (the seventh form; the later family's looks); each row that meets fmt, with fmt's text TOLD by the authors' own Lean function (tested against real Go, not proved from fmt's source: count such statements apart). THE CARD IS WHAT COUNTS. Prove the row's statement (the work); the ties are given (YtjlieamjlelipaaDoorTie.lean); close each card by the builder's one call (the guide's Derived/Test/ToyasCard.lean, 'card_holds'). Laid BY PROGRAM, IN A SANDBOX (cutbox-door.mjs). By AI agents, Wed Nov 11 2026. No macro, syntax, notation, axiom, sorry.
-/
import Derived.Test.YtjlieamjlelipaaDoorRows
import GoSem.ClaimSeven
namespace Go.Proofs.YtjlieamjlelipaaDoor
namespace Rows

/-- THE TIED CARD OF 'ferialaw02.MaskSpans'. -/
def maskSpansCard : Claim7 := { stood := { row := maskSpansRow, standIns := [], harness := (true, "f3577e43deb5a2316e7bfb54ad9557939e07d52d6f17ba988cf9483c97a166e2"), looks := false }, kinds := [], alts := [], laidByText := true, laidKinds := [.data], laidTests := true, laidLooks := .later }
def MaskSpansCardSaid : Prop := Claim7.holds Tryd.pinned (.plain (OpenSpec.ofChange maskSpansSpec)) maskSpansCard

/-- THE TIED CARD OF 'ferialaw02.MaskNext'. -/
def maskNextCard : Claim7 := { stood := { row := maskNextRow, standIns := [], harness := (true, "f3577e43deb5a2316e7bfb54ad9557939e07d52d6f17ba988cf9483c97a166e2"), looks := false }, kinds := [], alts := [], laidByText := true, laidKinds := [.data], laidTests := true, laidLooks := .later }
def MaskNextCardSaid : Prop := Claim7.holds Tryd.pinned (.plain (OpenSpec.ofChange maskNextSpec)) maskNextCard

/-- THE TIED CARD OF 'ferialaw02.MaskAll'. -/
def maskAllCard : Claim7 := { stood := { row := maskAllRow, standIns := [], harness := (true, "f3577e43deb5a2316e7bfb54ad9557939e07d52d6f17ba988cf9483c97a166e2"), looks := false }, kinds := [], alts := [], laidByText := true, laidKinds := [.data], laidTests := true, laidLooks := .later }
def MaskAllCardSaid : Prop := Claim7.holds Tryd.pinned (.plain (OpenSpec.ofChange maskAllSpec)) maskAllCard

/-- THE TIED CARD OF 'ferialaw02.MaskBack'. -/
def maskBackCard : Claim7 := { stood := { row := maskBackRow, standIns := [], harness := (true, "f3577e43deb5a2316e7bfb54ad9557939e07d52d6f17ba988cf9483c97a166e2"), looks := false }, kinds := [], alts := [], laidByText := true, laidKinds := [.data], laidTests := true, laidLooks := .later }
def MaskBackCardSaid : Prop := Claim7.holds Tryd.pinned (.plain (OpenSpec.ofChange maskBackSpec)) maskBackCard

/-- THE TIED CARD OF 'ferialaw03.CoverOf'. -/
def coverOfCard : Claim7 := { stood := { row := coverOfRow, standIns := [], harness := (true, "f3577e43deb5a2316e7bfb54ad9557939e07d52d6f17ba988cf9483c97a166e2"), looks := false }, kinds := [], alts := [], laidByText := true, laidKinds := [.data], laidTests := true, laidLooks := .later }
def CoverOfCardSaid : Prop := Claim7.holds Tryd.pinned (.plain (OpenSpec.ofChange coverOfSpec)) coverOfCard

/-- THE TIED CARD OF 'ferialaw07.TodParts'. -/
def todPartsCard : Claim7 := { stood := { row := todPartsRow, standIns := [], harness := (true, "f3577e43deb5a2316e7bfb54ad9557939e07d52d6f17ba988cf9483c97a166e2"), looks := false }, kinds := [], alts := [], laidByText := true, laidKinds := [.data], laidTests := true, laidLooks := .later }
def TodPartsCardSaid : Prop := Claim7.holds Tryd.pinned (.plain (OpenSpec.ofChange todPartsSpec)) todPartsCard

/-- THE TIED CARD OF 'ferialaw28.CalChecks'. -/
def calChecksCard : Claim7 := { stood := { row := calChecksRow, standIns := [], harness := (true, "f3577e43deb5a2316e7bfb54ad9557939e07d52d6f17ba988cf9483c97a166e2"), looks := false }, kinds := [], alts := [], laidByText := true, laidKinds := [.data], laidTests := true, laidLooks := .later }
def CalChecksCardSaid : Prop := Claim7.holds Tryd.pinned (.plain (OpenSpec.ofChange calChecksSpec)) calChecksCard

/-- THE TIED CARD OF 'ferialaw28.CalFields'. -/
def calFieldsCard : Claim7 := { stood := { row := calFieldsRow, standIns := [], harness := (true, "f3577e43deb5a2316e7bfb54ad9557939e07d52d6f17ba988cf9483c97a166e2"), looks := false }, kinds := [], alts := [], laidByText := true, laidKinds := [.data], laidTests := true, laidLooks := .later }
def CalFieldsCardSaid : Prop := Claim7.holds Tryd.pinned (.plain (OpenSpec.ofChange calFieldsSpec)) calFieldsCard

/-- THE TIED CARD OF 'ferialaw24.CronChecks'. -/
def cronChecksCard : Claim7 := { stood := { row := cronChecksRow, standIns := [], harness := (true, "f3577e43deb5a2316e7bfb54ad9557939e07d52d6f17ba988cf9483c97a166e2"), looks := false }, kinds := [], alts := [], laidByText := true, laidKinds := [.data], laidTests := true, laidLooks := .later }
def CronChecksCardSaid : Prop := Claim7.holds Tryd.pinned (.plain (OpenSpec.ofChange cronChecksSpec)) cronChecksCard

/-- THE TIED CARD OF 'ferialaw13.ClauseMay'. -/
def clauseMayCard : Claim7 := { stood := { row := clauseMayRow, standIns := [], harness := (true, "f3577e43deb5a2316e7bfb54ad9557939e07d52d6f17ba988cf9483c97a166e2"), looks := false }, kinds := [], alts := [], laidByText := true, laidKinds := [.data], laidTests := true, laidLooks := .later }
def ClauseMayCardSaid : Prop := Claim7.holds Tryd.pinned (.plain (OpenSpec.ofChange clauseMaySpec)) clauseMayCard

/-- THE SECOND FORM's CARD OF 'ferialaw02.MaskSpans'. -/
def maskSpansUptoCard : Claim7 := { stood := { row := maskSpansUptoRow, standIns := [], harness := (true, "f3577e43deb5a2316e7bfb54ad9557939e07d52d6f17ba988cf9483c97a166e2"), looks := false }, kinds := [], alts := [], laidByText := true, laidKinds := [.data], laidTests := true, laidLooks := .later }
def MaskSpansUptoCardSaid : Prop := Claim7.holds Tryd.pinned (.plain (OpenSpec.upto maskSpansSpec)) maskSpansUptoCard

/-- THE SECOND FORM's CARD OF 'ferialaw02.MaskNext'. -/
def maskNextUptoCard : Claim7 := { stood := { row := maskNextUptoRow, standIns := [], harness := (true, "f3577e43deb5a2316e7bfb54ad9557939e07d52d6f17ba988cf9483c97a166e2"), looks := false }, kinds := [], alts := [], laidByText := true, laidKinds := [.data], laidTests := true, laidLooks := .later }
def MaskNextUptoCardSaid : Prop := Claim7.holds Tryd.pinned (.plain (OpenSpec.upto maskNextSpec)) maskNextUptoCard

/-- THE SECOND FORM's CARD OF 'ferialaw02.MaskAll'. -/
def maskAllUptoCard : Claim7 := { stood := { row := maskAllUptoRow, standIns := [], harness := (true, "f3577e43deb5a2316e7bfb54ad9557939e07d52d6f17ba988cf9483c97a166e2"), looks := false }, kinds := [], alts := [], laidByText := true, laidKinds := [.data], laidTests := true, laidLooks := .later }
def MaskAllUptoCardSaid : Prop := Claim7.holds Tryd.pinned (.plain (OpenSpec.upto maskAllSpec)) maskAllUptoCard

/-- THE SECOND FORM's CARD OF 'ferialaw02.MaskBack'. -/
def maskBackUptoCard : Claim7 := { stood := { row := maskBackUptoRow, standIns := [], harness := (true, "f3577e43deb5a2316e7bfb54ad9557939e07d52d6f17ba988cf9483c97a166e2"), looks := false }, kinds := [], alts := [], laidByText := true, laidKinds := [.data], laidTests := true, laidLooks := .later }
def MaskBackUptoCardSaid : Prop := Claim7.holds Tryd.pinned (.plain (OpenSpec.upto maskBackSpec)) maskBackUptoCard

/-- THE SECOND FORM's CARD OF 'ferialaw03.CoverOf'. -/
def coverOfUptoCard : Claim7 := { stood := { row := coverOfUptoRow, standIns := [], harness := (true, "f3577e43deb5a2316e7bfb54ad9557939e07d52d6f17ba988cf9483c97a166e2"), looks := false }, kinds := [], alts := [], laidByText := true, laidKinds := [.data], laidTests := true, laidLooks := .later }
def CoverOfUptoCardSaid : Prop := Claim7.holds Tryd.pinned (.plain (OpenSpec.upto coverOfSpec)) coverOfUptoCard

/-- THE SECOND FORM's CARD OF 'ferialaw07.TodParts'. -/
def todPartsUptoCard : Claim7 := { stood := { row := todPartsUptoRow, standIns := [], harness := (true, "f3577e43deb5a2316e7bfb54ad9557939e07d52d6f17ba988cf9483c97a166e2"), looks := false }, kinds := [], alts := [], laidByText := true, laidKinds := [.data], laidTests := true, laidLooks := .later }
def TodPartsUptoCardSaid : Prop := Claim7.holds Tryd.pinned (.plain (OpenSpec.upto todPartsSpec)) todPartsUptoCard

/-- THE SECOND FORM's CARD OF 'ferialaw28.CalChecks'. -/
def calChecksUptoCard : Claim7 := { stood := { row := calChecksUptoRow, standIns := [], harness := (true, "f3577e43deb5a2316e7bfb54ad9557939e07d52d6f17ba988cf9483c97a166e2"), looks := false }, kinds := [], alts := [], laidByText := true, laidKinds := [.data], laidTests := true, laidLooks := .later }
def CalChecksUptoCardSaid : Prop := Claim7.holds Tryd.pinned (.plain (OpenSpec.upto calChecksSpec)) calChecksUptoCard

/-- THE SECOND FORM's CARD OF 'ferialaw28.CalFields'. -/
def calFieldsUptoCard : Claim7 := { stood := { row := calFieldsUptoRow, standIns := [], harness := (true, "f3577e43deb5a2316e7bfb54ad9557939e07d52d6f17ba988cf9483c97a166e2"), looks := false }, kinds := [], alts := [], laidByText := true, laidKinds := [.data], laidTests := true, laidLooks := .later }
def CalFieldsUptoCardSaid : Prop := Claim7.holds Tryd.pinned (.plain (OpenSpec.upto calFieldsSpec)) calFieldsUptoCard

/-- THE SECOND FORM's CARD OF 'ferialaw24.CronChecks'. -/
def cronChecksUptoCard : Claim7 := { stood := { row := cronChecksUptoRow, standIns := [], harness := (true, "f3577e43deb5a2316e7bfb54ad9557939e07d52d6f17ba988cf9483c97a166e2"), looks := false }, kinds := [], alts := [], laidByText := true, laidKinds := [.data], laidTests := true, laidLooks := .later }
def CronChecksUptoCardSaid : Prop := Claim7.holds Tryd.pinned (.plain (OpenSpec.upto cronChecksSpec)) cronChecksUptoCard

/-- THE SECOND FORM's CARD OF 'ferialaw13.ClauseMay'. -/
def clauseMayUptoCard : Claim7 := { stood := { row := clauseMayUptoRow, standIns := [], harness := (true, "f3577e43deb5a2316e7bfb54ad9557939e07d52d6f17ba988cf9483c97a166e2"), looks := false }, kinds := [], alts := [], laidByText := true, laidKinds := [.data], laidTests := true, laidLooks := .later }
def ClauseMayUptoCardSaid : Prop := Claim7.holds Tryd.pinned (.plain (OpenSpec.upto clauseMaySpec)) clauseMayUptoCard
end Rows
end Go.Proofs.YtjlieamjlelipaaDoor
