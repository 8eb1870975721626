/-
  DERIVED. GIVEN WITH THE SEED: THE CARDS: each row of YtjgifiaokmmjfaaDoorRows.lean that lists a variable, with what it lists TIED to the program's text (the seventh form; the later family's looks); each row that meets fmt, with fmt's text TOLD by the authors' own Lean function (tested against real Go, not proved from fmt's source: count such statements apart). THE CARD IS WHAT COUNTS. Prove the row's statement (the work); the ties are given (YtjgifiaokmmjfaaDoorTie.lean); close each card by the builder's one call (the guide's Derived/Test/ToyasCard.lean, 'card_holds'). Laid BY PROGRAM, IN A SANDBOX (cutbox-door.mjs). By AI agents, Wed Nov 11 2026. No macro, syntax, notation, axiom, sorry.
-/
import Derived.Test.YtjgifiaokmmjfaaDoorRows
import GoSem.ClaimSeven
namespace Go.Proofs.YtjgifiaokmmjfaaDoor
namespace Rows

/-- THE TIED CARD OF 'ferialaw24.CronChecks'. -/
def cronChecksCard : Claim7 := { stood := { row := cronChecksRow, standIns := [], harness := (true, "a338b802c7860dc5c4970249d02e502759a4b76314d9fb1b9b3cba49d788bd22"), looks := false }, kinds := [], alts := [], laidByText := true, laidKinds := [.data], laidTests := true, laidLooks := .later }
def CronChecksCardSaid : Prop := Claim7.holds Tryd.pinned (.plain (OpenSpec.ofChange cronChecksSpec)) cronChecksCard

/-- THE TIED CARD OF 'ferialaw24.CronFields'. -/
def cronFieldsCard : Claim7 := { stood := { row := cronFieldsRow, standIns := [], harness := (true, "a338b802c7860dc5c4970249d02e502759a4b76314d9fb1b9b3cba49d788bd22"), looks := false }, kinds := [], alts := [], laidByText := true, laidKinds := [.data], laidTests := true, laidLooks := .later }
def CronFieldsCardSaid : Prop := Claim7.holds Tryd.pinned (.plain (OpenSpec.ofChange cronFieldsSpec)) cronFieldsCard

/-- THE TIED CARD OF 'ferialaw28.CalChecks'. -/
def calChecksCard : Claim7 := { stood := { row := calChecksRow, standIns := [], harness := (true, "a338b802c7860dc5c4970249d02e502759a4b76314d9fb1b9b3cba49d788bd22"), looks := false }, kinds := [], alts := [], laidByText := true, laidKinds := [.data], laidTests := true, laidLooks := .later }
def CalChecksCardSaid : Prop := Claim7.holds Tryd.pinned (.plain (OpenSpec.ofChange calChecksSpec)) calChecksCard

/-- THE TIED CARD OF 'ferialaw28.CalFields'. -/
def calFieldsCard : Claim7 := { stood := { row := calFieldsRow, standIns := [], harness := (true, "a338b802c7860dc5c4970249d02e502759a4b76314d9fb1b9b3cba49d788bd22"), looks := false }, kinds := [], alts := [], laidByText := true, laidKinds := [.data], laidTests := true, laidLooks := .later }
def CalFieldsCardSaid : Prop := Claim7.holds Tryd.pinned (.plain (OpenSpec.ofChange calFieldsSpec)) calFieldsCard

/-- THE TIED CARD OF 'ferialaw28.CalEach'. -/
def calEachCard : Claim7 := { stood := { row := calEachRow, standIns := [], harness := (true, "a338b802c7860dc5c4970249d02e502759a4b76314d9fb1b9b3cba49d788bd22"), looks := false }, kinds := [], alts := [], laidByText := true, laidKinds := [.data], laidTests := true, laidLooks := .later }
def CalEachCardSaid : Prop := Claim7.holds Tryd.pinned (.plain (OpenSpec.ofChange calEachSpec)) calEachCard

/-- THE SECOND FORM's CARD OF 'ferialaw24.CronChecks'. -/
def cronChecksUptoCard : Claim7 := { stood := { row := cronChecksUptoRow, standIns := [], harness := (true, "a338b802c7860dc5c4970249d02e502759a4b76314d9fb1b9b3cba49d788bd22"), looks := false }, kinds := [], alts := [], laidByText := true, laidKinds := [.data], laidTests := true, laidLooks := .later }
def CronChecksUptoCardSaid : Prop := Claim7.holds Tryd.pinned (.plain (OpenSpec.upto cronChecksSpec)) cronChecksUptoCard

/-- THE SECOND FORM's CARD OF 'ferialaw24.CronFields'. -/
def cronFieldsUptoCard : Claim7 := { stood := { row := cronFieldsUptoRow, standIns := [], harness := (true, "a338b802c7860dc5c4970249d02e502759a4b76314d9fb1b9b3cba49d788bd22"), looks := false }, kinds := [], alts := [], laidByText := true, laidKinds := [.data], laidTests := true, laidLooks := .later }
def CronFieldsUptoCardSaid : Prop := Claim7.holds Tryd.pinned (.plain (OpenSpec.upto cronFieldsSpec)) cronFieldsUptoCard

/-- THE SECOND FORM's CARD OF 'ferialaw28.CalChecks'. -/
def calChecksUptoCard : Claim7 := { stood := { row := calChecksUptoRow, standIns := [], harness := (true, "a338b802c7860dc5c4970249d02e502759a4b76314d9fb1b9b3cba49d788bd22"), looks := false }, kinds := [], alts := [], laidByText := true, laidKinds := [.data], laidTests := true, laidLooks := .later }
def CalChecksUptoCardSaid : Prop := Claim7.holds Tryd.pinned (.plain (OpenSpec.upto calChecksSpec)) calChecksUptoCard

/-- THE SECOND FORM's CARD OF 'ferialaw28.CalFields'. -/
def calFieldsUptoCard : Claim7 := { stood := { row := calFieldsUptoRow, standIns := [], harness := (true, "a338b802c7860dc5c4970249d02e502759a4b76314d9fb1b9b3cba49d788bd22"), looks := false }, kinds := [], alts := [], laidByText := true, laidKinds := [.data], laidTests := true, laidLooks := .later }
def CalFieldsUptoCardSaid : Prop := Claim7.holds Tryd.pinned (.plain (OpenSpec.upto calFieldsSpec)) calFieldsUptoCard

/-- THE SECOND FORM's CARD OF 'ferialaw28.CalEach'. -/
def calEachUptoCard : Claim7 := { stood := { row := calEachUptoRow, standIns := [], harness := (true, "a338b802c7860dc5c4970249d02e502759a4b76314d9fb1b9b3cba49d788bd22"), looks := false }, kinds := [], alts := [], laidByText := true, laidKinds := [.data], laidTests := true, laidLooks := .later }
def CalEachUptoCardSaid : Prop := Claim7.holds Tryd.pinned (.plain (OpenSpec.upto calEachSpec)) calEachUptoCard
end Rows
end Go.Proofs.YtjgifiaokmmjfaaDoor
