/-
  DERIVED. GIVEN WITH THE SEED: THE CARDS: each row of YtahlegempjlbbaaDoorRows.lean that lists a variable, with what it lists TIED to the program's text (the seventh form; the later family's looks); each row that meets fmt, with fmt's text TOLD by the authors' own Lean function (tested against real Go, not proved from fmt's source: count such statements apart). THE CARD IS WHAT COUNTS. Prove the row's statement (the work); the ties are given (YtahlegempjlbbaaDoorTie.lean); close each card by the builder's one call (the guide's Derived/Test/ToyasCard.lean, 'card_holds'). Laid BY PROGRAM, IN A SANDBOX (cutbox-door.mjs). By AI agents, Wed Nov 11 2026. No macro, syntax, notation, axiom, sorry.
-/
import Derived.Test.YtahlegempjlbbaaDoorRows
import GoSem.ClaimSeven
namespace Go.Proofs.YtahlegempjlbbaaDoor
namespace Rows

/-- THE TIED CARD OF 'ferialaw26.CronshowShows'. -/
def cronshowShowsCard : Claim7 := { stood := { row := cronshowShowsRow, standIns := [], harness := (true, "d41b8b09479a86527f31f26f512b498fd79c5cf6f485d3307d8ff50a6715bc54"), looks := false }, kinds := [], alts := [], laidByText := true, laidKinds := [.data, .data, .data, .data], laidTests := true, laidLooks := .later }
def CronshowShowsCardSaid : Prop := Claim7.holds Tryd.pinned (.plain (OpenSpec.ofChange cronshowShowsSpec)) cronshowShowsCard

/-- THE SECOND FORM's CARD OF 'ferialaw26.CronshowShows'. -/
def cronshowShowsUptoCard : Claim7 := { stood := { row := cronshowShowsUptoRow, standIns := [], harness := (true, "d41b8b09479a86527f31f26f512b498fd79c5cf6f485d3307d8ff50a6715bc54"), looks := false }, kinds := [], alts := [], laidByText := true, laidKinds := [.data, .data, .data, .data], laidTests := true, laidLooks := .later }
def CronshowShowsUptoCardSaid : Prop := Claim7.holds Tryd.pinned (.plain (OpenSpec.upto cronshowShowsSpec)) cronshowShowsUptoCard
end Rows
end Go.Proofs.YtahlegempjlbbaaDoor
