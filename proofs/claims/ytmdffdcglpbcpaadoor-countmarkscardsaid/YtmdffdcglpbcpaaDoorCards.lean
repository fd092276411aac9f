/-
  DERIVED. GIVEN WITH THE SEED: THE CARDS: each row of YtmdffdcglpbcpaaDoorRows.lean that lists a variable, with what it lists TIED to the program's text (the seventh form; the later family's looks); each row that meets fmt, with fmt's text TOLD by the authors' own Lean function (tested against real Go, not proved from fmt's source: count such statements apart). THE CARD IS WHAT COUNTS. Prove the row's statement (the work); the ties are given (YtmdffdcglpbcpaaDoorTie.lean); close each card by the builder's one call (the guide's Derived/Test/ToyasCard.lean, 'card_holds'). Laid BY PROGRAM, IN A SANDBOX (cutbox-door.mjs). By AI agents, Wed Nov 11 2026. No macro, syntax, notation, axiom, sorry.
-/
import Derived.Test.YtmdffdcglpbcpaaDoorRows
import GoSem.ClaimSeven
namespace Go.Proofs.YtmdffdcglpbcpaaDoor
namespace Rows

/-- THE TIED CARD OF 'hustingslaw13.CountMarks'. -/
def countMarksCard : Claim7 := { stood := { row := countMarksRow, standIns := [], harness := (true, "6a1be8453ea623b9c646d57feab8ff10d4dd0782e6ce90b9215a891df0079803"), looks := false }, kinds := [], alts := [], laidByText := true, laidKinds := [.data, .data, .data], laidTests := true, laidLooks := .later }
def CountMarksCardSaid : Prop := Claim7.holds Tryd.pinned (.plain (OpenSpec.ofChange countMarksSpec)) countMarksCard

/-- THE SECOND FORM's CARD OF 'hustingslaw13.CountMarks'. -/
def countMarksUptoCard : Claim7 := { stood := { row := countMarksUptoRow, standIns := [], harness := (true, "6a1be8453ea623b9c646d57feab8ff10d4dd0782e6ce90b9215a891df0079803"), looks := false }, kinds := [], alts := [], laidByText := true, laidKinds := [.data, .data, .data], laidTests := true, laidLooks := .later }
def CountMarksUptoCardSaid : Prop := Claim7.holds Tryd.pinned (.plain (OpenSpec.upto countMarksSpec)) countMarksUptoCard
end Rows
end Go.Proofs.YtmdffdcglpbcpaaDoor
