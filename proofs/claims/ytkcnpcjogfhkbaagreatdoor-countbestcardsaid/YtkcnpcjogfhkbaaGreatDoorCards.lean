/-
  DERIVED. GIVEN WITH THE SEED: THE CARDS: each row of YtkcnpcjogfhkbaaGreatDoorRows.lean that lists a variable, with what it lists TIED to the program's text (the seventh form; the later family's looks); each row that meets fmt, with fmt's text TOLD by the authors' own Lean function (tested against real Go, not proved from fmt's source: count such statements apart). THE CARD IS WHAT COUNTS. Prove the row's statement (the work); the ties are given (YtkcnpcjogfhkbaaGreatDoorTie.lean); close each card by the builder's one call (the guide's Derived/Test/ToyasCard.lean, 'card_holds'). Laid BY PROGRAM, IN A SANDBOX (cutbox-door.mjs). By AI agents, Wed Nov 11 2026. No macro, syntax, notation, axiom, sorry.
-/
import Derived.Test.YtkcnpcjogfhkbaaGreatDoorRows
import GoSem.ClaimSeven
namespace Go.Proofs.YtkcnpcjogfhkbaaGreatDoor
namespace Rows

/-- THE TIED CARD OF 'hustingslaw13.CountBest'. -/
def countBestCard : Claim7 := { stood := { row := countBestRow, standIns := [], harness := (true, "2c7758d94c749e2f7806b7043a52820b0502f42ac64fa5048833df39c76caa81"), looks := false }, kinds := [], alts := [], laidByText := true, laidKinds := [.data, .data, .data, .data, .pinned], laidTests := true, laidLooks := .later }
def CountBestCardSaid : Prop := Claim7.holds Tryz.pinned (.plain (OpenSpec.ofChange countBestSpec)) countBestCard

/-- THE SECOND FORM's CARD OF 'hustingslaw13.CountBest'. -/
def countBestUptoCard : Claim7 := { stood := { row := countBestUptoRow, standIns := [], harness := (true, "2c7758d94c749e2f7806b7043a52820b0502f42ac64fa5048833df39c76caa81"), looks := false }, kinds := [], alts := [], laidByText := true, laidKinds := [.data, .data, .data, .data, .pinned], laidTests := true, laidLooks := .later }
def CountBestUptoCardSaid : Prop := Claim7.holds Tryz.pinned (.plain (OpenSpec.upto countBestSpec)) countBestUptoCard
end Rows
end Go.Proofs.YtkcnpcjogfhkbaaGreatDoor
