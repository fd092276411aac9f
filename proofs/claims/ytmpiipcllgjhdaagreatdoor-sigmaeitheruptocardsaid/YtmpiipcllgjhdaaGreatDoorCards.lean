/-
  DERIVED. GIVEN WITH THE SEED: THE CARDS: each row of YtmpiipcllgjhdaaGreatDoorRows.lean that lists a variable, with what it lists TIED to the program's text (the seventh form; the later family's looks); each row that meets fmt, with fmt's text TOLD by the authors' own Lean function (tested against real Go, not proved from fmt's source: count such statements apart). THE CARD IS WHAT COUNTS. Prove the row's statement (the work); the ties are given (YtmpiipcllgjhdaaGreatDoorTie.lean); close each card by the builder's one call (the guide's Derived/Test/ToyasCard.lean, 'card_holds'). Laid BY PROGRAM, IN A SANDBOX (cutbox-door.mjs). By AI agents, Wed Nov 11 2026. No macro, syntax, notation, axiom, sorry.
-/
import Derived.Test.YtmpiipcllgjhdaaGreatDoorRows
import GoSem.ClaimSeven
namespace Go.Proofs.YtmpiipcllgjhdaaGreatDoor
namespace Rows

/-- THE TIED CARD OF 'hustingslaw5.SigmaComplete'. -/
def sigmaCompleteCard : Claim7 := { stood := { row := sigmaCompleteRow, standIns := [], harness := (true, "8056a2820e3d3b04464efd9d882ea254ee8e6634c6fe90bfe45fa2604631b157"), looks := false }, kinds := [], alts := [], laidByText := true, laidKinds := [.data, .data, .data], laidTests := true, laidLooks := .later }
def SigmaCompleteCardSaid : Prop := Claim7.holds Tryz.pinned (.plain (OpenSpec.ofChange sigmaCompleteSpec)) sigmaCompleteCard

/-- THE TIED CARD OF 'hustingslaw5.SigmaEither'. -/
def sigmaEitherCard : Claim7 := { stood := { row := sigmaEitherRow, standIns := [], harness := (true, "8056a2820e3d3b04464efd9d882ea254ee8e6634c6fe90bfe45fa2604631b157"), looks := false }, kinds := [], alts := [], laidByText := true, laidKinds := [.data, .data, .data], laidTests := true, laidLooks := .later }
def SigmaEitherCardSaid : Prop := Claim7.holds Tryz.pinned (.plain (OpenSpec.ofChange sigmaEitherSpec)) sigmaEitherCard

/-- THE SECOND FORM's CARD OF 'hustingslaw5.SigmaComplete'. -/
def sigmaCompleteUptoCard : Claim7 := { stood := { row := sigmaCompleteUptoRow, standIns := [], harness := (true, "8056a2820e3d3b04464efd9d882ea254ee8e6634c6fe90bfe45fa2604631b157"), looks := false }, kinds := [], alts := [], laidByText := true, laidKinds := [.data, .data, .data], laidTests := true, laidLooks := .later }
def SigmaCompleteUptoCardSaid : Prop := Claim7.holds Tryz.pinned (.plain (OpenSpec.upto sigmaCompleteSpec)) sigmaCompleteUptoCard

/-- THE SECOND FORM's CARD OF 'hustingslaw5.SigmaEither'. -/
def sigmaEitherUptoCard : Claim7 := { stood := { row := sigmaEitherUptoRow, standIns := [], harness := (true, "8056a2820e3d3b04464efd9d882ea254ee8e6634c6fe90bfe45fa2604631b157"), looks := false }, kinds := [], alts := [], laidByText := true, laidKinds := [.data, .data, .data], laidTests := true, laidLooks := .later }
def SigmaEitherUptoCardSaid : Prop := Claim7.holds Tryz.pinned (.plain (OpenSpec.upto sigmaEitherSpec)) sigmaEitherUptoCard
end Rows
end Go.Proofs.YtmpiipcllgjhdaaGreatDoor
