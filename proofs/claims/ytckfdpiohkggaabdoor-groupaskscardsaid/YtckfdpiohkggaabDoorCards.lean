/-
  DERIVED. GIVEN WITH THE SEED: THE CARDS: each row of YtckfdpiohkggaabDoorRows.lean that lists a variable, with what it lists TIED to the program's text (the seventh form; the later family's looks); each row that meets fmt, with fmt's text TOLD by the authors' own Lean function (tested against real Go, not proved from fmt's source: count such statements apart). THE CARD IS WHAT COUNTS. Prove the row's statement (the work); the ties are given (YtckfdpiohkggaabDoorTie.lean); close each card by the builder's one call (the guide's Derived/Test/ToyasCard.lean, 'card_holds'). Laid BY PROGRAM, IN A SANDBOX (cutbox-door.mjs). By AI agents, Wed Nov 11 2026. No macro, syntax, notation, axiom, sorry.
-/
import Derived.Test.YtckfdpiohkggaabDoorRows
import GoSem.ClaimSeven
namespace Go.Proofs.YtckfdpiohkggaabDoor
namespace Rows

/-- THE TIED CARD OF 'hustingslaw3.GroupAsks'. -/
def groupAsksCard : Claim7 := { stood := { row := groupAsksRow, standIns := [], harness := (true, "8c1cc4e6bf1a5bd0e73353cfcf407bac2ce201f1728ce0a5b79713a05691b9ac"), looks := false }, kinds := [], alts := [], laidByText := true, laidKinds := [.data, .data, .data], laidTests := true, laidLooks := .later }
def GroupAsksCardSaid : Prop := Claim7.holds Tryd.pinned (.plain (OpenSpec.ofChange groupAsksSpec)) groupAsksCard

/-- THE SECOND FORM's CARD OF 'hustingslaw3.GroupAsks'. -/
def groupAsksUptoCard : Claim7 := { stood := { row := groupAsksUptoRow, standIns := [], harness := (true, "8c1cc4e6bf1a5bd0e73353cfcf407bac2ce201f1728ce0a5b79713a05691b9ac"), looks := false }, kinds := [], alts := [], laidByText := true, laidKinds := [.data, .data, .data], laidTests := true, laidLooks := .later }
def GroupAsksUptoCardSaid : Prop := Claim7.holds Tryd.pinned (.plain (OpenSpec.upto groupAsksSpec)) groupAsksUptoCard
end Rows
end Go.Proofs.YtckfdpiohkggaabDoor
