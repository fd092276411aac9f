/-
  DERIVED. GIVEN WITH THE SEED: THE CARDS: each row of YtalagjmjpoacmabDoorRows.lean that lists a variable, with what it lists TIED to the program's text (the seventh form; the later family's looks); each row that meets fmt, with fmt's text TOLD by the authors' own Lean function (tested against real Go, not proved from fmt's source: count such statements apart). THE CARD IS WHAT COUNTS. Prove the row's statement (the work); the ties are given (YtalagjmjpoacmabDoorTie.lean); close each card by the builder's one call (the guide's Derived/Test/ToyasCard.lean, 'card_holds'). Laid BY PROGRAM, IN A SANDBOX (cutbox-door.mjs). By AI agents, Wed Nov 11 2026. No macro, syntax, notation, axiom, sorry.
-/
import Derived.Test.YtalagjmjpoacmabDoorRows
import GoSem.ClaimSeven
namespace Go.Proofs.YtalagjmjpoacmabDoor
namespace Rows

/-- THE TIED CARD OF 'hustingslaw1.FoldBegins'. -/
def foldBeginsCard : Claim7 := { stood := { row := foldBeginsRow, standIns := [], harness := (true, "8674fa9a77d8c5aa7f8d0e83c266cd66cbaf82f05630211a4f1d16dd23e93b88"), looks := false }, kinds := [], alts := [], laidByText := true, laidKinds := [.data, .data, .data], laidTests := true, laidLooks := .later }
def FoldBeginsCardSaid : Prop := Claim7.holds Tryd.pinned (.plain (OpenSpec.ofChange foldBeginsSpec)) foldBeginsCard

/-- THE TIED CARD OF 'hustingslaw1.FoldTalks'. -/
def foldTalksCard : Claim7 := { stood := { row := foldTalksRow, standIns := [], harness := (true, "8674fa9a77d8c5aa7f8d0e83c266cd66cbaf82f05630211a4f1d16dd23e93b88"), looks := false }, kinds := [], alts := [], laidByText := true, laidKinds := [.data, .data, .data], laidTests := true, laidLooks := .later }
def FoldTalksCardSaid : Prop := Claim7.holds Tryd.pinned (.plain (OpenSpec.ofChange foldTalksSpec)) foldTalksCard

/-- THE SECOND FORM's CARD OF 'hustingslaw1.FoldBegins'. -/
def foldBeginsUptoCard : Claim7 := { stood := { row := foldBeginsUptoRow, standIns := [], harness := (true, "8674fa9a77d8c5aa7f8d0e83c266cd66cbaf82f05630211a4f1d16dd23e93b88"), looks := false }, kinds := [], alts := [], laidByText := true, laidKinds := [.data, .data, .data], laidTests := true, laidLooks := .later }
def FoldBeginsUptoCardSaid : Prop := Claim7.holds Tryd.pinned (.plain (OpenSpec.upto foldBeginsSpec)) foldBeginsUptoCard

/-- THE SECOND FORM's CARD OF 'hustingslaw1.FoldTalks'. -/
def foldTalksUptoCard : Claim7 := { stood := { row := foldTalksUptoRow, standIns := [], harness := (true, "8674fa9a77d8c5aa7f8d0e83c266cd66cbaf82f05630211a4f1d16dd23e93b88"), looks := false }, kinds := [], alts := [], laidByText := true, laidKinds := [.data, .data, .data], laidTests := true, laidLooks := .later }
def FoldTalksUptoCardSaid : Prop := Claim7.holds Tryd.pinned (.plain (OpenSpec.upto foldTalksSpec)) foldTalksUptoCard
end Rows
end Go.Proofs.YtalagjmjpoacmabDoor
