/-
  DERIVED. GIVEN WITH THE SEED: THE CARDS: each row of YtnahindcgedbaabDoorRows.lean that lists a variable, with what it lists TIED to the program's text (the seventh form; the later family's looks); each row that meets fmt, with fmt's text TOLD by the authors' own Lean function (tested against real Go, not proved from fmt's source: count such statements apart). THE CARD IS WHAT COUNTS. Prove the row's statement (the work); the ties are given (YtnahindcgedbaabDoorTie.lean); close each card by the builder's one call (the guide's Derived/Test/ToyasCard.lean, 'card_holds'). Laid BY PROGRAM, IN A SANDBOX (cutbox-door.mjs). By AI agents, Wed Nov 11 2026. No macro, syntax, notation, axiom, sorry.
-/
import Derived.Test.YtnahindcgedbaabDoorRows
import GoSem.ClaimSeven
namespace Go.Proofs.YtnahindcgedbaabDoor
namespace Rows

/-- THE TIED CARD OF 'hustingslaw2.NatField'. -/
def natFieldCard : Claim7 := { stood := { row := natFieldRow, standIns := [], harness := (true, "a9fcf9482f5514f203bcd9bd9d75d31da780433651b141ad7123924ff66ec7fb"), looks := false }, kinds := [], alts := [], laidByText := true, laidKinds := [.data, .pinned], laidTests := true, laidLooks := .later }
def NatFieldCardSaid : Prop := Claim7.holds Tryd.pinned (.plain (OpenSpec.ofChange natFieldSpec)) natFieldCard

/-- THE SECOND FORM's CARD OF 'hustingslaw2.NatField'. -/
def natFieldUptoCard : Claim7 := { stood := { row := natFieldUptoRow, standIns := [], harness := (true, "a9fcf9482f5514f203bcd9bd9d75d31da780433651b141ad7123924ff66ec7fb"), looks := false }, kinds := [], alts := [], laidByText := true, laidKinds := [.data, .pinned], laidTests := true, laidLooks := .later }
def NatFieldUptoCardSaid : Prop := Claim7.holds Tryd.pinned (.plain (OpenSpec.upto natFieldSpec)) natFieldUptoCard
end Rows
end Go.Proofs.YtnahindcgedbaabDoor
