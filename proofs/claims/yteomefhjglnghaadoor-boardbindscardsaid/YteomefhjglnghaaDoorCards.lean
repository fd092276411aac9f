/-
  DERIVED. GIVEN WITH THE SEED: THE CARDS: each row of YteomefhjglnghaaDoorRows.lean that lists a variable, with what it lists TIED to the program's text (the seventh form; the later family's looks); each row that meets fmt, with fmt's text TOLD by the authors' own Lean function (tested against real Go, not proved from fmt's source: count such statements apart). THE CARD IS WHAT COUNTS. Prove the row's statement (the work); the ties are given (YteomefhjglnghaaDoorTie.lean); close each card by the builder's one call (the guide's Derived/Test/ToyasCard.lean, 'card_holds'). Laid BY PROGRAM, IN A SANDBOX (cutbox-door.mjs). By AI agents, Wed Nov 11 2026. No macro, syntax, notation, axiom, sorry.
-/
import Derived.Test.YteomefhjglnghaaDoorRows
import GoSem.ClaimSeven
namespace Go.Proofs.YteomefhjglnghaaDoor
namespace Rows

/-- THE TIED CARD OF 'hustingslaw7.BoardBinds'. -/
def boardBindsCard : Claim7 := { stood := { row := boardBindsRow, standIns := [], harness := (true, "7ea5b8d08a009490b70da17944a4a85fcc238176af0d2dcdce38bcc25dab70be"), looks := false }, kinds := [], alts := [], laidByText := true, laidKinds := [.data, .data, .data], laidTests := true, laidLooks := .later }
def BoardBindsCardSaid : Prop := Claim7.holds Tryd.pinned (.plain (OpenSpec.ofChange boardBindsSpec)) boardBindsCard

/-- THE SECOND FORM's CARD OF 'hustingslaw7.BoardBinds'. -/
def boardBindsUptoCard : Claim7 := { stood := { row := boardBindsUptoRow, standIns := [], harness := (true, "7ea5b8d08a009490b70da17944a4a85fcc238176af0d2dcdce38bcc25dab70be"), looks := false }, kinds := [], alts := [], laidByText := true, laidKinds := [.data, .data, .data], laidTests := true, laidLooks := .later }
def BoardBindsUptoCardSaid : Prop := Claim7.holds Tryd.pinned (.plain (OpenSpec.upto boardBindsSpec)) boardBindsUptoCard
end Rows
end Go.Proofs.YteomefhjglnghaaDoor
