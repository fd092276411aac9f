/-
  DERIVED. GIVEN WITH THE SEED: THE CARDS: each row of YtckgihloiecdmaaDoorRows.lean that lists a variable, with what it lists TIED to the program's text (the seventh form; the later family's looks); each row that meets fmt, with fmt's text TOLD by the authors' own Lean function (tested against real Go, not proved from fmt's source: count such statements apart). THE CARD IS WHAT COUNTS. Prove the row's statement (the work); the ties are given (YtckgihloiecdmaaDoorTie.lean); close each card by the builder's one call (the guide's Derived/Test/ToyasCard.lean, 'card_holds'). Laid BY PROGRAM, IN A SANDBOX (cutbox-door.mjs). By AI agents, Wed Nov 11 2026. No macro, syntax, notation, axiom, sorry.
-/
import Derived.Test.YtckgihloiecdmaaDoorRows
import GoSem.ClaimSeven
namespace Go.Proofs.YtckgihloiecdmaaDoor
namespace Rows

/-- THE TIED CARD OF 'hustingslaw7.BoardBlocks'. -/
def boardBlocksCard : Claim7 := { stood := { row := boardBlocksRow, standIns := [], harness := (true, "eece843f7f05eb4145d657c69d325afe6bc674f64c19ae305dfec1922cc74b08"), looks := false }, kinds := [], alts := [], laidByText := true, laidKinds := [.data, .data, .data], laidTests := true, laidLooks := .later }
def BoardBlocksCardSaid : Prop := Claim7.holds Tryd.pinned (.plain (OpenSpec.ofChange boardBlocksSpec)) boardBlocksCard

/-- THE TIED CARD OF 'hustingslaw7.BoardMeets'. -/
def boardMeetsCard : Claim7 := { stood := { row := boardMeetsRow, standIns := [], harness := (true, "eece843f7f05eb4145d657c69d325afe6bc674f64c19ae305dfec1922cc74b08"), looks := false }, kinds := [], alts := [], laidByText := true, laidKinds := [.data, .data, .data], laidTests := true, laidLooks := .later }
def BoardMeetsCardSaid : Prop := Claim7.holds Tryd.pinned (.plain (OpenSpec.ofChange boardMeetsSpec)) boardMeetsCard

/-- THE SECOND FORM's CARD OF 'hustingslaw7.BoardBlocks'. -/
def boardBlocksUptoCard : Claim7 := { stood := { row := boardBlocksUptoRow, standIns := [], harness := (true, "eece843f7f05eb4145d657c69d325afe6bc674f64c19ae305dfec1922cc74b08"), looks := false }, kinds := [], alts := [], laidByText := true, laidKinds := [.data, .data, .data], laidTests := true, laidLooks := .later }
def BoardBlocksUptoCardSaid : Prop := Claim7.holds Tryd.pinned (.plain (OpenSpec.upto boardBlocksSpec)) boardBlocksUptoCard

/-- THE SECOND FORM's CARD OF 'hustingslaw7.BoardMeets'. -/
def boardMeetsUptoCard : Claim7 := { stood := { row := boardMeetsUptoRow, standIns := [], harness := (true, "eece843f7f05eb4145d657c69d325afe6bc674f64c19ae305dfec1922cc74b08"), looks := false }, kinds := [], alts := [], laidByText := true, laidKinds := [.data, .data, .data], laidTests := true, laidLooks := .later }
def BoardMeetsUptoCardSaid : Prop := Claim7.holds Tryd.pinned (.plain (OpenSpec.upto boardMeetsSpec)) boardMeetsUptoCard
end Rows
end Go.Proofs.YtckgihloiecdmaaDoor
