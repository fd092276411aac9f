/-
  DERIVED. GIVEN WITH THE SEED: THE CARDS: each row of YtlchlajckodppaaDoorRows.lean that lists a variable, with what it lists TIED to the program's text (the seventh form; the later family's looks); each row that meets fmt, with fmt's text TOLD by the authors' own Lean function (tested against real Go, not proved from fmt's source: count such statements apart). THE CARD IS WHAT COUNTS. Prove the row's statement (the work); the ties are given (YtlchlajckodppaaDoorTie.lean); close each card by the builder's one call (the guide's Derived/Test/ToyasCard.lean, 'card_holds'). Laid BY PROGRAM, IN A SANDBOX (cutbox-door.mjs). By AI agents, Wed Nov 11 2026. No macro, syntax, notation, axiom, sorry.
-/
import Derived.Test.YtlchlajckodppaaDoorRows
import GoSem.ClaimSeven
namespace Go.Proofs.YtlchlajckodppaaDoor
namespace Rows

/-- THE TIED CARD OF 'hustingslaw14.AuditSamples'. -/
def auditSamplesCard : Claim7 := { stood := { row := auditSamplesRow, standIns := [], harness := (true, "87e33f25a5baa0acc4109d2a820059f2f7f01aca0f4acf7fa4846d0949a1b8cf"), looks := false }, kinds := [], alts := [], laidByText := true, laidKinds := [.data, .data, .data], laidTests := true, laidLooks := .later }
def AuditSamplesCardSaid : Prop := Claim7.holds Tryd.pinned (.plain (OpenSpec.ofChange auditSamplesSpec)) auditSamplesCard

/-- THE SECOND FORM's CARD OF 'hustingslaw14.AuditSamples'. -/
def auditSamplesUptoCard : Claim7 := { stood := { row := auditSamplesUptoRow, standIns := [], harness := (true, "87e33f25a5baa0acc4109d2a820059f2f7f01aca0f4acf7fa4846d0949a1b8cf"), looks := false }, kinds := [], alts := [], laidByText := true, laidKinds := [.data, .data, .data], laidTests := true, laidLooks := .later }
def AuditSamplesUptoCardSaid : Prop := Claim7.holds Tryd.pinned (.plain (OpenSpec.upto auditSamplesSpec)) auditSamplesUptoCard
end Rows
end Go.Proofs.YtlchlajckodppaaDoor
