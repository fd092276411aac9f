/-
  DERIVED. GIVEN WITH THE SEED: THE CARDS: each row of YtalagjmjpoacmaaDoorRows.lean that lists a variable, with what it lists TIED to the program's text (the seventh form; the later family's looks); each row that meets fmt, with fmt's text TOLD by the authors' own Lean function (tested against real Go, not proved from fmt's source: count such statements apart). THE CARD IS WHAT COUNTS. Prove the row's statement (the work); the ties are given (YtalagjmjpoacmaaDoorTie.lean); close each card by the builder's one call (the guide's Derived/Test/ToyasCard.lean, 'card_holds'). Laid BY PROGRAM, IN A SANDBOX (cutbox-door.mjs). By AI agents, Wed Nov 11 2026. No macro, syntax, notation, axiom, sorry.
-/
import Derived.Test.YtalagjmjpoacmaaDoorRows
import GoSem.ClaimSeven
namespace Go.Proofs.YtalagjmjpoacmaaDoor
namespace Rows

/-- THE TIED CARD OF 'hustingslaw1.FoldStirs'. -/
def foldStirsCard : Claim7 := { stood := { row := foldStirsRow, standIns := [], harness := (true, "ac135124bd1a44696f7bfba587b4a872beeb74c629d1974750d337b97ed00285"), looks := false }, kinds := [], alts := [], laidByText := true, laidKinds := [.data, .data], laidTests := true, laidLooks := .later }
def FoldStirsCardSaid : Prop := Claim7.holds Tryd.pinned (.plain (OpenSpec.ofChange foldStirsSpec)) foldStirsCard

/-- THE TIED CARD OF 'hustingslaw1.FoldBack'. -/
def foldBackCard : Claim7 := { stood := { row := foldBackRow, standIns := [], harness := (true, "ac135124bd1a44696f7bfba587b4a872beeb74c629d1974750d337b97ed00285"), looks := false }, kinds := [], alts := [], laidByText := true, laidKinds := [.data, .data], laidTests := true, laidLooks := .later }
def FoldBackCardSaid : Prop := Claim7.holds Tryd.pinned (.plain (OpenSpec.ofChange foldBackSpec)) foldBackCard

/-- THE TIED CARD OF 'hustingslaw1.FoldPresses'. -/
def foldPressesCard : Claim7 := { stood := { row := foldPressesRow, standIns := [], harness := (true, "ac135124bd1a44696f7bfba587b4a872beeb74c629d1974750d337b97ed00285"), looks := false }, kinds := [], alts := [], laidByText := true, laidKinds := [.data, .data, .data], laidTests := true, laidLooks := .later }
def FoldPressesCardSaid : Prop := Claim7.holds Tryd.pinned (.plain (OpenSpec.ofChange foldPressesSpec)) foldPressesCard

/-- THE TIED CARD OF 'hustingslaw1.FoldDigests'. -/
def foldDigestsCard : Claim7 := { stood := { row := foldDigestsRow, standIns := [], harness := (true, "ac135124bd1a44696f7bfba587b4a872beeb74c629d1974750d337b97ed00285"), looks := false }, kinds := [], alts := [], laidByText := true, laidKinds := [.data, .data, .data], laidTests := true, laidLooks := .later }
def FoldDigestsCardSaid : Prop := Claim7.holds Tryd.pinned (.plain (OpenSpec.ofChange foldDigestsSpec)) foldDigestsCard

/-- THE TIED CARD OF 'hustingslaw1.FoldTags'. -/
def foldTagsCard : Claim7 := { stood := { row := foldTagsRow, standIns := [], harness := (true, "ac135124bd1a44696f7bfba587b4a872beeb74c629d1974750d337b97ed00285"), looks := false }, kinds := [], alts := [], laidByText := true, laidKinds := [.data, .data, .data], laidTests := true, laidLooks := .later }
def FoldTagsCardSaid : Prop := Claim7.holds Tryd.pinned (.plain (OpenSpec.ofChange foldTagsSpec)) foldTagsCard

/-- THE TIED CARD OF 'hustingslaw1.FoldStreams'. -/
def foldStreamsCard : Claim7 := { stood := { row := foldStreamsRow, standIns := [], harness := (true, "ac135124bd1a44696f7bfba587b4a872beeb74c629d1974750d337b97ed00285"), looks := false }, kinds := [], alts := [], laidByText := true, laidKinds := [.data, .data, .data], laidTests := true, laidLooks := .later }
def FoldStreamsCardSaid : Prop := Claim7.holds Tryd.pinned (.plain (OpenSpec.ofChange foldStreamsSpec)) foldStreamsCard

/-- THE SECOND FORM's CARD OF 'hustingslaw1.FoldStirs'. -/
def foldStirsUptoCard : Claim7 := { stood := { row := foldStirsUptoRow, standIns := [], harness := (true, "ac135124bd1a44696f7bfba587b4a872beeb74c629d1974750d337b97ed00285"), looks := false }, kinds := [], alts := [], laidByText := true, laidKinds := [.data, .data], laidTests := true, laidLooks := .later }
def FoldStirsUptoCardSaid : Prop := Claim7.holds Tryd.pinned (.plain (OpenSpec.upto foldStirsSpec)) foldStirsUptoCard

/-- THE SECOND FORM's CARD OF 'hustingslaw1.FoldBack'. -/
def foldBackUptoCard : Claim7 := { stood := { row := foldBackUptoRow, standIns := [], harness := (true, "ac135124bd1a44696f7bfba587b4a872beeb74c629d1974750d337b97ed00285"), looks := false }, kinds := [], alts := [], laidByText := true, laidKinds := [.data, .data], laidTests := true, laidLooks := .later }
def FoldBackUptoCardSaid : Prop := Claim7.holds Tryd.pinned (.plain (OpenSpec.upto foldBackSpec)) foldBackUptoCard

/-- THE SECOND FORM's CARD OF 'hustingslaw1.FoldPresses'. -/
def foldPressesUptoCard : Claim7 := { stood := { row := foldPressesUptoRow, standIns := [], harness := (true, "ac135124bd1a44696f7bfba587b4a872beeb74c629d1974750d337b97ed00285"), looks := false }, kinds := [], alts := [], laidByText := true, laidKinds := [.data, .data, .data], laidTests := true, laidLooks := .later }
def FoldPressesUptoCardSaid : Prop := Claim7.holds Tryd.pinned (.plain (OpenSpec.upto foldPressesSpec)) foldPressesUptoCard

/-- THE SECOND FORM's CARD OF 'hustingslaw1.FoldDigests'. -/
def foldDigestsUptoCard : Claim7 := { stood := { row := foldDigestsUptoRow, standIns := [], harness := (true, "ac135124bd1a44696f7bfba587b4a872beeb74c629d1974750d337b97ed00285"), looks := false }, kinds := [], alts := [], laidByText := true, laidKinds := [.data, .data, .data], laidTests := true, laidLooks := .later }
def FoldDigestsUptoCardSaid : Prop := Claim7.holds Tryd.pinned (.plain (OpenSpec.upto foldDigestsSpec)) foldDigestsUptoCard

/-- THE SECOND FORM's CARD OF 'hustingslaw1.FoldTags'. -/
def foldTagsUptoCard : Claim7 := { stood := { row := foldTagsUptoRow, standIns := [], harness := (true, "ac135124bd1a44696f7bfba587b4a872beeb74c629d1974750d337b97ed00285"), looks := false }, kinds := [], alts := [], laidByText := true, laidKinds := [.data, .data, .data], laidTests := true, laidLooks := .later }
def FoldTagsUptoCardSaid : Prop := Claim7.holds Tryd.pinned (.plain (OpenSpec.upto foldTagsSpec)) foldTagsUptoCard

/-- THE SECOND FORM's CARD OF 'hustingslaw1.FoldStreams'. -/
def foldStreamsUptoCard : Claim7 := { stood := { row := foldStreamsUptoRow, standIns := [], harness := (true, "ac135124bd1a44696f7bfba587b4a872beeb74c629d1974750d337b97ed00285"), looks := false }, kinds := [], alts := [], laidByText := true, laidKinds := [.data, .data, .data], laidTests := true, laidLooks := .later }
def FoldStreamsUptoCardSaid : Prop := Claim7.holds Tryd.pinned (.plain (OpenSpec.upto foldStreamsSpec)) foldStreamsUptoCard
end Rows
end Go.Proofs.YtalagjmjpoacmaaDoor
