/-
  DERIVED. GIVEN WITH THE SEED: THE PROGRAM's TIES (one call each: nine closed facts by the kernel) AND EACH ROW's TIE, after the 31st guide's Derived/Test/Toyas{Tie, Card}.lean. No idea stands in it: it is a product of the set-up. Laid BY PROGRAM, IN A SANDBOX (cutbox-door.mjs). By AI agents, Wed Nov 11 2026. No macro, syntax, notation, axiom, sorry.
-/
import Derived.Test.YteomefhjglnghaaDoorRows
import Derived.LaidByTextLater
import Derived.SevenTiedAt
import Derived.LaidSub
import Derived.LaidOnce
namespace Go.Proofs.YteomefhjglnghaaDoor
open Go
set_option maxRecDepth 100000
theorem seatTie1 : Tryd.prog.laidByTextLater [("hustings/fold.start", Rows.laid_hustings_fold_start), ("hustings/fold.orders", Rows.laid_hustings_fold_orders), ("hustings/fold.places", Rows.laid_hustings_fold_places)] [.data, .data, .data] true :=
  Program.laidByTextLater_by_one 42 8 161 (by kernel_rfl) (by kernel_rfl) (by kernel_rfl) (by kernel_rfl) (by kernel_rfl) (by kernel_rfl) (fun _ _ => by kernel_rfl)
theorem noOwnUnsafe : Tryd.pinned.checked.prog.headLifts.contains "ownunsafe" = false := by kernel_rfl
theorem tie : Tryd.prog.laidByTextLater [("hustings/fold.start", Rows.laid_hustings_fold_start), ("hustings/fold.orders", Rows.laid_hustings_fold_orders), ("hustings/fold.places", Rows.laid_hustings_fold_places)] [.data, .data, .data] true :=
  Program.laidByTextLater.sub seatTie1 ["hustings/fold.start", "hustings/fold.orders", "hustings/fold.places"] (by kernel_rfl) (by kernel_rfl)
theorem boardBinds_row_tie : Rows.boardBindsRow.laidByTextAt .later Tryd.pinned [.data, .data, .data] true :=
  OpenClaim.laidByTextAt_later rfl rfl tie noOwnUnsafe
theorem boardBindsUpto_row_tie : Rows.boardBindsUptoRow.laidByTextAt .later Tryd.pinned [.data, .data, .data] true :=
  OpenClaim.laidByTextAt_later rfl rfl tie noOwnUnsafe
end Go.Proofs.YteomefhjglnghaaDoor
