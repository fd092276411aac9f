/- The reference's fractions reckoned with: regions that draw their order. -/
import Derived.Test.YtflabehlaiocaaaDoorBaseE
import Derived.Test.YtflabehlaiocaaaDoorSure
set_option linter.unusedSimpArgs false
set_option linter.unusedVariables false
namespace Go.Proofs.YtflabehlaiocaaaDoor
open Go.RowKit Go.Deep Go.PlainAid

theorem IHolds.two0 {W : World} {b : Nat} {t : TypeId} {x y : Value} (h : IHolds W b t [x, y]) : W.cell? ⟨b, 0, none⟩ = some x := h.cell 0 (by simp)
theorem IHolds.two1 {W : World} {b : Nat} {t : TypeId} {x y : Value} (h : IHolds W b t [x, y]) : W.cell? ⟨b, 1, none⟩ = some y := h.cell 1 (by simp)

end Go.Proofs.YtflabehlaiocaaaDoor
