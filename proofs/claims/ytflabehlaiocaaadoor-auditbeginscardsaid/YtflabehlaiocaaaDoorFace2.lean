/- The walks of Gcd and Div. -/
import Derived.Test.YtflabehlaiocaaaDoorGcdLow
set_option linter.unusedSimpArgs false
set_option linter.unusedVariables false
namespace Go.Proofs.YtflabehlaiocaaaDoor
open Go.RowKit Go.Deep Go.PlainAid

theorem textV {W : World} {n : Nat} {v : Value} (h : NumV W 1000000000 n v) (b : (dg 1000000000 n).length ≤ 1000000) :
    Calls Tryd.prog 43 #[v] W fun e w' => e = .returned (.string ⟨(txt n).toArray⟩) ∧ Below W.heap.size W w' := by
  obtain ⟨a1, c1, rfl, k1, r1⟩ := h
  exact text_any W a1 c1 n r1 b

end Go.Proofs.YtflabehlaiocaaaDoor
