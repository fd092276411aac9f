/- The walk of GroupTells. -/
import Derived.Test.YtohpbclofcflaaaGreatOn
import Derived.Test.YtohpbclofcflaaaGreatKind
set_option linter.unusedSimpArgs false
set_option linter.unusedVariables false
namespace Go.Proofs.YtohpbclofcflaaaGreat
open Go.RowKit Go.Deep Go.PlainAid

theorem refTextV {W : World} {n S : Nat} {v : Value} (h : NumV W 65536 n v) (b : (dg 65536 n).length ≤ 1000000) (hS : S ≤ 100000) :
    Calls Tryz.prog 23 #[v, .int .i64 (S : Int)] W fun e w' => e = .returned (.string ⟨(beB S n).toArray⟩) ∧ Below W.heap.size W w' := by
  obtain ⟨a, c, rfl, _, r⟩ := h
  exact refText_any W a c n S r b hS
end Go.Proofs.YtohpbclofcflaaaGreat
