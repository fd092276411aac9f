/- The reference: the bits of a number, and powers modulo. -/
import Derived.Test.YtokkjdelomkfiaaGreatRefPow
set_option linter.unusedSimpArgs false
set_option linter.unusedVariables false
namespace Go.Proofs.YtokkjdelomkfiaaGreat
open Go.RowKit Go.Deep Go.PlainAid

theorem vl_drop_step (l : List Nat) (t : Nat) (h : t < l.length) : vl 65536 (l.drop t) = vl 65536 (l.drop (t + 1)) * 65536 + l.getD t 0 := by
  rw [List.drop_eq_getElem_cons h, List.getD_eq_getElem?_getD, List.getElem?_eq_getElem h]
  simp only [vl, Option.getD_some]
  omega
end Go.Proofs.YtokkjdelomkfiaaGreat
