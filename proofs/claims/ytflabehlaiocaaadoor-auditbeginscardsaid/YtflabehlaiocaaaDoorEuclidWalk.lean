/- The walk of the law NatEuclid. -/
import Derived.Test.YtflabehlaiocaaaDoorDiv
import Derived.Test.YtflabehlaiocaaaDoorRingWalk
set_option linter.unusedSimpArgs false
set_option linter.unusedVariables false
namespace Go.Proofs.YtflabehlaiocaaaDoor
open Go.RowKit Go.Deep Go.PlainAid

theorem list_inj {a b : ByteArray} (h : a.data.toList = b.data.toList) : a = b := by
  cases a; cases b; simp only [ByteArray.mk.injEq]; exact Array.toList_inj.1 h
theorem T_ne_nil (n : Nat) : T n ≠ ⟨#[]⟩ := by
  intro h
  have h1 := T_list n
  rw [h] at h1
  have h2 := isNum_txt n
  rw [← h1] at h2
  simp [isNum] at h2

end Go.Proofs.YtflabehlaiocaaaDoor
