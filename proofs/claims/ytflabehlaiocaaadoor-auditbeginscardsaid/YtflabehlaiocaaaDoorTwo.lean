/- The walks of readNumber and of what reads two numbers: Add, Sub, Mul, Compare. -/
import Derived.Test.YtflabehlaiocaaaDoorBaseA
set_option linter.unusedSimpArgs false
set_option linter.unusedVariables false
namespace Go.Proofs.YtflabehlaiocaaaDoor
open Go.RowKit Go.Deep Go.PlainAid

theorem wrT_zero {s : ByteArray} (h : wrT s = 0) : isNum s.data.toList = true ∧ s.size ≤ 4000 := by
  unfold wrT at h
  split at h
  · cases h
  · split at h
    · cases h
    · rename_i h1 h2
      exact ⟨by simpa using h1, by omega⟩
theorem isNum_all {l : List UInt8} (h : isNum l = true) : allDig l = true := by
  simp only [isNum, Bool.and_eq_true] at h
  exact h.1
end Go.Proofs.YtflabehlaiocaaaDoor
