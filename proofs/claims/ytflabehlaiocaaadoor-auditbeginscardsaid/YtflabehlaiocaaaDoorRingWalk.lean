/- The walk of the law NatRing. -/
import Derived.Test.YtflabehlaiocaaaDoorHelp
set_option linter.unusedSimpArgs false
set_option linter.unusedVariables false
namespace Go.Proofs.YtflabehlaiocaaaDoor
open Go.RowKit Go.Deep Go.PlainAid

theorem pow_mul_lt {n m i j : Nat} (h1 : n < 10 ^ i) (h2 : m < 10 ^ j) : n * m < 10 ^ (i + j) := by
  rw [Nat.pow_add]
  calc n * m ≤ n * 10 ^ j := Nat.mul_le_mul_left _ (by omega)
    _ < 10 ^ i * 10 ^ j := Nat.mul_lt_mul_of_pos_right h1 (by omega)
theorem pow_add_lt {n m i : Nat} (h1 : n < 10 ^ i) (h2 : m < 10 ^ i) : n + m < 10 ^ (i + 1) := by
  have : 10 ^ (i + 1) = 10 ^ i * 10 := Nat.pow_succ _ _
  omega
end Go.Proofs.YtflabehlaiocaaaDoor
