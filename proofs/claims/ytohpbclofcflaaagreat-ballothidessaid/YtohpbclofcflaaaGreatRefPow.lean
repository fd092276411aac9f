/- The reference: sums, products and powers modulo. -/
import Derived.Test.YtohpbclofcflaaaGreatIsRef
import Derived.Deep.CutBlock
import Derived.Deep.DeepCutAuto
set_option linter.unusedSimpArgs false
set_option linter.unusedVariables false
namespace Go.Proofs.YtohpbclofcflaaaGreat
open Go.RowKit Go.Deep Go.PlainAid

/-- What bits are as a number, the highest first. -/
def bval (L : List Nat) : Nat := L.foldl (fun x b => 2 * x + b) 0
theorem bval_snoc (L : List Nat) (b : Nat) : bval (L ++ [b]) = 2 * bval L + b := by simp [bval]
theorem bit_step (V d j : Nat) (hj : j < 16) : 2 * (V * 2 ^ j + d / 2 ^ (16 - j)) + d / (2 ^ (16 - j) / 2) % 2 = V * 2 ^ (j + 1) + d / 2 ^ (16 - (j + 1)) := by
  obtain ⟨k, hk⟩ : ∃ k, 16 - j = k + 1 := ⟨15 - j, by omega⟩
  have e : 16 - (j + 1) = k := by omega
  rw [hk, e, Nat.pow_succ 2 k, Nat.mul_div_cancel _ (by omega), ← Nat.div_div_eq_div_mul, Nat.pow_succ 2 j, ← Nat.mul_assoc V]
  omega
theorem half_step (j : Nat) : 2 ^ (16 - j) / 2 / 2 = 2 ^ (16 - (j + 1)) / 2 := by
  rcases Nat.lt_or_ge j 16 with h | h
  · obtain ⟨k, hk⟩ : ∃ k, 16 - j = k + 1 := ⟨15 - j, by omega⟩
    have e : 16 - (j + 1) = k := by omega
    rw [hk, e, Nat.pow_succ 2 k, Nat.mul_div_cancel _ (by omega)]
  · rw [show 16 - j = 0 by omega, show 16 - (j + 1) = 0 by omega]
theorem half_pos {j : Nat} (h : j < 16) : 0 < 2 ^ (16 - j) / 2 := by
  obtain ⟨k, hk⟩ : ∃ k, 16 - j = k + 1 := ⟨15 - j, by omega⟩
  rw [hk, Nat.pow_succ, Nat.mul_div_cancel _ (by omega)]
  exact Nat.pow_pos (by omega)
theorem half_le (j : Nat) : 2 ^ (16 - j) / 2 ≤ 32768 := by
  have : 2 ^ (16 - j) ≤ 2 ^ 16 := Nat.pow_le_pow_right (by omega) (by omega)
  omega
end Go.Proofs.YtohpbclofcflaaaGreat
