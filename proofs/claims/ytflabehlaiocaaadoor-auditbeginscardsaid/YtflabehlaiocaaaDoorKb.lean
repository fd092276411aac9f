/- The walks of readNumber and of what reads two numbers: Add, Sub, Mul, Compare. The walks of Add, Sub, Mul, Compare. -/
import Derived.Test.YtflabehlaiocaaaDoorBaseA
set_option linter.unusedSimpArgs false
set_option linter.unusedVariables false
namespace Go.Proofs.YtflabehlaiocaaaDoor
open Go.RowKit Go.Deep Go.PlainAid

theorem wrT_zero {s : ByteArray} (h : wrT s = 0) : isNum s.data.toList = true ∧ s.size ≤ 4000 := by
  unfold wrT at h
  split at h
  · cases h
  · split at h
    · cases h
    · rename_i h1 h2
      exact ⟨by simpa using h1, by omega⟩
theorem isNum_all {l : List UInt8} (h : isNum l = true) : allDig l = true := by
  simp only [isNum, Bool.and_eq_true] at h
  exact h.1
end Go.Proofs.YtflabehlaiocaaaDoor
namespace Go.Proofs.YtflabehlaiocaaaDoor
open Go.RowKit Go.Deep Go.PlainAid

/-! ### What is done with two numbers that were read -/
/-- A length that is bounded by the text's. -/
theorem dg_len_bv (s : ByteArray) (h : wrT s = 0) : (dg 1000000000 (bv s.data.toList)).length ≤ 4000 := by
  obtain ⟨hn, hs⟩ := wrT_zero h
  refine Nat.le_trans (dg_len_le bigBase s.size _ (Nat.lt_of_lt_of_le (bv_lt _ (isNum_all hn)) ?_)) hs
  rw [size_list]
  exact Nat.pow_le_pow_left (by omega) _
theorem dg_len_add (n m k : Nat) (h1 : (dg 1000000000 n).length ≤ k) (h2 : (dg 1000000000 m).length ≤ k) : (dg 1000000000 (n + m)).length ≤ k + 1 :=
  dg_len_le bigBase _ _ (sum_lt (lt_pow_dg bigBase n) (lt_pow_dg bigBase m) (by omega) (by omega))
theorem dg_len_mul {B : Nat} (hB : 2 ≤ B) (n m : Nat) : (dg B (n * m)).length ≤ (dg B n).length + (dg B m).length := by
  refine dg_len_le hB _ _ ?_
  rw [Nat.pow_add]
  have h1 := lt_pow_dg hB n
  have h2 := lt_pow_dg hB m
  calc n * m ≤ n * B ^ (dg B m).length := Nat.mul_le_mul_left _ (by omega)
    _ < B ^ (dg B n).length * B ^ (dg B m).length := Nat.mul_lt_mul_of_pos_right h1 (by omega)
theorem below_drawn (w : World) (k : Nat) : Below w.heap.size w (w.drewN k) := ⟨rfl, rfl, rfl, Nat.le_refl _, fun _ _ => rfl⟩

end Go.Proofs.YtflabehlaiocaaaDoor
