/- The walk of the law NatReckons. -/
import Derived.Test.YtflabehlaiocaaaDoorKb
import Derived.Test.YtflabehlaiocaaaDoorBaseD
set_option linter.unusedSimpArgs false
set_option linter.unusedVariables false
namespace Go.Proofs.YtflabehlaiocaaaDoor
open Go.RowKit Go.Deep Go.PlainAid

/-! ### The reference's functions, of values that are numbers -/
theorem NumV.nil (w : World) : NumV w 10 0 (.slice none 0 0) := ⟨none, 0, by rw [dg_zero]; rfl, by rw [dg_zero]; exact Nat.le_refl _, by rw [dg_zero]; exact Row.nil _ _⟩
theorem refMulV {W : World} {n m : Nat} {v1 v2 : Value} (h1 : NumV W 10 n v1) (h2 : NumV W 10 m v2) (b1 : (dg 10 n).length ≤ 1000000) (b2 : (dg 10 m).length ≤ 1000000) :
    Calls Tryd.prog 47 #[v1, v2] W fun e w' => (∃ v, e = .returned v ∧ NumV w' 10 (n * m) v) ∧ Below W.heap.size W w' := by
  obtain ⟨a1, c1, rfl, k1, r1⟩ := h1
  obtain ⟨a2, c2, rfl, k2, r2⟩ := h2
  exact refMul_any W a1 a2 c1 c2 n m r1 r2 b1 b2
theorem refSubV {W : World} {n m : Nat} {v1 v2 : Value} (h1 : NumV W 10 n v1) (h2 : NumV W 10 m v2) (b1 : (dg 10 n).length ≤ 1000000) (hmn : m ≤ n) :
    Calls Tryd.prog 61 #[v1, v2] W fun e w' => (∃ v, e = .returned v ∧ NumV w' 10 (n - m) v) ∧ Below W.heap.size W w' := by
  obtain ⟨a1, c1, rfl, k1, r1⟩ := h1
  obtain ⟨a2, c2, rfl, k2, r2⟩ := h2
  exact refSub_any W a1 a2 c1 c2 n m r1 r2 b1 hmn
theorem refCompareV {W : World} {n m : Nat} {v1 v2 : Value} (h1 : NumV W 10 n v1) (h2 : NumV W 10 m v2) (b1 : (dg 10 n).length ≤ 1000000) (b2 : (dg 10 m).length ≤ 1000000) :
    Calls Tryd.prog 46 #[v1, v2] W fun e w' => e = .returned (.int .i64 (cmp3 (n : Int) (m : Int))) ∧ Below W.heap.size W w' := by
  obtain ⟨a1, c1, rfl, k1, r1⟩ := h1
  obtain ⟨a2, c2, rfl, k2, r2⟩ := h2
  refine (refCompare_any W a1 a2 c1 c2 n m r1 r2 b1 b2).mono ?_
  rintro e w' ⟨he, k, rfl⟩
  exact ⟨he, below_drawn W k⟩
theorem refTextV {W : World} {n : Nat} {v : Value} (h : NumV W 10 n v) (b : (dg 10 n).length ≤ 1000000) :
    Calls Tryd.prog 33 #[v] W fun e w' => e = .returned (.string ⟨(txt n).toArray⟩) ∧ Below W.heap.size W w' := by
  obtain ⟨a1, c1, rfl, k1, r1⟩ := h
  exact refText_any W a1 c1 n r1 b
theorem dg_len_bv10 (s : ByteArray) (h : wrT s = 0) : (dg 10 (bv s.data.toList)).length ≤ 4000 := by
  obtain ⟨hn, hs⟩ := wrT_zero h
  refine Nat.le_trans (dg_len_le ten s.size _ ?_) hs
  have := bv_lt _ (isNum_all hn)
  rwa [size_list] at this
theorem dg_len_add10 (n m k : Nat) (h1 : (dg 10 n).length ≤ k) (h2 : (dg 10 m).length ≤ k) : (dg 10 (n + m)).length ≤ k + 1 := by
  refine dg_len_le ten _ _ ?_
  have e1 := lt_pow_dg ten n
  have e2 := lt_pow_dg ten m
  have e3 : 10 ^ (dg 10 n).length ≤ 10 ^ k := Nat.pow_le_pow_right (by omega) h1
  have e4 : 10 ^ (dg 10 m).length ≤ 10 ^ k := Nat.pow_le_pow_right (by omega) h2
  have e5 : 10 ^ (k + 1) = 10 ^ k * 10 := Nat.pow_succ _ _
  omega

/-! ### Is an answer that of the document? -/
end Go.Proofs.YtflabehlaiocaaaDoor
