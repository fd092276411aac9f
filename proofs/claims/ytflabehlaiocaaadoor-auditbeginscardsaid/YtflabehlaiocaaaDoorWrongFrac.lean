/- What is wrong with two texts that are handed in as a fraction. -/
import Derived.Test.YtflabehlaiocaaaDoorBaseE
import Derived.Test.YtflabehlaiocaaaDoorEuclidWalk
set_option linter.unusedSimpArgs false
set_option linter.unusedVariables false
namespace Go.Proofs.YtflabehlaiocaaaDoor
open Go.RowKit Go.Deep Go.PlainAid

/-- What is wrong with two texts as a fraction: 2 where one is no number, or they are not in lowest terms, 3 where one is too long. -/
def wrF (n d : ByteArray) : Nat :=
  if isNum n.data.toList = false ∨ isNum d.data.toList = false then 2
  else if 4000 < n.size ∨ 4000 < d.size then 3
  else if bv d.data.toList = 0 ∨ Nat.gcd (bv n.data.toList) (bv d.data.toList) ≠ 1 then 2 else 0
theorem wrF_zero {n d : ByteArray} (h : wrF n d = 0) : wrT n = 0 ∧ wrT d = 0 ∧ bv d.data.toList ≠ 0 ∧ Nat.gcd (bv n.data.toList) (bv d.data.toList) = 1 := by
  unfold wrF at h
  split at h
  · omega
  · split at h
    · omega
    · split at h
      · omega
      · rename_i h1 h2 h3
        have e1 : isNum n.data.toList = true := by cases hq : isNum n.data.toList with | true => rfl | false => exact absurd (Or.inl hq) h1
        have e2 : isNum d.data.toList = true := by cases hq : isNum d.data.toList with | true => rfl | false => exact absurd (Or.inr hq) h1
        refine ⟨wrT_ok e1 (by omega), wrT_ok e2 (by omega), fun h => h3 (Or.inl h), ?_⟩
        by_cases hg : Nat.gcd (bv n.data.toList) (bv d.data.toList) = 1
        · exact hg
        · exact absurd (Or.inr hg) h3

theorem toList_yes (s : ByteArray) (l : List UInt8) (h : s = ⟨l.toArray⟩) : (s.toList == l) = true := by
  subst h; rw [ByteArray.toList_eq]; simp
theorem toList_no (s : ByteArray) (l : List UInt8) (h : s ≠ ⟨l.toArray⟩) : (s.toList == l) = false := by
  rw [beq_eq_false_iff_ne]
  intro e
  rw [ByteArray.toList_eq] at e
  exact h (list_inj (by rw [e]))
end Go.Proofs.YtflabehlaiocaaaDoor
