/- What is reduced. -/
import Derived.Test.YtohpbclofcflaaaGreatFNum
set_option linter.unusedSimpArgs false
set_option linter.unusedVariables false
namespace Go.Proofs.YtohpbclofcflaaaGreat
open Go.RowKit Go.Deep Go.PlainAid

theorem numS_extract (s : ByteArray) (i j : Nat) : numS (s.extract i j) = beV ((s.data.toList.drop i).take (j - i)) := by
  unfold numS
  rw [ByteArray.data_extract, Array.toList_extract]
theorem size_extract (s : ByteArray) (i j : Nat) (h : j ≤ s.size) : (s.extract i j).size = j - i := by
  rw [ByteArray.size_extract]; omega
theorem beV_upto (l : List UInt8) (i j : Nat) (h : i ≤ j) (hj : j ≤ l.length) : beV (l.take j) = beV (l.take i) * 256 ^ (j - i) + beV ((l.drop i).take (j - i)) := by
  have e : l.take j = l.take i ++ (l.drop i).take (j - i) := by
    have q := List.take_append_drop i (l.take j)
    rw [List.take_take, Nat.min_eq_left h] at q
    rw [List.take_drop, show i + (j - i) = j by omega]
    exact q.symm
  rw [e, beV_append, List.length_take, List.length_drop, Nat.min_eq_left (by omega)]
theorem BB_pow (W : Nat) : BB ^ W = 256 ^ (W * 8) := by rw [BB_256, ← Nat.pow_mul, Nat.mul_comm]
theorem belowN_mod {M x y : Nat} (hx : x < M) (hy : y < M) : belowN M (x + y) = (x + y) % M := by
  unfold belowN
  split
  · rw [Nat.mod_eq_of_lt (by assumption)]
  · rw [Nat.mod_eq_sub_mod (by omega), Nat.mod_eq_of_lt (by omega)]
/-- One piece more. -/
theorem red_step {l : List UInt8} {M Wd i j S : Nat} (hM : 0 < M) (hij : i ≤ j) (hj : j ≤ l.length) (hS : S = beV (l.take i) % M) (h : i + Wd * 8 = j ∨ i = 0) :
    belowN M (S * BB ^ Wd % M + beV ((l.drop i).take (j - i)) % M) = beV (l.take j) % M := by
  rw [belowN_mod (Nat.mod_lt _ hM) (Nat.mod_lt _ hM), ← Nat.add_mod, beV_upto l i j hij hj]
  rcases h with h | h
  · rw [show j - i = Wd * 8 by omega, ← BB_pow, Nat.add_mod, hS, Nat.mod_mul_mod, ← Nat.add_mod]
  · subst h
    have : S = 0 := by rw [hS]; simp [beV]
    rw [this]
    simp [beV]
end Go.Proofs.YtohpbclofcflaaaGreat
