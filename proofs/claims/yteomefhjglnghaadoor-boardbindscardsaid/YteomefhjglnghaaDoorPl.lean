/- The greatest block that begins at a place. -/
import Derived.Lib.ItoaNum
set_option linter.unusedSimpArgs false
set_option linter.unusedVariables false
namespace Go.Proofs.YteomefhjglnghaaDoor

/-- The greatest power of two, 2 ^ k at most, that is not above d and divides lo. -/
def down : Nat → Nat → Nat → Nat
  | 0, _, _ => 1
  | k + 1, d, lo => if 2 ^ (k + 1) ≤ d ∧ lo % 2 ^ (k + 1) = 0 then 2 ^ (k + 1) else down k d lo
theorem down_spec (d lo : Nat) (hd : 1 ≤ d) : ∀ k, ∃ j, j ≤ k ∧ down k d lo = 2 ^ j ∧ 2 ^ j ≤ d ∧ lo % 2 ^ j = 0 ∧ ∀ i, j < i → i ≤ k → ¬ (2 ^ i ≤ d ∧ lo % 2 ^ i = 0)
  | 0 => ⟨0, Nat.le_refl _, rfl, by simpa using hd, by simp [Nat.mod_one], fun i h1 h2 => by omega⟩
  | k + 1 => by
    by_cases h : 2 ^ (k + 1) ≤ d ∧ lo % 2 ^ (k + 1) = 0
    · exact ⟨k + 1, Nat.le_refl _, by rw [down, if_pos h], h.1, h.2, fun i h1 h2 => by omega⟩
    · obtain ⟨j, h1, h2, h3, h4, h5⟩ := down_spec d lo hd k
      refine ⟨j, by omega, by rw [down, if_neg h]; exact h2, h3, h4, fun i g1 g2 => ?_⟩
      by_cases e : i = k + 1
      · subst e; exact h
      · exact h5 i g1 (by omega)
theorem down_uniq {k d lo j : Nat} (h : j ≤ k) (h1 : 2 ^ j ≤ d) (h2 : lo % 2 ^ j = 0) (h3 : ¬ (2 ^ (j + 1) ≤ d ∧ lo % 2 ^ (j + 1) = 0)) : down k d lo = 2 ^ j := by
  have hd : 1 ≤ d := Nat.le_trans (Nat.one_le_two_pow) h1
  obtain ⟨j', g1, g2, g3, g4, g5⟩ := down_spec d lo hd k
  rw [g2]
  rcases Nat.lt_trichotomy j' j with e | e | e
  · exact absurd ⟨h1, h2⟩ (g5 j e h)
  · rw [e]
  · exfalso
    apply h3
    have hp : 2 ^ (j + 1) ∣ 2 ^ j' := Nat.pow_dvd_pow 2 e
    exact ⟨Nat.le_trans (Nat.le_of_dvd (Nat.two_pow_pos _) hp) g3, Nat.mod_eq_zero_of_dvd (Nat.dvd_trans hp (Nat.dvd_of_mod_eq_zero g4))⟩
/-- A number's lowest bit. -/
theorem low_bit : ∀ n : Nat, n ≠ 0 → ∃ v m, n = 2 ^ v * (2 * m + 1) := by
  intro n
  induction n using Nat.strongRecOn with
  | _ n ih =>
  intro h0
  by_cases h : n % 2 = 0
  · obtain ⟨v, m, e⟩ := ih (n / 2) (by omega) (by omega)
    refine ⟨v + 1, m, ?_⟩
    have : n = 2 * (n / 2) := by omega
    rw [this, e, Nat.pow_succ]
    simp only [Nat.mul_assoc, Nat.mul_comm, Nat.mul_left_comm]
  · exact ⟨0, n / 2, by simp; omega⟩
theorem low_not {v m : Nat} : (2 ^ v * (2 * m + 1)) % 2 ^ (v + 1) ≠ 0 := fun h => by
  have h1 := Nat.dvd_of_mod_eq_zero h
  rw [Nat.pow_succ] at h1
  have := Nat.dvd_of_mul_dvd_mul_left (Nat.two_pow_pos v) h1
  omega
/-- The blocks from lo on below hi, at most k of them. -/
def cov : Nat → Nat → Nat → List (Nat × Nat)
  | 0, _, _ => []
  | k + 1, lo, hi => if lo < hi then (lo, lo + down 20 (hi - lo) lo) :: cov k (lo + down 20 (hi - lo) lo) hi else []
theorem down_pos (d lo : Nat) (hd : 1 ≤ d) (k : Nat) : 1 ≤ down k d lo ∧ down k d lo ≤ d := by
  obtain ⟨j, h1, h2, h3, h4, h5⟩ := down_spec d lo hd k
  rw [h2]
  exact ⟨Nat.one_le_two_pow, h3⟩
theorem cov_len : ∀ k lo hi, hi - lo ≤ k → (cov k lo hi).length ≤ hi - lo
  | 0, _, _, _ => by simp [cov]
  | k + 1, lo, hi, h => by
    rw [cov]
    split
    · have := down_pos (hi - lo) lo (by omega) 20
      have := cov_len k (lo + down 20 (hi - lo) lo) hi (by omega)
      simp only [List.length_cons]
      omega
    · simp
end Go.Proofs.YteomefhjglnghaaDoor
