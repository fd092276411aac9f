/- Plain: sums of fractions, by what both denominators have in common. -/
import Derived.Test.YtnahindcgedbaabDoorBaseA
set_option linter.unusedSimpArgs false
set_option linter.unusedVariables false
namespace Go.Proofs.YtnahindcgedbaabDoor

theorem join_gcd {num c f g : Nat} (h1 : Nat.Coprime num f) (h2 : Nat.Coprime num g) : Nat.gcd (c * num) ((c * f) * (c * g)) = c * Nat.gcd num c := by
  have e : (c * f) * (c * g) = c * (f * (g * c)) := by grind
  rw [e, Nat.gcd_mul_left]
  congr 1
  rw [Nat.Coprime.gcd_mul_left_cancel_right _ h1.symm, Nat.Coprime.gcd_mul_left_cancel_right _ h2.symm]
theorem cop_sum {a b f g : Nat} (h1 : Nat.Coprime a f) (h2 : Nat.Coprime g f) : Nat.Coprime (a * g + b * f) f := by
  unfold Nat.Coprime
  rw [Nat.gcd_add_mul_right_left]
  exact Nat.Coprime.mul_left h1 h2
theorem cop_sum' {a b f g : Nat} (h1 : Nat.Coprime b g) (h2 : Nat.Coprime f g) : Nat.Coprime (a * g + b * f) g := by
  rw [Nat.add_comm]; exact cop_sum h1 h2
theorem cop_diff {a b f g : Nat} (h1 : Nat.Coprime a f) (h2 : Nat.Coprime g f) (hle : b * f ≤ a * g) : Nat.Coprime (a * g - b * f) f := by
  unfold Nat.Coprime
  have h := Nat.Coprime.mul_left h1 h2
  have e : a * g = (a * g - b * f) + b * f := by omega
  rw [e] at h
  unfold Nat.Coprime at h
  rw [Nat.gcd_add_mul_right_left] at h
  exact h
theorem cop_diff' {a b f g : Nat} (h1 : Nat.Coprime b g) (h2 : Nat.Coprime f g) (hle : b * f ≤ a * g) : Nat.Coprime (a * g - b * f) g := by
  have h := Nat.Coprime.mul_left h1 h2
  have d : Nat.gcd (a * g - b * f) g ∣ b * f := by
    have k1 : Nat.gcd (a * g - b * f) g ∣ a * g - b * f := Nat.gcd_dvd_left _ _
    have k2 : Nat.gcd (a * g - b * f) g ∣ a * g := Nat.dvd_trans (Nat.gcd_dvd_right _ _) (Nat.dvd_mul_left _ _)
    have k3 := Nat.dvd_sub k2 k1
    rwa [show a * g - (a * g - b * f) = b * f by omega] at k3
  have : Nat.gcd (a * g - b * f) g ∣ 1 := by
    have := Nat.dvd_gcd d (Nat.gcd_dvd_right (a * g - b * f) g)
    rwa [h] at this
  exact Nat.dvd_one.1 this
/-- What the sum (or difference) by the common divisor comes to, against the long products. -/
theorem join_parts {num c f g : Nat} (hc : c ≠ 0) (h1 : Nat.Coprime num f) (h2 : Nat.Coprime num g) :
    (c * num) / Nat.gcd (c * num) ((c * f) * (c * g)) = num / Nat.gcd num c ∧ ((c * f) * (c * g)) / Nat.gcd (c * num) ((c * f) * (c * g)) = f * ((c * g) / Nat.gcd num c) := by
  rw [join_gcd h1 h2]
  have hp : 0 < c := Nat.pos_of_ne_zero hc
  refine ⟨Nat.mul_div_mul_left _ _ hp, ?_⟩
  have e : (c * f) * (c * g) = c * (f * (c * g)) := by grind
  rw [e, Nat.mul_div_mul_left _ _ hp, Nat.mul_div_assoc]
  exact Nat.dvd_trans (Nat.gcd_dvd_right num c) (Nat.dvd_mul_right c g)
end Go.Proofs.YtnahindcgedbaabDoor
