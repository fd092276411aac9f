/- Plain: fractions in lowest terms are reckoned with as fractions are. -/
import Derived.Test.YtnahindcgedbaabDoorJoinPlain
set_option linter.unusedSimpArgs false
set_option linter.unusedVariables false
namespace Go.Proofs.YtnahindcgedbaabDoor

/-- N/D in lowest terms: what is above, what is below. -/
def lo (N D : Nat) : Nat := N / Nat.gcd N D
def ld (N D : Nat) : Nat := D / Nat.gcd N D
theorem gcd_pos_r {N D : Nat} (h : D ≠ 0) : 0 < Nat.gcd N D := Nat.gcd_pos_of_pos_right N (Nat.pos_of_ne_zero h)
theorem lo_mul (N D : Nat) : lo N D * Nat.gcd N D = N := Nat.div_mul_cancel (Nat.gcd_dvd_left N D)
theorem ld_mul (N D : Nat) : ld N D * Nat.gcd N D = D := Nat.div_mul_cancel (Nat.gcd_dvd_right N D)
theorem lo_cross {N D : Nat} (h : D ≠ 0) : lo N D * D = N * ld N D := by
  have h1 := lo_mul N D
  have h2 := ld_mul N D
  generalize lo N D = x at *
  generalize ld N D = y at *
  generalize Nat.gcd N D = g at *
  rw [← h1, ← h2]; grind
theorem lo_cop {N D : Nat} (h : D ≠ 0) : Nat.gcd (lo N D) (ld N D) = 1 := Nat.coprime_div_gcd_div_gcd (gcd_pos_r h)
theorem ld_ne {N D : Nat} (h : D ≠ 0) : ld N D ≠ 0 := by
  intro h0
  have := ld_mul N D
  rw [h0, Nat.zero_mul] at this
  exact h this.symm
theorem lo_le (N D : Nat) : lo N D ≤ N := Nat.div_le_self _ _
theorem ld_le (N D : Nat) : ld N D ≤ D := Nat.div_le_self _ _
/-- Two that are as much are the same in lowest terms. -/
theorem cop_same {a b c d : Nat} (hb : b ≠ 0) (hd : d ≠ 0) (h1 : Nat.gcd a b = 1) (h2 : Nat.gcd c d = 1) (h : a * d = c * b) : a = c ∧ b = d := by
  have k1 : b ∣ d := by
    have : b ∣ a * d := ⟨c, by rw [h, Nat.mul_comm]⟩
    exact Nat.Coprime.dvd_of_dvd_mul_left (show Nat.Coprime b a by rw [Nat.coprime_comm]; exact h1) this
  have k2 : d ∣ b := by
    have : d ∣ c * b := ⟨a, by rw [← h, Nat.mul_comm]⟩
    exact Nat.Coprime.dvd_of_dvd_mul_left (show Nat.Coprime d c by rw [Nat.coprime_comm]; exact h2) this
  have e := Nat.dvd_antisymm k1 k2
  subst e
  exact ⟨Nat.eq_of_mul_eq_mul_right (Nat.pos_of_ne_zero hb) h, rfl⟩
theorem lo_same {N D M E : Nat} (hD : D ≠ 0) (hE : E ≠ 0) (h : N * E = M * D) : lo N D = lo M E ∧ ld N D = ld M E := by
  refine cop_same (ld_ne hD) (ld_ne hE) (lo_cop hD) (lo_cop hE) ?_
  have c1 := lo_mul N D
  have c2 := ld_mul N D
  have c3 := lo_mul M E
  have c4 := ld_mul M E
  have p1 := gcd_pos_r (N := N) hD
  have p2 := gcd_pos_r (N := M) hE
  generalize lo N D = x at *
  generalize ld N D = y at *
  generalize lo M E = u at *
  generalize ld M E = v at *
  generalize Nat.gcd N D = g at *
  generalize Nat.gcd M E = k at *
  have e : (g * k) * (x * v) = (g * k) * (u * y) := by
    have : (x * g) * (v * k) = (u * k) * (y * g) := by rw [c1, c2, c3, c4]; exact h
    grind
  exact Nat.eq_of_mul_eq_mul_left (Nat.mul_pos p1 p2) e
/-- In lowest terms already. -/
theorem lo_own {a b : Nat} (h : Nat.gcd a b = 1) : lo a b = a ∧ ld a b = b := by
  unfold lo ld
  rw [h, Nat.div_one, Nat.div_one]
  exact ⟨rfl, rfl⟩
/-- What is lowest of a sum, a product .. with one part brought to lowest terms first. -/
theorem plus_left {N D e f : Nat} (hD : D ≠ 0) (hf : f ≠ 0) : lo (lo N D * f + e * ld N D) (ld N D * f) = lo (N * f + e * D) (D * f) ∧ ld (lo N D * f + e * ld N D) (ld N D * f) = ld (N * f + e * D) (D * f) := by
  have hy := ld_ne (N := N) hD
  have hc := lo_cross (N := N) hD
  refine lo_same (Nat.mul_ne_zero hy hf) (Nat.mul_ne_zero hD hf) ?_
  generalize lo N D = x at *
  generalize ld N D = y at *
  have : (x * f + e * y) * (D * f) = (x * D) * (f * f) + e * y * (D * f) := by grind
  rw [this, hc]; grind
theorem plus_right {N D e f : Nat} (hD : D ≠ 0) (hf : f ≠ 0) : lo (e * ld N D + lo N D * f) (f * ld N D) = lo (e * D + N * f) (f * D) ∧ ld (e * ld N D + lo N D * f) (f * ld N D) = ld (e * D + N * f) (f * D) := by
  have := plus_left (N := N) (e := e) hD hf
  rw [Nat.add_comm, Nat.mul_comm f, Nat.add_comm (e * D), Nat.mul_comm f D]
  exact this
theorem times_left {N D e f : Nat} (hD : D ≠ 0) (hf : f ≠ 0) : lo (lo N D * e) (ld N D * f) = lo (N * e) (D * f) ∧ ld (lo N D * e) (ld N D * f) = ld (N * e) (D * f) := by
  have hy := ld_ne (N := N) hD
  have hc := lo_cross (N := N) hD
  refine lo_same (Nat.mul_ne_zero hy hf) (Nat.mul_ne_zero hD hf) ?_
  generalize lo N D = x at *
  generalize ld N D = y at *
  have : (x * e) * (D * f) = (x * D) * (e * f) := by grind
  rw [this, hc]; grind
theorem times_right {N D e f : Nat} (hD : D ≠ 0) (hf : f ≠ 0) : lo (e * lo N D) (f * ld N D) = lo (e * N) (f * D) ∧ ld (e * lo N D) (f * ld N D) = ld (e * N) (f * D) := by
  have := times_left (N := N) (e := e) hD hf
  rw [Nat.mul_comm e, Nat.mul_comm f, Nat.mul_comm e, Nat.mul_comm f]
  exact this
theorem plus_both {N D M E : Nat} (hD : D ≠ 0) (hE : E ≠ 0) : lo (lo N D * ld M E + lo M E * ld N D) (ld N D * ld M E) = lo (N * E + M * D) (D * E) ∧ ld (lo N D * ld M E + lo M E * ld N D) (ld N D * ld M E) = ld (N * E + M * D) (D * E) := by
  have h1 := plus_left (N := N) (e := lo M E) hD (ld_ne (N := M) hE)
  have h2 := plus_right (N := M) (e := N) hE hD
  rw [h1.1, h1.2]
  exact h2
theorem minus_back {N D e f : Nat} (hD : D ≠ 0) (hf : f ≠ 0) (a b : Nat) (ha : Nat.gcd a b = 1) (hb : b ≠ 0) (hN : N = a * f + e * b) (hDb : D = b * f) : e * ld N D ≤ lo N D * f ∧ lo (lo N D * f - e * ld N D) (ld N D * f) = a ∧ ld (lo N D * f - e * ld N D) (ld N D * f) = b := by
  have hy := ld_ne (N := N) hD
  have hc := lo_cross (N := N) hD
  generalize lo N D = x at *
  generalize ld N D = y at *
  subst hN
  subst hDb
  have hpos : 0 < b := Nat.pos_of_ne_zero hb
  have hc2 : x * f * b = (a * f + e * b) * y := by rw [← hc]; grind
  have key : x * f * b = a * f * y + e * y * b := by rw [hc2]; grind
  have hle : e * y ≤ x * f := by
    refine Nat.le_of_mul_le_mul_right (a := e * y) (b := x * f) (c := b) ?_ hpos
    omega
  refine ⟨hle, ?_⟩
  have k3 : (x * f - e * y) * b = a * (y * f) := by
    rw [Nat.sub_mul]
    have : a * (y * f) = a * f * y := by grind
    omega
  have h2 := lo_own ha
  have h3 := lo_same (N := x * f - e * y) (D := y * f) (M := a) (E := b) (Nat.mul_ne_zero hy hf) hb k3
  rw [h2.1, h2.2] at h3
  exact h3
theorem over_back {N D e f : Nat} (hD : D ≠ 0) (hf : f ≠ 0) (he : e ≠ 0) (a b : Nat) (ha : Nat.gcd a b = 1) (hb : b ≠ 0) (hN : N = a * e) (hDb : D = b * f) : lo (lo N D * f) (ld N D * e) = a ∧ ld (lo N D * f) (ld N D * e) = b := by
  have hy := ld_ne (N := N) hD
  have hc := lo_cross (N := N) hD
  have h2 := lo_own ha
  generalize lo N D = x at *
  generalize ld N D = y at *
  subst hN
  subst hDb
  have h3 := lo_same (N := x * f) (D := y * e) (M := a) (E := b) (Nat.mul_ne_zero hy he) hb (by
    have : x * f * b = x * (b * f) := by grind
    rw [this, hc]; grind)
  rw [h2.1, h2.2] at h3
  exact h3
end Go.Proofs.YtnahindcgedbaabDoor
