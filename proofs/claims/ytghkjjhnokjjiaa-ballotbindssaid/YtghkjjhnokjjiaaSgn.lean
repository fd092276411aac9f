/- Signed residues of a safe prime: a group. -/
import Derived.Test.YtghkjjhnokjjiaaElemX
set_option linter.unusedSimpArgs false
set_option linter.unusedVariables false
namespace Go.Proofs.Ytghkjjhnokjjiaa

theorem neg_mul {p x y : Nat} (h : x ≤ p) (hp : 0 < p) : (p - x) * y % p = (p - x * y % p) % p := by
  have e : (p - x) * y + x * y = p * y := by rw [← Nat.add_mul, Nat.sub_add_cancel h]
  obtain ⟨c, hc⟩ : ∃ c, c = x * y % p := ⟨_, rfl⟩
  have hd := Nat.div_add_mod (x * y) p
  have c9 : c < p := by rw [hc]; exact Nat.mod_lt _ hp
  rw [← hc] at hd ⊢
  obtain ⟨d, hdd⟩ : ∃ d, d = x * y / p := ⟨_, rfl⟩
  rw [← hdd] at hd
  have hy : x * y ≤ p * y := Nat.mul_le_mul_right _ h
  have e2 : (p - x) * y = p * y - x * y := by omega
  by_cases h0 : c = 0
  · rw [h0, Nat.sub_zero, Nat.mod_self, e2, ← hd, h0, Nat.add_zero, ← Nat.mul_sub, Nat.mul_mod_right]
  · have hdy : d < y := by
      refine Nat.lt_of_mul_lt_mul_left (a := p) ?_
      omega
    obtain ⟨t, ht⟩ : ∃ t, y = d + 1 + t := ⟨y - d - 1, by omega⟩
    have e3 : (p - x) * y = (p - c) + p * t := by
      rw [e2, ← hd, ht, Nat.mul_add, Nat.mul_add, Nat.mul_one]
      omega
    rw [e3, Nat.add_mul_mod_self_left]
theorem sgn_neg0 {M M2 c : Nat} (e : M2 = 2 * M + 1) (h : c < M2) : sgn M M2 ((M2 - c) % M2) = sgn M M2 c := by
  by_cases h0 : c = 0
  · rw [h0, Nat.sub_zero, Nat.mod_self]
  · rw [Nat.mod_eq_of_lt (by omega), sgn_neg e (by omega) h]
theorem sgn_mul_left {M M2 x y : Nat} (e : M2 = 2 * M + 1) (hx : x < M2) : sgn M M2 (sgn M M2 x * y % M2) = sgn M M2 (x * y % M2) := by
  by_cases h : M < x
  · have e1 : sgn M M2 x = M2 - x := by unfold sgn; rw [if_pos h]
    rw [e1, neg_mul (by omega) (by omega), sgn_neg0 e (Nat.mod_lt _ (by omega))]
  · have e1 : sgn M M2 x = x := by unfold sgn; rw [if_neg h]
    rw [e1]
theorem sgn_mul {M M2 x y : Nat} (e : M2 = 2 * M + 1) (hx : x < M2) (hy : y < M2) : sgn M M2 (sgn M M2 x * sgn M M2 y % M2) = sgn M M2 (x * y % M2) := by
  rw [sgn_mul_left e hx, Nat.mul_comm, sgn_mul_left e hy, Nat.mul_comm]
theorem sgn_mul_right {M M2 x y : Nat} (e : M2 = 2 * M + 1) (hy : y < M2) : sgn M M2 (x * sgn M M2 y % M2) = sgn M M2 (x * y % M2) := by
  rw [Nat.mul_comm, sgn_mul_left e hy, Nat.mul_comm]
theorem sgn_pow {M M2 x : Nat} (e : M2 = 2 * M + 1) (hM : 1 ≤ M) (hx : x < M2) (n : Nat) : sgn M M2 (sgn M M2 x ^ n % M2) = sgn M M2 (x ^ n % M2) := by
  induction n with
  | zero => rw [Nat.pow_zero, Nat.pow_zero]
  | succ n ih =>
    have h1 : sgn M M2 (sgn M M2 x ^ (n + 1) % M2) = sgn M M2 (sgn M M2 x ^ n % M2 * x % M2) := by
      rw [Nat.pow_succ, Nat.mul_mod, ← sgn_mul_right e (Nat.mod_lt _ (by omega)), Nat.mod_eq_of_lt (show sgn M M2 x < M2 by have := sgn_le e hx; omega)]
      have h2 : sgn M M2 (sgn M M2 x) = sgn M M2 x := by
        have h3 := sgn_le e hx
        generalize sgn M M2 x = y at *
        unfold sgn
        rw [if_neg (by omega)]
      rw [h2, sgn_mul_right e hx]
    rw [h1, ← sgn_mul_left e (Nat.mod_lt _ (by omega)), ih, sgn_mul_left e (Nat.mod_lt _ (by omega)), Nat.mod_mul_mod, ← Nat.pow_succ]
theorem sgn_low {M M2 x : Nat} (h : x ≤ M) : sgn M M2 x = x := by unfold sgn; rw [if_neg (by omega)]
theorem sgn_half {M M2 a : Nat} (hp : IsP M2) (e : M2 = 2 * M + 1) (hM : 1 ≤ M) (h0 : a ≠ 0) (h9 : a < M2) : sgn M M2 (a ^ M % M2) = 1 := by
  have hn : ¬ M2 ∣ a := hp.not_dvd_lt (by omega) h9
  rcases half_power hp e hn with g | g
  · rw [g]; exact sgn_low hM
  · rw [g, sgn_neg e (by omega) (by omega)]; exact sgn_low hM
theorem sgn_exp {M M2 a : Nat} (hp : IsP M2) (e : M2 = 2 * M + 1) (hM : 1 ≤ M) (h0 : a ≠ 0) (h9 : a < M2) (k : Nat) : sgn M M2 (a ^ k % M2) = sgn M M2 (a ^ (k % M) % M2) := by
  have h1 : a ^ k = (a ^ M) ^ (k / M) * a ^ (k % M) := by rw [← Nat.pow_mul, ← Nat.pow_add, Nat.div_add_mod]
  have hs := sgn_half hp e hM h0 h9
  have h2 : sgn M M2 ((a ^ M) ^ (k / M) % M2) = 1 := by
    rw [Nat.pow_mod, ← sgn_pow e hM (Nat.mod_lt _ (by omega)), hs, Nat.one_pow, Nat.mod_eq_of_lt (by omega)]
    exact sgn_low hM
  rw [h1, Nat.mul_mod, ← sgn_mul e (Nat.mod_lt _ (by omega)) (Nat.mod_lt _ (by omega)), h2, Nat.one_mul]
  have h3 := sgn_le (M := M) e (Nat.mod_lt (a ^ (k % M)) (show M2 > 0 by omega))
  rw [Nat.mod_eq_of_lt (by omega)]
  exact sgn_low h3
theorem sgn_pos {M M2 c : Nat} (e : M2 = 2 * M + 1) (h0 : c ≠ 0) (h : c < M2) : sgn M M2 c ≠ 0 := by unfold sgn; split <;> omega
theorem prod_pos {p a b : Nat} (hp : IsP p) (ha : ¬ p ∣ a) (hb : ¬ p ∣ b) : a * b % p ≠ 0 := fun h => by
  rcases hp.euclid (Nat.dvd_of_mod_eq_zero h) with g | g
  · exact ha g
  · exact hb g
end Go.Proofs.Ytghkjjhnokjjiaa
