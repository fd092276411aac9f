/- Made claims, one of them: another image is put in; and the plain part of what a false claim is answered at. -/
import Derived.Test.YtfbceknafmkipaaGreatCi
set_option linter.unusedSimpArgs false
set_option linter.unusedVariables false
set_option maxRecDepth 100000
namespace Go.Proofs.YtfbceknafmkipaaGreat
open Go.RowKit Go.Deep Go.PlainAid

theorem E_expA {M M2 a k : Nat} (hp : IsP M2) (hq : IsP M) (e : M2 = 2 * M + 1) (ha : ¬ M2 ∣ a) : E M M2 (a ^ k) = E M M2 (a ^ (k % M)) := by
  have m1 := hq.1
  have h1 : ∀ t, E M M2 (a ^ t) = E M M2 ((a % M2) ^ t) := fun t => E_mod (by rw [Nat.pow_mod])
  rw [h1, h1 (k % M)]
  exact sgn_exp hp e (by omega) (fun h => ha (Nat.dvd_of_mod_eq_zero h)) (Nat.mod_lt _ (by omega)) k
theorem E_sameA {M M2 a k l : Nat} (hp : IsP M2) (hq : IsP M) (e : M2 = 2 * M + 1) (ha : ¬ M2 ∣ a) (h : k % M = l % M) : E M M2 (a ^ k) = E M M2 (a ^ l) := by rw [E_expA hp hq e ha, h, ← E_expA hp hq e ha]
theorem E_powE {M M2 x n : Nat} (hq : IsP M) (e : M2 = 2 * M + 1) : sgn M M2 (E M M2 x ^ n % M2) = E M M2 (x ^ n) := by
  have m1 := hq.1
  unfold E
  rw [sgn_pow e (by omega) (Nat.mod_lt _ (by omega)), ← Nat.pow_mod]
theorem E_one {M M2 : Nat} (hq : IsP M) (e : M2 = 2 * M + 1) : E M M2 1 = 1 := by
  have m1 := hq.1
  unfold E
  rw [Nat.mod_eq_of_lt (by omega)]
  exact sgn_low (by omega)
/-- Powers of an element that is not 1 are alike only where the numbers are, but for the order. -/
theorem E_injA {M M2 a f n : Nat} (hp : IsP M2) (hq : IsP M) (e : M2 = 2 * M + 1) (ha : ¬ M2 ∣ a) (h1 : E M M2 a ≠ 1) (hfn : f ≤ n) (h : E M M2 (a ^ f) = E M M2 (a ^ n)) : f % M = n % M := by
  have m1 := hq.1
  obtain ⟨d, rfl⟩ : ∃ d, n = f + d := ⟨n - f, by omega⟩
  have nf := hp.not_dvd_pow ha f
  have q : E M M2 1 = E M M2 (a ^ d) := E_cancel hp e nf (by rw [Nat.one_mul, Nat.mul_comm, ← Nat.pow_add]; exact h)
  rw [E_one hq e] at q
  by_cases hd : M ∣ d
  · obtain ⟨t, rfl⟩ := hd
    exact (Nat.add_mul_mod_self_left _ _ _).symm
  · exfalso
    have i := inv_pow hq hd
    have q2 : E M M2 ((a ^ d) ^ (d ^ (M - 2))) = 1 := by
      rw [← E_powE hq e, ← q, Nat.one_pow]
      exact E_one hq e
    rw [← Nat.pow_mul] at q2
    have q3 : E M M2 (a ^ (d * d ^ (M - 2))) = E M M2 (a ^ 1) := E_sameA hp hq e ha (by rw [Nat.mul_comm, i, Nat.mod_eq_of_lt (by omega)])
    rw [q3, Nat.pow_one] at q2
    exact h1 q2
theorem E_injB {M M2 a f n : Nat} (hp : IsP M2) (hq : IsP M) (e : M2 = 2 * M + 1) (ha : ¬ M2 ∣ a) (h1 : E M M2 a ≠ 1) (h : E M M2 (a ^ f) = E M M2 (a ^ n)) : f % M = n % M := by
  rcases Nat.le_total f n with g | g
  · exact E_injA hp hq e ha h1 g h
  · exact (E_injA hp hq e ha h1 g h.symm).symm
theorem E_two {M M2 : Nat} (hq : IsP M) (e : M2 = 2 * M + 1) : E M M2 2 ≠ 1 := by
  have m1 := hq.1
  unfold E
  rw [Nat.mod_eq_of_lt (by omega), sgn_low m1]
  omega
/-- A false claim is answered at one challenge at most. -/
theorem once_plain {M M2 A x y r s c d : Nat} (hp : IsP M2) (hq : IsP M) (e : M2 = 2 * M + 1) (hA : ¬ M2 ∣ A) (h1 : E M M2 A ≠ 1) (hx : x < M) (hy : y < M) (hc : c < M) (hd : d < M) (hxy : x ≠ y) (hcd : c ≠ d)
    (g1 : E M M2 (2 ^ r * (2 ^ x) ^ ((0 + M - c) % M)) = E M M2 (2 ^ s * (2 ^ x) ^ ((0 + M - d) % M))) (g2 : E M M2 (A ^ r * (A ^ y) ^ ((0 + M - c) % M)) = E M M2 (A ^ s * (A ^ y) ^ ((0 + M - d) % M))) : False := by
  have m1 := hq.1
  have l9 : ∀ t, t < M → (0 + M - t) % M = if t = 0 then 0 else M - t := fun t ht => by
    by_cases h0 : t = 0
    · subst h0; simp
    · rw [if_neg h0, Nat.mod_eq_of_lt (by omega)]; omega
  obtain ⟨u, hu⟩ : ∃ u, u = (0 + M - c) % M := ⟨_, rfl⟩
  obtain ⟨v, hv⟩ : ∃ v, v = (0 + M - d) % M := ⟨_, rfl⟩
  have huM : u < M := by rw [hu]; exact Nat.mod_lt _ (by omega)
  have hvM : v < M := by rw [hv]; exact Nat.mod_lt _ (by omega)
  have huv : u ≠ v := by
    rw [hu, hv, l9 c hc, l9 d hd]
    split <;> split <;> omega
  rw [← hu, ← hv, ← Nat.pow_mul, ← Nat.pow_mul, ← Nat.pow_add, ← Nat.pow_add] at g1 g2
  have k1 := E_injB hp hq e (n2 hp hq e) (E_two hq e) g1
  have k2 := E_injB hp hq e hA h1 g2
  have toI : ∀ {a b : Nat}, a % M = b % M → (M : Int) ∣ (a : Int) - (b : Int) := fun {a b} h => by
    have : (a : Int) % (M : Int) = (b : Int) % (M : Int) := by exact_mod_cast h
    exact Int.dvd_of_emod_eq_zero (Int.emod_eq_emod_iff_emod_sub_eq_zero.1 this)
  have d1 := toI k1
  have d2 := toI k2
  have d3 : (M : Int) ∣ ((x : Int) - y) * ((u : Int) - v) := by
    have := Int.dvd_sub d1 d2
    have e3 : (((r + x * u : Nat) : Int) - ((s + x * v : Nat) : Int)) - (((r + y * u : Nat) : Int) - ((s + y * v : Nat) : Int)) = ((x : Int) - y) * ((u : Int) - v) := by
      push_cast
      rw [Int.sub_mul, Int.mul_sub, Int.mul_sub]
      omega
    rw [e3] at this
    exact this
  have d4 : M ∣ ((x : Int) - y).natAbs * ((u : Int) - v).natAbs := by
    rw [← Int.natAbs_mul]
    exact Int.ofNat_dvd_left.1 d3
  rcases hq.euclid d4 with g | g
  · have := Nat.le_of_dvd (by omega) g
    omega
  · have := Nat.le_of_dvd (by omega) g
    omega
/-- The nonce that answers come of. -/
theorem hides_exp {M x r c : Nat} (hq : IsP M) (hc : c < M) : (r + x * ((0 + M - c) % M)) % M = ((r + M - c * x % M) % M) % M := by
  have m1 := hq.1
  have l := Nat.mod_lt (c * x) (show M > 0 by omega)
  have h : x * ((0 + M - c) % M) % M = (M - c * x % M) % M := by
    rw [Nat.zero_add, Nat.mul_mod_mod, Nat.mul_comm, neg_mul (Nat.le_of_lt hc) (by omega)]
  rw [Nat.add_mod, h, Nat.add_mod_mod, Nat.mod_add_mod, Nat.mod_mod]
  congr 1
  omega
theorem hides_plain {M M2 a x r c : Nat} (hp : IsP M2) (hq : IsP M) (e : M2 = 2 * M + 1) (ha : ¬ M2 ∣ a) (hc : c < M) : E M M2 (a ^ r * (a ^ x) ^ ((0 + M - c) % M)) = E M M2 (a ^ ((r + M - c * x % M) % M)) := by
  rw [← Nat.pow_mul, ← Nat.pow_add]
  exact E_sameA hp hq e ha (hides_exp hq hc)
end Go.Proofs.YtfbceknafmkipaaGreat
