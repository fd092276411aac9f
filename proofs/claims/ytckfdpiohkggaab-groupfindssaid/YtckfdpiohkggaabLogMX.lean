/- Logarithms by steps, in numbers. -/
import Derived.Test.YtckfdpiohkggaabFirstX
set_option linter.unusedSimpArgs false
set_option linter.unusedVariables false
namespace Go.Proofs.Ytckfdpiohkggaab

theorem mul_one_mod {p x y : Nat} (h : y % p = 1) : x * y % p = x % p := by rw [Nat.mul_mod, h, Nat.mul_one, Nat.mod_mod]
theorem pow_one_one {p x : Nat} (hp : 2 ≤ p) (h : x % p = 1) (j : Nat) : x ^ j % p = 1 := by rw [Nat.pow_mod, h, Nat.one_pow, Nat.mod_eq_of_lt (by omega)]
theorem sgn_cong {M M2 : Nat} (e : M2 = 2 * M + 1) (x c : Nat) : sgn M M2 (sgn M M2 (x % M2) * c % M2) = sgn M M2 (x * c % M2) := by
  rw [sgn_mul_left e (Nat.mod_lt _ (by omega)), Nat.mod_mul_mod]
theorem steps_one {p iv s : Nat} (hp : 2 ≤ p) (h : iv * 2 ^ s % p = 1) (j : Nat) : iv ^ j * 2 ^ (s * j) % p = 1 := by
  rw [Nat.pow_mul, ← Nat.mul_pow]
  exact pow_one_one hp h j
theorem bs_fwd {M M2 R Ri A s iv n j : Nat} (e : M2 = 2 * M + 1) (hM : 1 ≤ M) (hR : R * Ri % M2 = 1) (hiv : iv * 2 ^ s % M2 = 1) (A9 : A ≤ M) (h : fpw M M2 R n = sgn M M2 (A * iv ^ j * R % M2)) : pw2 M M2 (s * j + n) = A := by
  have q := congrArg (fun t => sgn M M2 (t * (Ri * 2 ^ (s * j)) % M2)) h
  simp only [fpw] at q
  rw [sgn_cong e, sgn_cong e] at q
  have e1 : 2 ^ n * R * (Ri * 2 ^ (s * j)) % M2 = 2 ^ (s * j + n) % M2 := by
    rw [show 2 ^ n * R * (Ri * 2 ^ (s * j)) = 2 ^ (s * j + n) * (R * Ri) by rw [Nat.pow_add]; simp only [Nat.mul_assoc, Nat.mul_left_comm, Nat.mul_comm]]
    exact mul_one_mod hR
  have e2 : A * iv ^ j * R * (Ri * 2 ^ (s * j)) % M2 = A % M2 := by
    rw [show A * iv ^ j * R * (Ri * 2 ^ (s * j)) = A * (iv ^ j * 2 ^ (s * j)) * (R * Ri) by simp only [Nat.mul_assoc, Nat.mul_left_comm, Nat.mul_comm], mul_one_mod hR]
    exact mul_one_mod (steps_one (by omega) hiv j)
  rw [e1, e2, Nat.mod_eq_of_lt (show A < M2 by omega)] at q
  have sA : sgn M M2 A = A := by unfold sgn; rw [if_neg (by omega)]
  rw [sA] at q
  exact q
theorem bs_back {M M2 R A s iv n j : Nat} (e : M2 = 2 * M + 1) (hM : 1 ≤ M) (hiv : iv * 2 ^ s % M2 = 1) (h : pw2 M M2 (s * j + n) = A) : fpw M M2 R n = sgn M M2 (A * iv ^ j * R % M2) := by
  have q := congrArg (fun t => sgn M M2 (t * (iv ^ j * R) % M2)) h
  simp only [pw2] at q
  rw [sgn_cong e] at q
  have e1 : 2 ^ (s * j + n) * (iv ^ j * R) % M2 = 2 ^ n * R % M2 := by
    rw [show 2 ^ (s * j + n) * (iv ^ j * R) = 2 ^ n * R * (iv ^ j * 2 ^ (s * j)) by rw [Nat.pow_add]; simp only [Nat.mul_assoc, Nat.mul_left_comm, Nat.mul_comm]]
    exact mul_one_mod (steps_one (by omega) hiv j)
  rw [e1, ← Nat.mul_assoc] at q
  exact q
theorem inv_step {p s : Nat} (hp : IsP p) (h3 : 3 ≤ p) : (2 ^ s % p) ^ (p - 2) % p * 2 ^ s % p = 1 := by
  have hn : ¬ p ∣ 2 ^ s := hp.not_dvd_pow (hp.not_dvd_lt (by omega) (by omega)) s
  rw [Nat.mod_mul_mod, Nat.mul_mod, ← Nat.pow_mod, ← Nat.mul_mod, ← Nat.pow_succ, show (p - 2).succ = p - 1 by omega]
  exact hp.fermat1 hn
/-- What the program answers. -/
def LogP (M M2 A most : Nat) (r c : Int) : Prop := (∃ n : Nat, n ≤ most ∧ pw2 M M2 n = A ∧ (∀ m, m < n → pw2 M M2 m ≠ A) ∧ r = (n : Int) ∧ c = 0) ∨ ((∀ m, m ≤ most → pw2 M M2 m ≠ A) ∧ r = 0 ∧ c = 9)
/-- Nothing was found up to step j. -/
def NoneTo (M M2 A s j most : Nat) : Prop := ∀ m, m < s * j → m ≤ most → pw2 M M2 m ≠ A
/-- At a step: what the map tells. -/
theorem step_hit {M M2 R Ri A s iv j most i : Nat} {D : DataW Unit} {c : Int} (e : M2 = 2 * M + 1) (hM : 1 ≤ M) (hR : R * Ri % M2 = 1) (hiv : iv * 2 ^ s % M2 = 1) (A9 : A ≤ M) (hD : MapR D (fpw M M2 R) s) (hf : ∀ i, fpw M M2 R i < BB ^ 4) (hK : sgn M M2 (A * iv ^ j * R % M2) < BB ^ 4)
    (hno : NoneTo M M2 A s j most) (hat : D.atKey (keyL (sgn M M2 (A * iv ^ j * R % M2))) (.lit (.int .i64 0)) = .lit (.int .i64 c)) (hh : Maps.has D (keyL (sgn M M2 (A * iv ^ j * R % M2))) = true) :
    ∃ i : Nat, i < s ∧ c = (i : Int) ∧ pw2 M M2 (s * j + i) = A ∧ (∀ m, m < i → pw2 M M2 (s * j + m) ≠ A) := by
  obtain ⟨i0, hi0, e0⟩ := (hD.has _ hK).1 hh
  have hex : ∃ i, i ≤ i0 ∧ fpw M M2 R i = sgn M M2 (A * iv ^ j * R % M2) ∧ ∀ m, m < i → fpw M M2 R m ≠ sgn M M2 (A * iv ^ j * R % M2) := by
    clear hi0
    induction i0 using Nat.strongRecOn with
    | _ i0 ih =>
      by_cases hx : ∃ m, m < i0 ∧ fpw M M2 R m = sgn M M2 (A * iv ^ j * R % M2)
      · obtain ⟨m, hm, em⟩ := hx
        obtain ⟨i, h1, h2, h3⟩ := ih m hm em
        exact ⟨i, by omega, h2, h3⟩
      · exact ⟨i0, Nat.le_refl _, e0, fun m hm em => hx ⟨m, hm, em⟩⟩
  obtain ⟨i, h1, h2, h3⟩ := hex
  refine ⟨i, by omega, ?_, bs_fwd e hM hR hiv A9 h2, fun m hm hp => h3 m hm (bs_back e hM hiv hp)⟩
  have q := hD.at' i (by omega) (fun m hm => by rw [h2]; exact h3 m hm)
  rw [h2, hat] at q
  simpa using q
theorem step_miss {M M2 R Ri A s iv j most : Nat} {D : DataW Unit} (e : M2 = 2 * M + 1) (hM : 1 ≤ M) (hiv : iv * 2 ^ s % M2 = 1) (hD : MapR D (fpw M M2 R) s) (hK : sgn M M2 (A * iv ^ j * R % M2) < BB ^ 4)
    (hno : NoneTo M M2 A s j most) (hh : Maps.has D (keyL (sgn M M2 (A * iv ^ j * R % M2))) = false) : NoneTo M M2 A s (j + 1) most := by
  intro m hm hmm hp
  rcases Nat.lt_or_ge m (s * j) with h | h
  · exact hno m h hmm hp
  · obtain ⟨i, rfl⟩ : ∃ i, m = s * j + i := ⟨m - s * j, by omega⟩
    have hi : i < s := by rw [Nat.mul_add, Nat.mul_one] at hm; omega
    have := (hD.has _ hK).2 ⟨i, hi, bs_back e hM hiv hp⟩
    rw [hh] at this
    cases this
theorem step_far {M M2 A s j most i : Nat} (hno : NoneTo M M2 A s j most) (hi : i < s) (h0 : ∀ m, m < i → pw2 M M2 (s * j + m) ≠ A) (hf : most < s * j + i) : NoneTo M M2 A s (j + 1) most := by
  intro m hm hmm hp
  rcases Nat.lt_or_ge m (s * j) with h | h
  · exact hno m h hmm hp
  · obtain ⟨t, rfl⟩ : ∃ t, m = s * j + t := ⟨m - s * j, by omega⟩
    exact h0 t (by omega) hp
theorem step_found {M M2 A s j most i : Nat} (hno : NoneTo M M2 A s j most) (hA : pw2 M M2 (s * j + i) = A) (h0 : ∀ m, m < i → pw2 M M2 (s * j + m) ≠ A) (hf : s * j + i ≤ most) : LogP M M2 A most ((s * j + i : Nat) : Int) 0 := by
  refine Or.inl ⟨s * j + i, hf, hA, fun m hm hp => ?_, rfl, rfl⟩
  rcases Nat.lt_or_ge m (s * j) with h | h
  · exact hno m h (by omega) hp
  · obtain ⟨t, rfl⟩ : ∃ t, m = s * j + t := ⟨m - s * j, by omega⟩
    exact h0 t (by omega) hp
theorem step_none {M M2 A s j most : Nat} (hno : NoneTo M M2 A s j most) (hf : most < s * j) : LogP M M2 A most 0 9 := Or.inr ⟨fun m hm hp => hno m (by omega) hm hp, rfl, rfl⟩
end Go.Proofs.Ytckfdpiohkggaab
