/- Primes: Fermat, Proth, Pocklington; and the primes of the three kinds. -/
import Derived.WalkKit
set_option linter.unusedSimpArgs false
set_option linter.unusedVariables false
namespace Go.Proofs.YtohpbclofcflaaaGreat

/-- A prime. -/
def IsP (p : Nat) : Prop := 2 ≤ p ∧ ∀ d, d ∣ p → d = 1 ∨ d = p
theorem IsP.euclid {p a b : Nat} (hp : IsP p) (h : p ∣ a * b) : p ∣ a ∨ p ∣ b := by
  rcases hp.2 (Nat.gcd p a) (Nat.gcd_dvd_left p a) with g | g
  · right
    exact Nat.Coprime.dvd_of_dvd_mul_left g h
  · left
    rw [← g]
    exact Nat.gcd_dvd_right p a
theorem IsP.not_dvd_lt {p k : Nat} (hp : IsP p) (h0 : 0 < k) (h : k < p) : ¬ p ∣ k := fun hd => by
  have := Nat.le_of_dvd h0 hd
  omega
theorem IsP.not_dvd_pow {p a : Nat} (hp : IsP p) (h : ¬ p ∣ a) (n : Nat) : ¬ p ∣ a ^ n := by
  induction n with
  | zero => intro hd; have h1 := Nat.le_of_dvd (by simp) hd; have := hp.1; simp at h1; omega
  | succ n ih =>
    intro hd
    rw [Nat.pow_succ] at hd
    rcases hp.euclid hd with g | g
    · exact ih g
    · exact h g
theorem prime_factor (n : Nat) (hn : 2 ≤ n) : ∃ r, IsP r ∧ r ∣ n := by
  induction n using Nat.strongRecOn with
  | _ n ih =>
    by_cases h : IsP n
    · exact ⟨n, h, Nat.dvd_refl n⟩
    · have : ∃ d, d ∣ n ∧ d ≠ 1 ∧ d ≠ n := by
        refine Classical.byContradiction fun hc => h ⟨hn, fun d hd => ?_⟩
        by_cases h1 : d = 1
        · exact Or.inl h1
        · right
          refine Classical.byContradiction fun h2 => hc ⟨d, hd, h1, h2⟩
      obtain ⟨d, hd, h1, h2⟩ := this
      have hle := Nat.le_of_dvd (by omega) hd
      have h0 : d ≠ 0 := fun e => by rw [e] at hd; have := Nat.eq_zero_of_zero_dvd hd; omega
      obtain ⟨r, hr, hrd⟩ := ih d (by omega) (by omega)
      exact ⟨r, hr, Nat.dvd_trans hrd hd⟩
theorem prime_of_factors {n B : Nat} (hn : 2 ≤ n) (h : ∀ r, IsP r → r ∣ n → B < r) (hB : n < (B + 1) * (B + 1)) : IsP n := by
  refine ⟨hn, fun d hd => ?_⟩
  obtain ⟨e, he⟩ := hd
  refine Classical.byContradiction fun hc => ?_
  have hd1 : d ≠ 1 := fun q => hc (Or.inl q)
  have hdn : d ≠ n := fun q => hc (Or.inr q)
  have d0 : d ≠ 0 := fun q => by rw [q, Nat.zero_mul] at he; omega
  have e0 : e ≠ 0 := fun q => by rw [q, Nat.mul_zero] at he; omega
  have e1 : e ≠ 1 := fun q => by rw [q, Nat.mul_one] at he; exact hdn he.symm
  obtain ⟨r1, p1, k1⟩ := prime_factor d (by omega)
  obtain ⟨r2, p2, k2⟩ := prime_factor e (by omega)
  have b1 := h r1 p1 (Nat.dvd_trans k1 ⟨e, he⟩)
  have b2 := h r2 p2 (Nat.dvd_trans k2 ⟨d, by rw [he, Nat.mul_comm]⟩)
  have l1 := Nat.le_of_dvd (by omega) k1
  have l2 := Nat.le_of_dvd (by omega) k2
  have : (B + 1) * (B + 1) ≤ d * e := Nat.mul_le_mul (by omega) (by omega)
  omega
/-! Fermat. -/
def chooseN : Nat → Nat → Nat
  | _, 0 => 1
  | 0, _ + 1 => 0
  | n + 1, k + 1 => chooseN n k + chooseN n (k + 1)
theorem choose_gt (n k : Nat) (h : n < k) : chooseN n k = 0 := by
  induction n generalizing k with
  | zero => cases k with
    | zero => omega
    | succ k => rfl
  | succ n ih => cases k with
    | zero => omega
    | succ k => rw [chooseN, ih k (by omega), ih (k + 1) (by omega)]
theorem choose_self (n : Nat) : chooseN n n = 1 := by
  induction n with
  | zero => rfl
  | succ n ih => rw [chooseN, ih, choose_gt n (n + 1) (by omega)]
theorem choose_absorb (n k : Nat) : (k + 1) * chooseN (n + 1) (k + 1) = (n + 1) * chooseN n k := by
  induction n generalizing k with
  | zero =>
    cases k with
    | zero => rfl
    | succ k => rw [choose_gt (0 + 1) (k + 1 + 1) (by omega), choose_gt 0 (k + 1) (by omega)]; simp
  | succ n ih =>
    cases k with
    | zero =>
      have h := ih 0
      have e : chooseN (n + 1 + 1) (0 + 1) = chooseN (n + 1) 0 + chooseN (n + 1) (0 + 1) := rfl
      have e1 : ∀ m, chooseN m 0 = 1 := fun m => by cases m <;> rfl
      rw [e, e1]
      rw [e1] at h
      omega
    | succ k =>
      have h1 := ih k
      have h2 := ih (k + 1)
      have e : chooseN (n + 1 + 1) (k + 1 + 1) = chooseN (n + 1) (k + 1) + chooseN (n + 1) (k + 1 + 1) := rfl
      have e2 : chooseN (n + 1) (k + 1) = chooseN n k + chooseN n (k + 1) := rfl
      rw [e, Nat.mul_add, h2]
      have h3 : (k + 1 + 1) * chooseN (n + 1) (k + 1) = (n + 1) * chooseN n k + chooseN (n + 1) (k + 1) := by rw [Nat.add_mul (k + 1) 1, h1, Nat.one_mul]
      rw [h3, Nat.add_mul (n + 1) 1, Nat.one_mul, e2, Nat.mul_add]
      omega
def sumTo (g : Nat → Nat) : Nat → Nat
  | 0 => 0
  | n + 1 => sumTo g n + g n
theorem sumTo_shift (g : Nat → Nat) (n : Nat) : sumTo g (n + 1) = g 0 + sumTo (fun k => g (k + 1)) n := by
  induction n with
  | zero => simp [sumTo]
  | succ n ih => rw [sumTo, ih, sumTo]; omega
theorem sumTo_add (f g : Nat → Nat) (n : Nat) : sumTo (fun k => f k + g k) n = sumTo f n + sumTo g n := by
  induction n with
  | zero => rfl
  | succ n ih => rw [sumTo, sumTo, sumTo, ih]; omega
theorem sumTo_mul (c : Nat) (g : Nat → Nat) (n : Nat) : sumTo (fun k => c * g k) n = c * sumTo g n := by
  induction n with
  | zero => rfl
  | succ n ih => rw [sumTo, sumTo, ih, Nat.mul_add]
theorem sumTo_congr (f g : Nat → Nat) (n : Nat) (h : ∀ k, f k = g k) : sumTo f n = sumTo g n := by
  rw [show f = g from funext h]
theorem sumTo_dvd (p : Nat) (g : Nat → Nat) (n : Nat) (h : ∀ k, k < n → p ∣ g k) : p ∣ sumTo g n := by
  induction n with
  | zero => exact ⟨0, rfl⟩
  | succ n ih => exact Nat.dvd_add (ih fun k hk => h k (by omega)) (h n (by omega))
theorem binomial (a n : Nat) : (a + 1) ^ n = sumTo (fun k => chooseN n k * a ^ k) (n + 1) := by
  induction n with
  | zero => simp [sumTo, chooseN]
  | succ n ih =>
    have e0 : ∀ m, chooseN m 0 = 1 := fun m => by cases m <;> rfl
    have s1 : sumTo (fun k => chooseN (n + 1) k * a ^ k) (n + 1 + 1) = 1 + sumTo (fun k => chooseN (n + 1) (k + 1) * a ^ (k + 1)) (n + 1) := by
      rw [sumTo_shift, e0]; simp
    have s2 : sumTo (fun k => chooseN (n + 1) (k + 1) * a ^ (k + 1)) (n + 1) = a * sumTo (fun k => chooseN n k * a ^ k) (n + 1) + sumTo (fun k => chooseN n (k + 1) * a ^ (k + 1)) (n + 1) := by
      rw [← sumTo_mul, ← sumTo_add]
      refine sumTo_congr _ _ _ fun k => ?_
      have e : chooseN (n + 1) (k + 1) = chooseN n k + chooseN n (k + 1) := rfl
      rw [e, Nat.add_mul, Nat.pow_succ, ← Nat.mul_assoc, Nat.mul_comm (chooseN n k * a ^ k) a]
    have s3 : sumTo (fun k => chooseN n k * a ^ k) (n + 1 + 1) = 1 + sumTo (fun k => chooseN n (k + 1) * a ^ (k + 1)) (n + 1) := by
      rw [sumTo_shift, e0]; simp
    have s4 : sumTo (fun k => chooseN n k * a ^ k) (n + 1 + 1) = sumTo (fun k => chooseN n k * a ^ k) (n + 1) := by
      rw [sumTo, choose_gt n (n + 1) (by omega)]; simp
    rw [s1, s2, Nat.pow_succ, ih, Nat.mul_add, Nat.mul_one, Nat.mul_comm]
    omega
theorem fermat_add {p : Nat} (hp : IsP p) (a : Nat) : (a + 1) ^ p % p = (a ^ p + 1) % p := by
  obtain ⟨m, hm⟩ : ∃ m, p = m + 1 := ⟨p - 1, by have := hp.1; omega⟩
  have e0 : chooseN p 0 = 1 := by rw [hm]; rfl
  have h1 : sumTo (fun k => chooseN p k * a ^ k) (p + 1) = sumTo (fun k => chooseN p k * a ^ k) p + a ^ p := by rw [sumTo, choose_self, Nat.one_mul]
  have h2 : sumTo (fun k => chooseN p k * a ^ k) p = 1 + sumTo (fun k => chooseN p (k + 1) * a ^ (k + 1)) m := by
    have : sumTo (fun k => chooseN p k * a ^ k) (m + 1) = chooseN p 0 * a ^ 0 + sumTo (fun k => chooseN p (k + 1) * a ^ (k + 1)) m := sumTo_shift _ m
    rw [e0] at this
    rw [← hm] at this
    rw [this]; simp
  have h3 : p ∣ sumTo (fun k => chooseN p (k + 1) * a ^ (k + 1)) m := by
    refine sumTo_dvd p _ m fun k hk => ?_
    have hd : p ∣ (k + 1) * chooseN p (k + 1) := by
      have := choose_absorb m k
      rw [← hm] at this
      exact ⟨chooseN m k, this⟩
    rcases hp.euclid hd with g | g
    · exact absurd g (hp.not_dvd_lt (by omega) (by omega))
    · exact Nat.dvd_trans g ⟨_, rfl⟩
  obtain ⟨t, ht⟩ := h3
  rw [binomial, h1, h2, ht, show 1 + p * t + a ^ p = a ^ p + 1 + p * t by omega, Nat.add_mul_mod_self_left]
theorem fermat {p : Nat} (hp : IsP p) (a : Nat) : a ^ p % p = a % p := by
  induction a with
  | zero => rw [Nat.zero_pow (by have := hp.1; omega)]
  | succ a ih => rw [fermat_add hp, Nat.add_mod, ih, ← Nat.add_mod]
theorem mod_one_of_dvd {p x : Nat} (hp : 2 ≤ p) (hx : 1 ≤ x) (h : p ∣ x - 1) : x % p = 1 := by
  obtain ⟨t, ht⟩ := h
  rw [show x = 1 + p * t by omega, Nat.add_mul_mod_self_left, Nat.mod_eq_of_lt (by omega)]
theorem dvd_of_mod_one {p x : Nat} (hp : 2 ≤ p) (h : x % p = 1) : p ∣ x - 1 := ⟨x / p, by have := Nat.div_add_mod x p; omega⟩
theorem IsP.fermat1 {p a : Nat} (hp : IsP p) (h : ¬ p ∣ a) : a ^ (p - 1) % p = 1 := by
  have h2 := hp.1
  have ha : 1 ≤ a := by
    rcases Nat.eq_zero_or_pos a with e | e
    · rw [e] at h; exact absurd ⟨0, rfl⟩ h
    · exact e
  have e1 : a ^ p = a * a ^ (p - 1) := by rw [Nat.mul_comm, ← Nat.pow_succ]; congr 1; omega
  have hx : 1 ≤ a ^ (p - 1) := Nat.pow_pos ha
  have hd : p ∣ a * (a ^ (p - 1) - 1) := by
    have := Nat.sub_mod_eq_zero_of_mod_eq (fermat hp a)
    rw [Nat.mul_sub, Nat.mul_one, ← e1]
    exact Nat.dvd_of_mod_eq_zero this
  rcases hp.euclid hd with g | g
  · exact absurd g h
  · exact mod_one_of_dvd h2 hx g
/-! Orders. -/
theorem pow_one_mod {r a m : Nat} (hr : 2 ≤ r) (h : a ^ m % r = 1) (t : Nat) : a ^ (m * t) % r = 1 := by
  rw [Nat.pow_mul, Nat.pow_mod, h, Nat.one_pow, Nat.mod_eq_of_lt (by omega)]
theorem pow_rem {r a m n : Nat} (hr : 2 ≤ r) (hm : a ^ m % r = 1) (hn : a ^ n % r = 1) : a ^ (n % m) % r = 1 := by
  have e : a ^ n = a ^ (m * (n / m)) * a ^ (n % m) := by rw [← Nat.pow_add, Nat.div_add_mod]
  rw [e, Nat.mul_mod, pow_one_mod hr hm, Nat.one_mul, Nat.mod_mod] at hn
  exact hn
theorem pow_gcd {r a : Nat} (hr : 2 ≤ r) (m n : Nat) (hm : a ^ m % r = 1) (hn : a ^ n % r = 1) : a ^ (Nat.gcd m n) % r = 1 := by
  induction m, n using Nat.gcd.induction with
  | H0 n => rw [Nat.gcd_zero_left]; exact hn
  | H1 m n h ih => rw [Nat.gcd_rec]; exact ih (pow_rem hr hm hn) hm
theorem proth {n h k a : Nat} (hn : n = h * 2 ^ (k + 1) + 1) (hlt : h < 2 ^ (k + 1)) (h0 : 0 < h) (hw : a ^ (h * 2 ^ k) % n = n - 1) : IsP n := by
  have hk : 2 ^ (k + 1) = 2 * 2 ^ k := by rw [Nat.pow_succ, Nat.mul_comm]
  have hp2 : 0 < 2 ^ k := Nat.pow_pos (by omega)
  have hh : 1 ≤ h * 2 ^ k := Nat.mul_pos h0 hp2
  have en : n = 2 * (h * 2 ^ k) + 1 := by rw [hn, hk]; rw [Nat.mul_left_comm]
  have hn2 : 2 ≤ n := by omega
  obtain ⟨x, hx⟩ : ∃ x, x = a ^ (h * 2 ^ k) := ⟨_, rfl⟩
  rw [← hx] at hw
  have hdn : n ∣ x + 1 := by
    refine ⟨x / n + 1, ?_⟩
    have := Nat.div_add_mod x n
    rw [Nat.mul_add, Nat.mul_one]
    omega
  refine prime_of_factors (B := 2 ^ (k + 1)) hn2 ?_ ?_
  · intro r hr hrn
    have r2 := hr.1
    have hrx : r ∣ x + 1 := Nat.dvd_trans hrn hdn
    have hra : ¬ r ∣ a := fun hd => by
      have h1 : r ∣ x := by
        rw [hx]
        obtain ⟨m, hm⟩ : ∃ m, h * 2 ^ k = m + 1 := ⟨h * 2 ^ k - 1, by omega⟩
        rw [hm, Nat.pow_succ]
        exact Nat.dvd_trans hd ⟨_, Nat.mul_comm _ _⟩
      have := (Nat.dvd_add_right h1).1 hrx
      have := Nat.le_of_dvd (by omega) this
      omega
    have hx1 : 1 ≤ x := by
      rcases Nat.eq_zero_or_pos x with e | e
      · rw [e, Nat.zero_mod] at hw; omega
      · exact e
    have hq : a ^ (2 * (h * 2 ^ k)) % r = 1 := by
      have e : a ^ (2 * (h * 2 ^ k)) = x * x := by rw [hx, ← Nat.pow_add]; congr 1; omega
      rw [e]
      refine mod_one_of_dvd r2 (Nat.mul_pos hx1 hx1) ?_
      obtain ⟨t, ht⟩ := hrx
      refine ⟨t * (x - 1), ?_⟩
      rw [← Nat.mul_assoc, ← ht]
      obtain ⟨y, rfl⟩ : ∃ y, x = y + 1 := ⟨x - 1, by omega⟩
      simp only [Nat.add_sub_cancel, Nat.add_mul, Nat.mul_add, Nat.mul_one, Nat.one_mul]
      omega
    have hf := hr.fermat1 hra
    have hg := pow_gcd r2 _ _ hq hf
    have hd1 := Nat.gcd_dvd_left (2 * (h * 2 ^ k)) (r - 1)
    have hd2 := Nat.gcd_dvd_right (2 * (h * 2 ^ k)) (r - 1)
    generalize Nat.gcd (2 * (h * 2 ^ k)) (r - 1) = d at *
    by_cases hdk : 2 ^ (k + 1) ∣ d
    · have := Nat.le_of_dvd (by omega) (Nat.dvd_trans hdk hd2)
      omega
    · exfalso
      obtain ⟨t, ht⟩ := hd1
      have hte : t % 2 = 0 := by
        refine Classical.byContradiction fun ho => hdk ?_
        have hc : Nat.Coprime (2 ^ (k + 1)) t := Nat.Coprime.pow_left _ (by
          have : Nat.gcd 2 t ∣ 2 := Nat.gcd_dvd_left 2 t
          have hle := Nat.le_of_dvd (by omega) this
          have h2 : Nat.gcd 2 t ∣ t := Nat.gcd_dvd_right 2 t
          show Nat.gcd 2 t = 1
          have hpos : 0 < Nat.gcd 2 t := Nat.gcd_pos_of_pos_left t (by omega)
          rcases Nat.lt_or_ge (Nat.gcd 2 t) 2 with hl | hl
          · omega
          · have e2 : Nat.gcd 2 t = 2 := by omega
            rw [e2] at h2
            have := Nat.mod_eq_zero_of_dvd h2
            omega)
        refine Nat.Coprime.dvd_of_dvd_mul_right hc ?_
        rw [← ht, hk]
        exact ⟨h, by rw [Nat.mul_assoc, Nat.mul_comm h]⟩
      obtain ⟨s, hs⟩ : ∃ s, t = 2 * s := ⟨t / 2, by omega⟩
      have e : h * 2 ^ k = d * s := by
        rw [hs] at ht
        have e' : d * (2 * s) = 2 * (d * s) := Nat.mul_left_comm _ _ _
        rw [e'] at ht
        omega
      have hx2 : x % r = 1 := by rw [hx, e]; exact pow_one_mod r2 hg s
      have h2 : r ∣ 2 := by
        have h3 := dvd_of_mod_one r2 hx2
        have h4 := (Nat.dvd_add_right h3).1 (show r ∣ (x - 1) + 2 by rw [show x - 1 + 2 = x + 1 by omega]; exact hrx)
        exact h4
      have hle := Nat.le_of_dvd (by omega) h2
      have er : r = 2 := by omega
      rw [er] at hrn
      have := Nat.mod_eq_zero_of_dvd hrn
      omega
  · have h5 : h * 2 ^ (k + 1) ≤ 2 ^ (k + 1) * 2 ^ (k + 1) := Nat.mul_le_mul_right _ (by omega)
    rw [hn]
    simp only [Nat.add_mul, Nat.mul_add, Nat.mul_one, Nat.one_mul]
    omega
theorem pocklington {p q : Nat} (hq : IsP q) (hp : p = 2 * q + 1) (h1 : 2 ^ (2 * q) % p = 1) (h3 : p % 3 ≠ 0) : IsP p := by
  have q2 := hq.1
  refine prime_of_factors (B := q) (by omega) ?_ ?_
  · intro r hr hrn
    have r2 := hr.1
    obtain ⟨c, hc⟩ := hrn
    have hm : 2 ^ (2 * q) % r = 1 := by
      have := dvd_of_mod_one (by omega) h1
      refine mod_one_of_dvd r2 (Nat.pow_pos (by omega)) (Nat.dvd_trans ⟨c, hc⟩ this)
    have hra : ¬ r ∣ 2 := fun hd => by
      have hle := Nat.le_of_dvd (by omega) hd
      have er : r = 2 := by omega
      rw [er] at hc
      omega
    have hf := hr.fermat1 hra
    have hg := pow_gcd r2 _ _ hm hf
    have hd1 := Nat.gcd_dvd_left (2 * q) (r - 1)
    have hd2 := Nat.gcd_dvd_right (2 * q) (r - 1)
    generalize Nat.gcd (2 * q) (r - 1) = d at *
    by_cases hqd : q ∣ d
    · have := Nat.le_of_dvd (by omega) (Nat.dvd_trans hqd hd2)
      omega
    · exfalso
      have hcp : Nat.Coprime d q := by
        rcases hq.2 (Nat.gcd d q) (Nat.gcd_dvd_right d q) with g | g
        · exact g
        · exact absurd (by rw [← g]; exact Nat.gcd_dvd_left d q) hqd
      have hd : d ∣ 2 := Nat.Coprime.dvd_of_dvd_mul_right hcp hd1
      obtain ⟨s, hs⟩ := hd
      have h4 : 2 ^ 2 % r = 1 := by
        have q := pow_one_mod r2 hg s
        rw [← hs] at q
        exact q
      have h5 := dvd_of_mod_one r2 h4
      have h6 : r ∣ 3 := h5
      have hle := Nat.le_of_dvd (by omega) h6
      have er : r = 3 := by
        rcases Nat.lt_or_ge r 3 with hl | hl
        · have e2 : r = 2 := by omega
          rw [e2] at h6
          have := Nat.mod_eq_zero_of_dvd h6
          omega
        · omega
      rw [er] at hc
      rw [hc, Nat.mul_mod_right] at h3
      exact h3 rfl
  · simp only [Nat.add_mul, Nat.mul_add, Nat.mul_one, Nat.one_mul]
    have : 2 * q ≤ q * q := Nat.mul_le_mul_right q q2
    omega
/-! Powers, reckoned. -/
def pm (m : Nat) : Nat → Nat → Nat → Nat
  | 0, _, _ => 1 % m
  | f + 1, a, n => bif n % 2 == 1 then a * pm m f (a * a % m) (n / 2) % m else pm m f (a * a % m) (n / 2)
theorem pm_eq (m f a n : Nat) (h : n < 2 ^ f) : pm m f a n = a ^ n % m := by
  induction f generalizing a n with
  | zero =>
    have : n = 0 := by rw [Nat.pow_zero] at h; omega
    rw [this, pm, Nat.pow_zero]
  | succ f ih =>
    have hn : n / 2 < 2 ^ f := by rw [Nat.pow_succ] at h; omega
    rw [pm, ih _ _ hn]
    have e : a ^ n = (a * a) ^ (n / 2) * a ^ (n % 2) := by
      rw [← Nat.pow_two, ← Nat.pow_mul, ← Nat.pow_add, Nat.div_add_mod]
    have e2 : (a * a % m) ^ (n / 2) % m = (a * a) ^ (n / 2) % m := (Nat.pow_mod _ _ _).symm
    by_cases h1 : n % 2 = 1
    · rw [show (n % 2 == 1) = true by simp [h1], cond_true, e, h1, Nat.pow_one, e2, Nat.mul_mod_mod, Nat.mul_comm]
    · have h0 : n % 2 = 0 := by omega
      rw [show (n % 2 == 1) = false by simp [h0], cond_false, e, h0, Nat.pow_zero, Nat.mul_one, e2]
theorem proth_pm {n h k a f : Nat} (hn : n = h * 2 ^ (k + 1) + 1) (hlt : h < 2 ^ (k + 1)) (h0 : 0 < h) (hf : h * 2 ^ k < 2 ^ f) (hw : pm n f a (h * 2 ^ k) = n - 1) : IsP n :=
  proth hn hlt h0 (by rw [← pm_eq n f a _ hf]; exact hw)
theorem pock_pm {p q f : Nat} (hq : IsP q) (hp : p = 2 * q + 1) (hf : 2 * q < 2 ^ f) (h1 : pm p f 2 (2 * q) = 1) (h3 : p % 3 ≠ 0) : IsP p :=
  pocklington hq hp (by rw [← pm_eq p f 2 _ hf]; exact h1) h3
/-- Of a number that a safe prime does not divide: its power by the half of what is below the prime is 1, or 1 below the prime. -/
theorem half_power {p q a : Nat} (hp : IsP p) (e : p = 2 * q + 1) (h : ¬ p ∣ a) : a ^ q % p = 1 ∨ a ^ q % p = p - 1 := by
  have p2 := hp.1
  obtain ⟨x, hx⟩ : ∃ x, x = a ^ q := ⟨_, rfl⟩
  have hf := hp.fermat1 h
  have e2 : a ^ (p - 1) = x * x := by rw [hx, ← Nat.pow_add]; congr 1; omega
  rw [e2] at hf
  have hx1 : 1 ≤ x := by
    rcases Nat.eq_zero_or_pos x with e0 | e0
    · rw [e0, Nat.zero_mul, Nat.zero_mod] at hf; omega
    · exact e0
  have hd : p ∣ (x - 1) * (x + 1) := by
    have := dvd_of_mod_one p2 hf
    have e3 : x * x - 1 = (x - 1) * (x + 1) := by
      obtain ⟨y, rfl⟩ : ∃ y, x = y + 1 := ⟨x - 1, by omega⟩
      simp only [Nat.add_sub_cancel, Nat.add_mul, Nat.mul_add, Nat.mul_one, Nat.one_mul]
      omega
    rw [← e3]; exact this
  rw [← hx]
  rcases hp.euclid hd with g | g
  · exact Or.inl (mod_one_of_dvd p2 hx1 g)
  · right
    obtain ⟨t, ht⟩ := g
    have t0 : 0 < t := by
      rcases Nat.eq_zero_or_pos t with e0 | e0
      · rw [e0, Nat.mul_zero] at ht; omega
      · exact e0
    obtain ⟨u, rfl⟩ : ∃ u, t = u + 1 := ⟨t - 1, by omega⟩
    rw [Nat.mul_add, Nat.mul_one] at ht
    rw [show x = (p - 1) + p * u by omega, Nat.add_mul_mod_self_left, Nat.mod_eq_of_lt (by omega)]
theorem prime_q1 : IsP 641 := proth_pm (h := 5) (k := 6) (a := 3) (f := 11) (by decide +kernel) (by decide +kernel) (by decide +kernel) (by decide +kernel) (by decide +kernel)
theorem prime_p1 : IsP 1283 := pock_pm prime_q1 (f := 12) (by decide +kernel) (by decide +kernel) (by decide +kernel) (by decide +kernel)
theorem prime_q2 : IsP 576465431670292481 := proth_pm (h := 268437635) (k := 30) (a := 3) (f := 61) (by decide +kernel) (by decide +kernel) (by decide +kernel) (by decide +kernel) (by decide +kernel)
theorem prime_p2 : IsP 1152930863340584963 := pock_pm prime_q2 (f := 62) (by decide +kernel) (by decide +kernel) (by decide +kernel) (by decide +kernel)
theorem prime_q3 : IsP 7237005577332262213973186563042995786902308146886443998308627866733439352833 := proth_pm (h := 42535295865117307932921825928971035519) (k := 126) (a := 3) (f := 254) (by decide +kernel) (by decide +kernel) (by decide +kernel) (by decide +kernel) (by decide +kernel)
theorem prime_p3 : IsP 14474011154664524427946373126085991573804616293772887996617255733466878705667 := pock_pm prime_q3 (f := 255) (by decide +kernel) (by decide +kernel) (by decide +kernel) (by decide +kernel)
end Go.Proofs.YtohpbclofcflaaaGreat
