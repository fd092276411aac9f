/- Primes: Fermat, Proth, Pocklington; and the primes of the three kinds. Elements, of every kind. Products of powers: lists, and what is wrong with them. The product of the powers of what two lists hold. -/
import Derived.WalkKit
import Derived.Test.YtmpiipcllgjhdaaGreatDoorY11
import Derived.Test.YtmpiipcllgjhdaaGreatDoorY12
import Derived.Deep.CutBlock
import Derived.Deep.DeepCutAuto
set_option linter.unusedSimpArgs false
set_option linter.unusedVariables false
namespace Go.Proofs.YtmpiipcllgjhdaaGreatDoor

/-- A prime. -/
def IsP (p : Nat) : Prop := 2 ≤ p ∧ ∀ d, d ∣ p → d = 1 ∨ d = p
theorem IsP.euclid {p a b : Nat} (hp : IsP p) (h : p ∣ a * b) : p ∣ a ∨ p ∣ b := by
  rcases hp.2 (Nat.gcd p a) (Nat.gcd_dvd_left p a) with g | g
  · right
    exact Nat.Coprime.dvd_of_dvd_mul_left g h
  · left
    rw [← g]
    exact Nat.gcd_dvd_right p a
theorem IsP.not_dvd_lt {p k : Nat} (hp : IsP p) (h0 : 0 < k) (h : k < p) : ¬ p ∣ k := fun hd => by
  have := Nat.le_of_dvd h0 hd
  omega
theorem prime_factor (n : Nat) (hn : 2 ≤ n) : ∃ r, IsP r ∧ r ∣ n := by
  induction n using Nat.strongRecOn with
  | _ n ih =>
    by_cases h : IsP n
    · exact ⟨n, h, Nat.dvd_refl n⟩
    · have : ∃ d, d ∣ n ∧ d ≠ 1 ∧ d ≠ n := by
        refine Classical.byContradiction fun hc => h ⟨hn, fun d hd => ?_⟩
        by_cases h1 : d = 1
        · exact Or.inl h1
        · right
          refine Classical.byContradiction fun h2 => hc ⟨d, hd, h1, h2⟩
      obtain ⟨d, hd, h1, h2⟩ := this
      have hle := Nat.le_of_dvd (by omega) hd
      have h0 : d ≠ 0 := fun e => by rw [e] at hd; have := Nat.eq_zero_of_zero_dvd hd; omega
      obtain ⟨r, hr, hrd⟩ := ih d (by omega) (by omega)
      exact ⟨r, hr, Nat.dvd_trans hrd hd⟩
theorem prime_of_factors {n B : Nat} (hn : 2 ≤ n) (h : ∀ r, IsP r → r ∣ n → B < r) (hB : n < (B + 1) * (B + 1)) : IsP n := by
  refine ⟨hn, fun d hd => ?_⟩
  obtain ⟨e, he⟩ := hd
  refine Classical.byContradiction fun hc => ?_
  have hd1 : d ≠ 1 := fun q => hc (Or.inl q)
  have hdn : d ≠ n := fun q => hc (Or.inr q)
  have d0 : d ≠ 0 := fun q => by rw [q, Nat.zero_mul] at he; omega
  have e0 : e ≠ 0 := fun q => by rw [q, Nat.mul_zero] at he; omega
  have e1 : e ≠ 1 := fun q => by rw [q, Nat.mul_one] at he; exact hdn he.symm
  obtain ⟨r1, p1, k1⟩ := prime_factor d (by omega)
  obtain ⟨r2, p2, k2⟩ := prime_factor e (by omega)
  have b1 := h r1 p1 (Nat.dvd_trans k1 ⟨e, he⟩)
  have b2 := h r2 p2 (Nat.dvd_trans k2 ⟨d, by rw [he, Nat.mul_comm]⟩)
  have l1 := Nat.le_of_dvd (by omega) k1
  have l2 := Nat.le_of_dvd (by omega) k2
  have : (B + 1) * (B + 1) ≤ d * e := Nat.mul_le_mul (by omega) (by omega)
  omega
/-! Fermat. -/
def chooseN : Nat → Nat → Nat
  | _, 0 => 1
  | 0, _ + 1 => 0
  | n + 1, k + 1 => chooseN n k + chooseN n (k + 1)
theorem choose_gt (n k : Nat) (h : n < k) : chooseN n k = 0 := by
  induction n generalizing k with
  | zero => cases k with
    | zero => omega
    | succ k => rfl
  | succ n ih => cases k with
    | zero => omega
    | succ k => rw [chooseN, ih k (by omega), ih (k + 1) (by omega)]
theorem choose_self (n : Nat) : chooseN n n = 1 := by
  induction n with
  | zero => rfl
  | succ n ih => rw [chooseN, ih, choose_gt n (n + 1) (by omega)]
theorem choose_absorb (n k : Nat) : (k + 1) * chooseN (n + 1) (k + 1) = (n + 1) * chooseN n k := by
  induction n generalizing k with
  | zero =>
    cases k with
    | zero => rfl
    | succ k => rw [choose_gt (0 + 1) (k + 1 + 1) (by omega), choose_gt 0 (k + 1) (by omega)]; simp
  | succ n ih =>
    cases k with
    | zero =>
      have h := ih 0
      have e : chooseN (n + 1 + 1) (0 + 1) = chooseN (n + 1) 0 + chooseN (n + 1) (0 + 1) := rfl
      have e1 : ∀ m, chooseN m 0 = 1 := fun m => by cases m <;> rfl
      rw [e, e1]
      rw [e1] at h
      omega
    | succ k =>
      have h1 := ih k
      have h2 := ih (k + 1)
      have e : chooseN (n + 1 + 1) (k + 1 + 1) = chooseN (n + 1) (k + 1) + chooseN (n + 1) (k + 1 + 1) := rfl
      have e2 : chooseN (n + 1) (k + 1) = chooseN n k + chooseN n (k + 1) := rfl
      rw [e, Nat.mul_add, h2]
      have h3 : (k + 1 + 1) * chooseN (n + 1) (k + 1) = (n + 1) * chooseN n k + chooseN (n + 1) (k + 1) := by rw [Nat.add_mul (k + 1) 1, h1, Nat.one_mul]
      rw [h3, Nat.add_mul (n + 1) 1, Nat.one_mul, e2, Nat.mul_add]
      omega
def sumTo (g : Nat → Nat) : Nat → Nat
  | 0 => 0
  | n + 1 => sumTo g n + g n
theorem sumTo_shift (g : Nat → Nat) (n : Nat) : sumTo g (n + 1) = g 0 + sumTo (fun k => g (k + 1)) n := by
  induction n with
  | zero => simp [sumTo]
  | succ n ih => rw [sumTo, ih, sumTo]; omega
theorem sumTo_add (f g : Nat → Nat) (n : Nat) : sumTo (fun k => f k + g k) n = sumTo f n + sumTo g n := by
  induction n with
  | zero => rfl
  | succ n ih => rw [sumTo, sumTo, sumTo, ih]; omega
theorem sumTo_mul (c : Nat) (g : Nat → Nat) (n : Nat) : sumTo (fun k => c * g k) n = c * sumTo g n := by
  induction n with
  | zero => rfl
  | succ n ih => rw [sumTo, sumTo, ih, Nat.mul_add]
theorem sumTo_congr (f g : Nat → Nat) (n : Nat) (h : ∀ k, f k = g k) : sumTo f n = sumTo g n := by
  rw [show f = g from funext h]
theorem sumTo_dvd (p : Nat) (g : Nat → Nat) (n : Nat) (h : ∀ k, k < n → p ∣ g k) : p ∣ sumTo g n := by
  induction n with
  | zero => exact ⟨0, rfl⟩
  | succ n ih => exact Nat.dvd_add (ih fun k hk => h k (by omega)) (h n (by omega))
theorem binomial (a n : Nat) : (a + 1) ^ n = sumTo (fun k => chooseN n k * a ^ k) (n + 1) := by
  induction n with
  | zero => simp [sumTo, chooseN]
  | succ n ih =>
    have e0 : ∀ m, chooseN m 0 = 1 := fun m => by cases m <;> rfl
    have s1 : sumTo (fun k => chooseN (n + 1) k * a ^ k) (n + 1 + 1) = 1 + sumTo (fun k => chooseN (n + 1) (k + 1) * a ^ (k + 1)) (n + 1) := by
      rw [sumTo_shift, e0]; simp
    have s2 : sumTo (fun k => chooseN (n + 1) (k + 1) * a ^ (k + 1)) (n + 1) = a * sumTo (fun k => chooseN n k * a ^ k) (n + 1) + sumTo (fun k => chooseN n (k + 1) * a ^ (k + 1)) (n + 1) := by
      rw [← sumTo_mul, ← sumTo_add]
      refine sumTo_congr _ _ _ fun k => ?_
      have e : chooseN (n + 1) (k + 1) = chooseN n k + chooseN n (k + 1) := rfl
      rw [e, Nat.add_mul, Nat.pow_succ, ← Nat.mul_assoc, Nat.mul_comm (chooseN n k * a ^ k) a]
    have s3 : sumTo (fun k => chooseN n k * a ^ k) (n + 1 + 1) = 1 + sumTo (fun k => chooseN n (k + 1) * a ^ (k + 1)) (n + 1) := by
      rw [sumTo_shift, e0]; simp
    have s4 : sumTo (fun k => chooseN n k * a ^ k) (n + 1 + 1) = sumTo (fun k => chooseN n k * a ^ k) (n + 1) := by
      rw [sumTo, choose_gt n (n + 1) (by omega)]; simp
    rw [s1, s2, Nat.pow_succ, ih, Nat.mul_add, Nat.mul_one, Nat.mul_comm]
    omega
theorem fermat_add {p : Nat} (hp : IsP p) (a : Nat) : (a + 1) ^ p % p = (a ^ p + 1) % p := by
  obtain ⟨m, hm⟩ : ∃ m, p = m + 1 := ⟨p - 1, by have := hp.1; omega⟩
  have e0 : chooseN p 0 = 1 := by rw [hm]; rfl
  have h1 : sumTo (fun k => chooseN p k * a ^ k) (p + 1) = sumTo (fun k => chooseN p k * a ^ k) p + a ^ p := by rw [sumTo, choose_self, Nat.one_mul]
  have h2 : sumTo (fun k => chooseN p k * a ^ k) p = 1 + sumTo (fun k => chooseN p (k + 1) * a ^ (k + 1)) m := by
    have : sumTo (fun k => chooseN p k * a ^ k) (m + 1) = chooseN p 0 * a ^ 0 + sumTo (fun k => chooseN p (k + 1) * a ^ (k + 1)) m := sumTo_shift _ m
    rw [e0] at this
    rw [← hm] at this
    rw [this]; simp
  have h3 : p ∣ sumTo (fun k => chooseN p (k + 1) * a ^ (k + 1)) m := by
    refine sumTo_dvd p _ m fun k hk => ?_
    have hd : p ∣ (k + 1) * chooseN p (k + 1) := by
      have := choose_absorb m k
      rw [← hm] at this
      exact ⟨chooseN m k, this⟩
    rcases hp.euclid hd with g | g
    · exact absurd g (hp.not_dvd_lt (by omega) (by omega))
    · exact Nat.dvd_trans g ⟨_, rfl⟩
  obtain ⟨t, ht⟩ := h3
  rw [binomial, h1, h2, ht, show 1 + p * t + a ^ p = a ^ p + 1 + p * t by omega, Nat.add_mul_mod_self_left]
theorem fermat {p : Nat} (hp : IsP p) (a : Nat) : a ^ p % p = a % p := by
  induction a with
  | zero => rw [Nat.zero_pow (by have := hp.1; omega)]
  | succ a ih => rw [fermat_add hp, Nat.add_mod, ih, ← Nat.add_mod]
theorem mod_one_of_dvd {p x : Nat} (hp : 2 ≤ p) (hx : 1 ≤ x) (h : p ∣ x - 1) : x % p = 1 := by
  obtain ⟨t, ht⟩ := h
  rw [show x = 1 + p * t by omega, Nat.add_mul_mod_self_left, Nat.mod_eq_of_lt (by omega)]
theorem dvd_of_mod_one {p x : Nat} (hp : 2 ≤ p) (h : x % p = 1) : p ∣ x - 1 := ⟨x / p, by have := Nat.div_add_mod x p; omega⟩
theorem IsP.fermat1 {p a : Nat} (hp : IsP p) (h : ¬ p ∣ a) : a ^ (p - 1) % p = 1 := by
  have h2 := hp.1
  have ha : 1 ≤ a := by
    rcases Nat.eq_zero_or_pos a with e | e
    · rw [e] at h; exact absurd ⟨0, rfl⟩ h
    · exact e
  have e1 : a ^ p = a * a ^ (p - 1) := by rw [Nat.mul_comm, ← Nat.pow_succ]; congr 1; omega
  have hx : 1 ≤ a ^ (p - 1) := Nat.pow_pos ha
  have hd : p ∣ a * (a ^ (p - 1) - 1) := by
    have := Nat.sub_mod_eq_zero_of_mod_eq (fermat hp a)
    rw [Nat.mul_sub, Nat.mul_one, ← e1]
    exact Nat.dvd_of_mod_eq_zero this
  rcases hp.euclid hd with g | g
  · exact absurd g h
  · exact mod_one_of_dvd h2 hx g
/-! Orders. -/
theorem pow_one_mod {r a m : Nat} (hr : 2 ≤ r) (h : a ^ m % r = 1) (t : Nat) : a ^ (m * t) % r = 1 := by
  rw [Nat.pow_mul, Nat.pow_mod, h, Nat.one_pow, Nat.mod_eq_of_lt (by omega)]
theorem pow_rem {r a m n : Nat} (hr : 2 ≤ r) (hm : a ^ m % r = 1) (hn : a ^ n % r = 1) : a ^ (n % m) % r = 1 := by
  have e : a ^ n = a ^ (m * (n / m)) * a ^ (n % m) := by rw [← Nat.pow_add, Nat.div_add_mod]
  rw [e, Nat.mul_mod, pow_one_mod hr hm, Nat.one_mul, Nat.mod_mod] at hn
  exact hn
theorem pow_gcd {r a : Nat} (hr : 2 ≤ r) (m n : Nat) (hm : a ^ m % r = 1) (hn : a ^ n % r = 1) : a ^ (Nat.gcd m n) % r = 1 := by
  induction m, n using Nat.gcd.induction with
  | H0 n => rw [Nat.gcd_zero_left]; exact hn
  | H1 m n h ih => rw [Nat.gcd_rec]; exact ih (pow_rem hr hm hn) hm
theorem proth {n h k a : Nat} (hn : n = h * 2 ^ (k + 1) + 1) (hlt : h < 2 ^ (k + 1)) (h0 : 0 < h) (hw : a ^ (h * 2 ^ k) % n = n - 1) : IsP n := by
  have hk : 2 ^ (k + 1) = 2 * 2 ^ k := by rw [Nat.pow_succ, Nat.mul_comm]
  have hp2 : 0 < 2 ^ k := Nat.pow_pos (by omega)
  have hh : 1 ≤ h * 2 ^ k := Nat.mul_pos h0 hp2
  have en : n = 2 * (h * 2 ^ k) + 1 := by rw [hn, hk]; rw [Nat.mul_left_comm]
  have hn2 : 2 ≤ n := by omega
  obtain ⟨x, hx⟩ : ∃ x, x = a ^ (h * 2 ^ k) := ⟨_, rfl⟩
  rw [← hx] at hw
  have hdn : n ∣ x + 1 := by
    refine ⟨x / n + 1, ?_⟩
    have := Nat.div_add_mod x n
    rw [Nat.mul_add, Nat.mul_one]
    omega
  refine prime_of_factors (B := 2 ^ (k + 1)) hn2 ?_ ?_
  · intro r hr hrn
    have r2 := hr.1
    have hrx : r ∣ x + 1 := Nat.dvd_trans hrn hdn
    have hra : ¬ r ∣ a := fun hd => by
      have h1 : r ∣ x := by
        rw [hx]
        obtain ⟨m, hm⟩ : ∃ m, h * 2 ^ k = m + 1 := ⟨h * 2 ^ k - 1, by omega⟩
        rw [hm, Nat.pow_succ]
        exact Nat.dvd_trans hd ⟨_, Nat.mul_comm _ _⟩
      have := (Nat.dvd_add_right h1).1 hrx
      have := Nat.le_of_dvd (by omega) this
      omega
    have hx1 : 1 ≤ x := by
      rcases Nat.eq_zero_or_pos x with e | e
      · rw [e, Nat.zero_mod] at hw; omega
      · exact e
    have hq : a ^ (2 * (h * 2 ^ k)) % r = 1 := by
      have e : a ^ (2 * (h * 2 ^ k)) = x * x := by rw [hx, ← Nat.pow_add]; congr 1; omega
      rw [e]
      refine mod_one_of_dvd r2 (Nat.mul_pos hx1 hx1) ?_
      obtain ⟨t, ht⟩ := hrx
      refine ⟨t * (x - 1), ?_⟩
      rw [← Nat.mul_assoc, ← ht]
      obtain ⟨y, rfl⟩ : ∃ y, x = y + 1 := ⟨x - 1, by omega⟩
      simp only [Nat.add_sub_cancel, Nat.add_mul, Nat.mul_add, Nat.mul_one, Nat.one_mul]
      omega
    have hf := hr.fermat1 hra
    have hg := pow_gcd r2 _ _ hq hf
    have hd1 := Nat.gcd_dvd_left (2 * (h * 2 ^ k)) (r - 1)
    have hd2 := Nat.gcd_dvd_right (2 * (h * 2 ^ k)) (r - 1)
    generalize Nat.gcd (2 * (h * 2 ^ k)) (r - 1) = d at *
    by_cases hdk : 2 ^ (k + 1) ∣ d
    · have := Nat.le_of_dvd (by omega) (Nat.dvd_trans hdk hd2)
      omega
    · exfalso
      obtain ⟨t, ht⟩ := hd1
      have hte : t % 2 = 0 := by
        refine Classical.byContradiction fun ho => hdk ?_
        have hc : Nat.Coprime (2 ^ (k + 1)) t := Nat.Coprime.pow_left _ (by
          have : Nat.gcd 2 t ∣ 2 := Nat.gcd_dvd_left 2 t
          have hle := Nat.le_of_dvd (by omega) this
          have h2 : Nat.gcd 2 t ∣ t := Nat.gcd_dvd_right 2 t
          show Nat.gcd 2 t = 1
          have hpos : 0 < Nat.gcd 2 t := Nat.gcd_pos_of_pos_left t (by omega)
          rcases Nat.lt_or_ge (Nat.gcd 2 t) 2 with hl | hl
          · omega
          · have e2 : Nat.gcd 2 t = 2 := by omega
            rw [e2] at h2
            have := Nat.mod_eq_zero_of_dvd h2
            omega)
        refine Nat.Coprime.dvd_of_dvd_mul_right hc ?_
        rw [← ht, hk]
        exact ⟨h, by rw [Nat.mul_assoc, Nat.mul_comm h]⟩
      obtain ⟨s, hs⟩ : ∃ s, t = 2 * s := ⟨t / 2, by omega⟩
      have e : h * 2 ^ k = d * s := by
        rw [hs] at ht
        have e' : d * (2 * s) = 2 * (d * s) := Nat.mul_left_comm _ _ _
        rw [e'] at ht
        omega
      have hx2 : x % r = 1 := by rw [hx, e]; exact pow_one_mod r2 hg s
      have h2 : r ∣ 2 := by
        have h3 := dvd_of_mod_one r2 hx2
        have h4 := (Nat.dvd_add_right h3).1 (show r ∣ (x - 1) + 2 by rw [show x - 1 + 2 = x + 1 by omega]; exact hrx)
        exact h4
      have hle := Nat.le_of_dvd (by omega) h2
      have er : r = 2 := by omega
      rw [er] at hrn
      have := Nat.mod_eq_zero_of_dvd hrn
      omega
  · have h5 : h * 2 ^ (k + 1) ≤ 2 ^ (k + 1) * 2 ^ (k + 1) := Nat.mul_le_mul_right _ (by omega)
    rw [hn]
    simp only [Nat.add_mul, Nat.mul_add, Nat.mul_one, Nat.one_mul]
    omega
theorem pocklington {p q : Nat} (hq : IsP q) (hp : p = 2 * q + 1) (h1 : 2 ^ (2 * q) % p = 1) (h3 : p % 3 ≠ 0) : IsP p := by
  have q2 := hq.1
  refine prime_of_factors (B := q) (by omega) ?_ ?_
  · intro r hr hrn
    have r2 := hr.1
    obtain ⟨c, hc⟩ := hrn
    have hm : 2 ^ (2 * q) % r = 1 := by
      have := dvd_of_mod_one (by omega) h1
      refine mod_one_of_dvd r2 (Nat.pow_pos (by omega)) (Nat.dvd_trans ⟨c, hc⟩ this)
    have hra : ¬ r ∣ 2 := fun hd => by
      have hle := Nat.le_of_dvd (by omega) hd
      have er : r = 2 := by omega
      rw [er] at hc
      omega
    have hf := hr.fermat1 hra
    have hg := pow_gcd r2 _ _ hm hf
    have hd1 := Nat.gcd_dvd_left (2 * q) (r - 1)
    have hd2 := Nat.gcd_dvd_right (2 * q) (r - 1)
    generalize Nat.gcd (2 * q) (r - 1) = d at *
    by_cases hqd : q ∣ d
    · have := Nat.le_of_dvd (by omega) (Nat.dvd_trans hqd hd2)
      omega
    · exfalso
      have hcp : Nat.Coprime d q := by
        rcases hq.2 (Nat.gcd d q) (Nat.gcd_dvd_right d q) with g | g
        · exact g
        · exact absurd (by rw [← g]; exact Nat.gcd_dvd_left d q) hqd
      have hd : d ∣ 2 := Nat.Coprime.dvd_of_dvd_mul_right hcp hd1
      obtain ⟨s, hs⟩ := hd
      have h4 : 2 ^ 2 % r = 1 := by
        have q := pow_one_mod r2 hg s
        rw [← hs] at q
        exact q
      have h5 := dvd_of_mod_one r2 h4
      have h6 : r ∣ 3 := h5
      have hle := Nat.le_of_dvd (by omega) h6
      have er : r = 3 := by
        rcases Nat.lt_or_ge r 3 with hl | hl
        · have e2 : r = 2 := by omega
          rw [e2] at h6
          have := Nat.mod_eq_zero_of_dvd h6
          omega
        · omega
      rw [er] at hc
      rw [hc, Nat.mul_mod_right] at h3
      exact h3 rfl
  · simp only [Nat.add_mul, Nat.mul_add, Nat.mul_one, Nat.one_mul]
    have : 2 * q ≤ q * q := Nat.mul_le_mul_right q q2
    omega
/-! Powers, reckoned. -/
def pm (m : Nat) : Nat → Nat → Nat → Nat
  | 0, _, _ => 1 % m
  | f + 1, a, n => bif n % 2 == 1 then a * pm m f (a * a % m) (n / 2) % m else pm m f (a * a % m) (n / 2)
theorem pm_eq (m f a n : Nat) (h : n < 2 ^ f) : pm m f a n = a ^ n % m := by
  induction f generalizing a n with
  | zero =>
    have : n = 0 := by rw [Nat.pow_zero] at h; omega
    rw [this, pm, Nat.pow_zero]
  | succ f ih =>
    have hn : n / 2 < 2 ^ f := by rw [Nat.pow_succ] at h; omega
    rw [pm, ih _ _ hn]
    have e : a ^ n = (a * a) ^ (n / 2) * a ^ (n % 2) := by
      rw [← Nat.pow_two, ← Nat.pow_mul, ← Nat.pow_add, Nat.div_add_mod]
    have e2 : (a * a % m) ^ (n / 2) % m = (a * a) ^ (n / 2) % m := (Nat.pow_mod _ _ _).symm
    by_cases h1 : n % 2 = 1
    · rw [show (n % 2 == 1) = true by simp [h1], cond_true, e, h1, Nat.pow_one, e2, Nat.mul_mod_mod, Nat.mul_comm]
    · have h0 : n % 2 = 0 := by omega
      rw [show (n % 2 == 1) = false by simp [h0], cond_false, e, h0, Nat.pow_zero, Nat.mul_one, e2]
theorem proth_pm {n h k a f : Nat} (hn : n = h * 2 ^ (k + 1) + 1) (hlt : h < 2 ^ (k + 1)) (h0 : 0 < h) (hf : h * 2 ^ k < 2 ^ f) (hw : pm n f a (h * 2 ^ k) = n - 1) : IsP n :=
  proth hn hlt h0 (by rw [← pm_eq n f a _ hf]; exact hw)
theorem pock_pm {p q f : Nat} (hq : IsP q) (hp : p = 2 * q + 1) (hf : 2 * q < 2 ^ f) (h1 : pm p f 2 (2 * q) = 1) (h3 : p % 3 ≠ 0) : IsP p :=
  pocklington hq hp (by rw [← pm_eq p f 2 _ hf]; exact h1) h3
/-- Of a number that a safe prime does not divide: its power by the half of what is below the prime is 1, or 1 below the prime. -/
theorem half_power {p q a : Nat} (hp : IsP p) (e : p = 2 * q + 1) (h : ¬ p ∣ a) : a ^ q % p = 1 ∨ a ^ q % p = p - 1 := by
  have p2 := hp.1
  obtain ⟨x, hx⟩ : ∃ x, x = a ^ q := ⟨_, rfl⟩
  have hf := hp.fermat1 h
  have e2 : a ^ (p - 1) = x * x := by rw [hx, ← Nat.pow_add]; congr 1; omega
  rw [e2] at hf
  have hx1 : 1 ≤ x := by
    rcases Nat.eq_zero_or_pos x with e0 | e0
    · rw [e0, Nat.zero_mul, Nat.zero_mod] at hf; omega
    · exact e0
  have hd : p ∣ (x - 1) * (x + 1) := by
    have := dvd_of_mod_one p2 hf
    have e3 : x * x - 1 = (x - 1) * (x + 1) := by
      obtain ⟨y, rfl⟩ : ∃ y, x = y + 1 := ⟨x - 1, by omega⟩
      simp only [Nat.add_sub_cancel, Nat.add_mul, Nat.mul_add, Nat.mul_one, Nat.one_mul]
      omega
    rw [← e3]; exact this
  rw [← hx]
  rcases hp.euclid hd with g | g
  · exact Or.inl (mod_one_of_dvd p2 hx1 g)
  · right
    obtain ⟨t, ht⟩ := g
    have t0 : 0 < t := by
      rcases Nat.eq_zero_or_pos t with e0 | e0
      · rw [e0, Nat.mul_zero] at ht; omega
      · exact e0
    obtain ⟨u, rfl⟩ : ∃ u, t = u + 1 := ⟨t - 1, by omega⟩
    rw [Nat.mul_add, Nat.mul_one] at ht
    rw [show x = (p - 1) + p * u by omega, Nat.add_mul_mod_self_left, Nat.mod_eq_of_lt (by omega)]
theorem prime_q1 : IsP 641 := proth_pm (h := 5) (k := 6) (a := 3) (f := 11) (by decide +kernel) (by decide +kernel) (by decide +kernel) (by decide +kernel) (by decide +kernel)
theorem prime_p1 : IsP 1283 := pock_pm prime_q1 (f := 12) (by decide +kernel) (by decide +kernel) (by decide +kernel) (by decide +kernel)
theorem prime_q2 : IsP 576465431670292481 := proth_pm (h := 268437635) (k := 30) (a := 3) (f := 61) (by decide +kernel) (by decide +kernel) (by decide +kernel) (by decide +kernel) (by decide +kernel)
theorem prime_p2 : IsP 1152930863340584963 := pock_pm prime_q2 (f := 62) (by decide +kernel) (by decide +kernel) (by decide +kernel) (by decide +kernel)
theorem prime_q3 : IsP 7237005577332262213973186563042995786902308146886443998308627866733439352833 := proth_pm (h := 42535295865117307932921825928971035519) (k := 126) (a := 3) (f := 254) (by decide +kernel) (by decide +kernel) (by decide +kernel) (by decide +kernel) (by decide +kernel)
theorem prime_p3 : IsP 14474011154664524427946373126085991573804616293772887996617255733466878705667 := pock_pm prime_q3 (f := 255) (by decide +kernel) (by decide +kernel) (by decide +kernel) (by decide +kernel)
end Go.Proofs.YtmpiipcllgjhdaaGreatDoor
namespace Go.Proofs.YtmpiipcllgjhdaaGreatDoor
open Go.RowKit Go.Deep Go.PlainAid

/-- A number, or what is missing of it to the prime, whichever is not above the order. -/
def sgn (M M2 c : Nat) : Nat := if M < c then M2 - c else c
theorem sgn_le {M M2 c : Nat} (e : M2 = 2 * M + 1) (h : c < M2) : sgn M M2 c ≤ M := by unfold sgn; split <;> omega
theorem sgn_neg {M M2 c : Nat} (e : M2 = 2 * M + 1) (h0 : 0 < c) (h : c < M2) : sgn M M2 (M2 - c) = sgn M M2 c := by
  unfold sgn
  split <;> split <;> omega
section
variable {z : Int} {G : Array Value} {S Wd M low one sq Ri Wd2 M2 low2 one2 sq2 Ri2 : Nat}
theorem KD.big2 (k : KD z G S Wd M low one sq Ri Wd2 M2 low2 one2 sq2 Ri2) : M2 < BB ^ 4 := by have := k.fl2.big; have := k.fl2.m2; omega
theorem KD.pp (k : KD z G S Wd M low one sq Ri Wd2 M2 low2 one2 sq2 Ri2) : M2 ≤ M2 * M2 := Nat.le_mul_of_pos_left M2 (by have := k.fl2.m2; omega)
theorem elem_yes (k : KD z G S Wd M low one sq Ri Wd2 M2 low2 one2 sq2 Ri2) {w : World} {g : Nat} (F : GH w g S Wd M low one sq Wd2 M2 low2 one2 sq2) {s : ByteArray} (h : isEl S M s = true) :
    Calls Tryz.prog 36 #[.pointer (some ⟨g, 0, none⟩), .string s] w fun e w' => e = .returned (.tuple #[A4 (numS s), .int .i64 0]) ∧ Below w.heap.size w w' := by
  have q := elemA F s k.hS k.big
  rw [h, if_pos rfl, if_pos rfl] at q
  exact q
theorem isEl_le {S M : Nat} {s : ByteArray} (h : isEl S M s = true) : numS s ≤ M := (of_decide_eq_true h).2.2
theorem isEl_pos {S M : Nat} {s : ByteArray} (h : isEl S M s = true) : numS s ≠ 0 := (of_decide_eq_true h).2.1
theorem isEl_size {S M : Nat} {s : ByteArray} (h : isEl S M s = true) : s.size = S := (of_decide_eq_true h).1
theorem KD.el (k : KD z G S Wd M low one sq Ri Wd2 M2 low2 one2 sq2 Ri2) {s : ByteArray} (h : isEl S M s = true) : numS s < M2 := by have := isEl_le h; have := k.m21; omega
theorem KD.elw (k : KD z G S Wd M low one sq Ri Wd2 M2 low2 one2 sq2 Ri2) {s : ByteArray} (h : isEl S M s = true) : numS s < BB ^ Wd2 := k.fl2.in_words (k.el h)
theorem signedA (k : KD z G S Wd M low one sq Ri Wd2 M2 low2 one2 sq2 Ri2) {w : World} {g : Nat} (F : GH w g S Wd M low one sq Wd2 M2 low2 one2 sq2) {c : Nat} (hc : c < M2) :
    Calls Tryz.prog 105 #[.pointer (some ⟨g, 0, none⟩), A4 c] w fun e w' => e = .returned (A4 (sgn M M2 c)) ∧ Below w.heap.size w w' := by
  have hb := k.big2
  have hb1 := k.big
  unfold sgn
  by_cases h : M < c
  · rw [if_pos h]
    refine signed_hi F (fun W => lessT W hb1 (by omega) h) (fun W => ?_)
    have e2 : borN M2 c = 0 := by unfold borN; rw [if_neg (by omega)]
    have e3 : subN M2 c = M2 - c := by unfold subN; rw [if_neg (by omega)]
    have q := minusA W (n := M2) (m := c) hb (by omega)
    rw [e2, e3] at q
    exact q
  · rw [if_neg h]
    exact signed_lo F (fun W => lessF W hb1 (by omega) h)
theorem toldElemA (k : KD z G S Wd M low one sq Ri Wd2 M2 low2 one2 sq2 Ri2) {w : World} {g : Nat} (F : GH w g S Wd M low one sq Wd2 M2 low2 one2 sq2) {c : Nat} (hc : c < M2) :
    Calls Tryz.prog 68 #[.pointer (some ⟨g, 0, none⟩), A4 c] w fun e w' => e = .returned (.tuple #[.string ⟨(beB S (sgn M M2 c)).toArray⟩, .int .i64 0]) ∧ Below w.heap.size w w' :=
  toldElem_words F (fun W hF => signedA k hF hc) (fun W hF => toldA hF.c k.hS (Nat.lt_of_le_of_lt (sgn_le k.m21 hc) k.big))
theorem KD.mod2 (k : KD z G S Wd M low one sq Ri Wd2 M2 low2 one2 sq2 Ri2) (x : Nat) : x % M2 < M2 := Nat.mod_lt _ (by have := k.fl2.m2; omega)
theorem powers_one {w : World} {g o Wd M low one sq Ri : Nat} (F : FH w g o Wd M low one sq) (fl : Fld Wd M low one sq Ri) {a n b1 b2 : Nat} (ha : a < BB ^ Wd) (hn : n < BB ^ 4) (h1 : IHolds w b1 73 (us (ws4 a))) (h2 : IHolds w b2 73 (us (ws4 n))) :
    Calls Tryz.prog 69 #[.pointer (some ⟨g, o, none⟩), .slice (some ⟨b1, 0, none⟩) 1 1, .slice (some ⟨b2, 0, none⟩) 1 1] w fun e w' => e = .returned (A4 (a ^ n % M)) ∧ Below w.heap.size w w' := by
  have h := powers_any F fl [a] [n] _ _ (NumsV.one (X := a) h1) (NumsV.one (X := n) h2) rfl (by simp) (fun j hj => by
    simp only [List.length_cons, List.length_nil, Nat.zero_add, Nat.lt_one_iff] at hj
    subst hj
    exact ha) (fun j hj => by
    simp only [List.length_cons, List.length_nil, Nat.zero_add, Nat.lt_one_iff] at hj
    subst hj
    exact hn)
  have e : powP [a] [n] [a].length = a ^ n := by simp [powP]
  rw [e] at h
  exact h
theorem gpowerA (k : KD z G S Wd M low one sq Ri Wd2 M2 low2 one2 sq2 Ri2) {w : World} {g : Nat} (F : GH w g S Wd M low one sq Wd2 M2 low2 one2 sq2) {a n : Nat} (ha : a < M2) (hn : n < BB ^ 4) :
    Calls Tryz.prog 38 #[.pointer (some ⟨g, 0, none⟩), A4 a, A4 n] w fun e w' => e = .returned (.tuple #[.string ⟨(beB S (sgn M M2 (a ^ n % M2))).toArray⟩, .int .i64 0]) ∧ Below w.heap.size w w' :=
  gpower_words F (fun W b1 b2 hF h1 h2 => powers_one hF.fe k.fl2 (k.fl2.in_words ha) hn h1 h2) (fun W hF => toldElemA k hF (k.mod2 _))
/-! The program's answers. -/
theorem power_yes (k : KD z G S Wd M low one sq Ri Wd2 M2 low2 one2 sq2 Ri2) (w : World) {a b : ByteArray} (h : isEl S M a = true) (h' : isSc S M b = true) :
    Calls Tryz.prog 17 #[.int .i64 z, .string a, .string b] w fun e w' => e = .returned (.tuple #[.string ⟨(beB S (sgn M M2 (numS a ^ numS b % M2))).toArray⟩, .int .i64 0]) ∧ Below w.heap.size w w' :=
  power_face (withTwo_any (fun W2 q1 q2 q3 k1 k2 k3 hb2 => withOne_any (fun W3 p1 p2 p3 j1 j2 j3 hb3 => on48_88 k.hG k.hi k.h1 k.CG (fun W4 g hI hb4 =>
    clos88_61_96 (j1.of_below hb4) (j2.of_below hb4) (j3.of_below hb4) (fun W5 hb5 => elem_yes k ((k.gh W4 g hI).of_below hb5) h)
      (fun W5 hb5 => clos96_59_76 (((k1.of_below hb3).of_below hb4).of_below hb5) (((k2.of_below hb3).of_below hb4).of_below hb5) (((k3.of_below hb3).of_below hb4).of_below hb5)
        (fun W6 hb6 => scalar_yes k (((k.gh W4 g hI).of_below hb5).of_below hb6) h')
        (fun W6 hb6 => gpowerA k (((k.gh W4 g hI).of_below hb5).of_below hb6) (k.el h) (Nat.lt_trans (isSc_lt h') k.big)))))))
/-! The reference's. -/
end
end Go.Proofs.YtmpiipcllgjhdaaGreatDoor
namespace Go.Proofs.YtmpiipcllgjhdaaGreatDoor
open Go.RowKit Go.Deep Go.PlainAid

/-- The i-th text of a list. -/
def tx (l : List ByteArray) (i : Nat) : ByteArray := l.getD i ⟨#[]⟩
/-- Texts in memory. -/
def SAt (w : World) (a : Option Addr) (l : List ByteArray) : Prop := ∀ i, i < l.length → ∃ b o, a = some ⟨b, o, none⟩ ∧ w.cell? ⟨b, o + i, none⟩ = some (.string (tx l i))
theorem SAt.of_below {w w' : World} {a : Option Addr} {l : List ByteArray} (h : SAt w a l) (hb : Below w.heap.size w w') : SAt w' a l := by
  intro i hi
  obtain ⟨b, o, e, c⟩ := h i hi
  exact ⟨b, o, e, by rw [hb.cell (World.block_lt_of_cell? w ⟨b, o + i, none⟩ c)]; exact c⟩
/-- What is wrong with the first of two lists' items that are not right; 0: all are. -/
def code (S M : Nat) : List ByteArray → List ByteArray → Nat
  | a :: xs, n :: ns => if isEl S M a then (if isSc S M n then code S M xs ns else 6) else 7
  | _, _ => 0
theorem tx_drop (l : List ByteArray) (i : Nat) (h : i < l.length) : l.drop i = tx l i :: l.drop (i + 1) := by
  rw [List.drop_eq_getElem_cons h, tx, List.getD_eq_getElem?_getD, List.getElem?_eq_getElem h]
  rfl
theorem code_step {S M : Nat} {xs ns : List ByteArray} {i : Nat} (h1 : i < xs.length) (h2 : i < ns.length) :
    code S M (xs.drop i) (ns.drop i) = if isEl S M (tx xs i) then (if isSc S M (tx ns i) then code S M (xs.drop (i + 1)) (ns.drop (i + 1)) else 6) else 7 := by
  rw [tx_drop xs i h1, tx_drop ns i h2, code]
theorem code_end {S M : Nat} {xs ns : List ByteArray} {i : Nat} (h : xs.length ≤ i) : code S M (xs.drop i) (ns.drop i) = 0 := by
  rw [List.drop_of_length_le h, code]
  simp
/-- The numbers of texts. -/
def nums (l : List ByteArray) : List Nat := l.map numS
theorem nums_getD (l : List ByteArray) (i : Nat) (h : i < l.length) : (nums l).getD i 0 = numS (tx l i) := by
  simp [nums, tx, List.getD_eq_getElem?_getD, List.getElem?_map, List.getElem?_eq_getElem h]
/-- The cells of numbers, one behind the other. -/
def numC : List Nat → List Value
  | [] => []
  | x :: r => us (ws4 x) ++ numC r
theorem us4_length (x : Nat) : (us (ws4 x)).length = 4 := rfl
theorem numC_length (l : List Nat) : (numC l).length = l.length * 4 := by
  induction l with
  | nil => rfl
  | cons x r ih => rw [numC, List.length_append, us4_length, ih, List.length_cons]; omega
theorem numC_snoc (l : List Nat) (x : Nat) : numC (l ++ [x]) = numC l ++ us (ws4 x) := by
  induction l with
  | nil => simp [numC]
  | cons y r ih => rw [List.cons_append, numC, numC, ih, List.append_assoc]
theorem numC_at (l : List Nat) (i j : Nat) (hi : i < l.length) (hj : j < 4) : (numC l)[i * 4 + j]? = some (U (w4 (l.getD i 0) j)) := by
  induction l generalizing i with
  | nil => cases hi
  | cons x r ih =>
    rw [numC]
    cases i with
    | zero =>
      rw [List.getElem?_append_left (by rw [us4_length]; omega), Nat.zero_mul, Nat.zero_add]
      exact us4_at x j hj
    | succ i =>
      rw [List.getElem?_append_right (by rw [us4_length]; omega), us4_length, show (i + 1) * 4 + j - 4 = i * 4 + j by omega, ih i (by simpa using hi)]
      simp
def zeros (n : Nat) : List Value := List.replicate (n * 4) (Value.int .u64 0)
theorem put_at (l : List Nat) (x k : Nat) : ((((numC l ++ zeros (k + 1)).set (l.length * 4) (U (w4 x 0))).set (l.length * 4 + 1) (U (w4 x 1))).set (l.length * 4 + 2) (U (w4 x 2))).set (l.length * 4 + 3) (U (w4 x 3)) = numC (l ++ [x]) ++ zeros k := by
  have e : zeros (k + 1) = .int .u64 0 :: .int .u64 0 :: .int .u64 0 :: .int .u64 0 :: zeros k := by
    unfold zeros
    rw [show (k + 1) * 4 = k * 4 + 1 + 1 + 1 + 1 by omega]
    simp only [List.replicate_succ]
  have hl := numC_length l
  rw [e, numC_snoc]
  rw [List.set_append_right _ _ (by omega), List.set_append_right _ _ (by omega), List.set_append_right _ _ (by omega), List.set_append_right _ _ (by omega)]
  rw [show l.length * 4 - (numC l).length = 0 by omega, show l.length * 4 + 1 - (numC l).length = 1 by omega, show l.length * 4 + 2 - (numC l).length = 2 by omega, show l.length * 4 + 3 - (numC l).length = 3 by omega]
  simp [us, ws4]
theorem zero_cell {W : World} {b : Nat} {l : List Nat} {k j : Nat} (h : IHolds W b 73 (numC l ++ zeros (k + 1))) (hj : j < 4) : W.cell? ⟨b, l.length * 4 + j, none⟩ = some (.int .u64 0) := by
  have hl := numC_length l
  have hlt : l.length * 4 + j < (numC l ++ zeros (k + 1)).length := by rw [List.length_append, hl]; unfold zeros; rw [List.length_replicate]; omega
  rw [h.cell _ hlt, List.getElem_append_right (by omega)]
  unfold zeros
  rw [List.getElem_replicate]
theorem NumsV.of_holds {W : World} {b N : Nat} {l : List Nat} (h : IHolds W b 73 (numC l)) (hN : l.length = N) (h9 : N ≤ 1000) : NumsV W l (.slice (some ⟨b, 0, none⟩) N N) := by
  subst hN
  refine ⟨_, _, rfl, Nat.le_refl _, by omega, ?_⟩
  intro i hi
  refine ⟨b, 0, rfl, ?_⟩
  have hc : ∀ j, j < 4 → W.cell? ⟨b, 0 + i * 4 + j, none⟩ = some (U (w4 (l.getD i 0) j)) := by
    intro j hj
    have hlt : i * 4 + j < (numC l).length := by rw [numC_length]; omega
    have e := numC_at l i j hi hj
    rw [List.getElem?_eq_getElem hlt] at e
    rw [Nat.zero_add, h.cell _ hlt]
    exact e
  exact ⟨hc 0 (by omega), hc 1 (by omega), hc 2 (by omega), hc 3 (by omega)⟩
theorem make105n (n : Nat) (hn : n ≤ 1000) (w : World) : (Instr.makeSlice 121 (.int .i64 (n : Int)) (.int .i64 (n : Int))).run Tryz.prog w = .ok (.slice (some ⟨w.heap.size, 0, none⟩) n n) (w.alloc (.cells (zeros n).toArray 73)) := by
  obtain ⟨i0, hi0, hz0, hz1, hz2⟩ := info_parts Tryz.info66
  have := run_make (P := Tryz.prog) w 121 73 i0 _ Tryz.underlying121 hi0 hz0 .i64 .i64 (n : Int) (n : Int) (by omega) (by omega) (by rw [hz2]; omega) (by omega)
  rw [this, hz1, Int.toNat_natCast]
  have e : madeCells (Value.agg #[.int .u64 0, .int .u64 0, .int .u64 0, .int .u64 0]).cells (n * 4) = (zeros n).toArray := by
    apply Array.toList_inj.1
    unfold zeros
    rw [List.toList_toArray, List.eq_replicate_iff]
    refine ⟨by simp [madeCells], ?_⟩
    intro b hb
    simp only [madeCells, Array.toList_map, List.mem_map] at hb
    obtain ⟨i, _, rfl⟩ := hb
    have h4 : i % 4 = 0 ∨ i % 4 = 1 ∨ i % 4 = 2 ∨ i % 4 = 3 := by omega
    show (#[Value.int .u64 0, .int .u64 0, .int .u64 0, .int .u64 0] : Array Value)[i % 4]! = _
    rcases h4 with h | h | h | h <;> rw [h] <;> rfl
  rw [e]
/-! Signs. -/
theorem neg_mul {p x y : Nat} (h : x ≤ p) (hp : 0 < p) : (p - x) * y % p = (p - x * y % p) % p := by
  have e : (p - x) * y + x * y = p * y := by rw [← Nat.add_mul, Nat.sub_add_cancel h]
  obtain ⟨c, hc⟩ : ∃ c, c = x * y % p := ⟨_, rfl⟩
  have hd := Nat.div_add_mod (x * y) p
  have c9 : c < p := by rw [hc]; exact Nat.mod_lt _ hp
  rw [← hc] at hd ⊢
  obtain ⟨d, hdd⟩ : ∃ d, d = x * y / p := ⟨_, rfl⟩
  rw [← hdd] at hd
  have hy : x * y ≤ p * y := Nat.mul_le_mul_right _ h
  have e2 : (p - x) * y = p * y - x * y := by omega
  by_cases h0 : c = 0
  · rw [h0, Nat.sub_zero, Nat.mod_self, e2, ← hd, h0, Nat.add_zero, ← Nat.mul_sub, Nat.mul_mod_right]
  · have hdy : d < y := by
      refine Nat.lt_of_mul_lt_mul_left (a := p) ?_
      omega
    obtain ⟨t, ht⟩ : ∃ t, y = d + 1 + t := ⟨y - d - 1, by omega⟩
    have e3 : (p - x) * y = (p - c) + p * t := by
      rw [e2, ← hd, ht, Nat.mul_add, Nat.mul_add, Nat.mul_one]
      omega
    rw [e3, Nat.add_mul_mod_self_left]
theorem sgn_neg0 {M M2 c : Nat} (e : M2 = 2 * M + 1) (h : c < M2) : sgn M M2 ((M2 - c) % M2) = sgn M M2 c := by
  by_cases h0 : c = 0
  · rw [h0, Nat.sub_zero, Nat.mod_self]
  · rw [Nat.mod_eq_of_lt (by omega), sgn_neg e (by omega) h]
theorem sgn_mul_left {M M2 x y : Nat} (e : M2 = 2 * M + 1) (hx : x < M2) : sgn M M2 (sgn M M2 x * y % M2) = sgn M M2 (x * y % M2) := by
  by_cases h : M < x
  · have e1 : sgn M M2 x = M2 - x := by unfold sgn; rw [if_pos h]
    rw [e1, neg_mul (by omega) (by omega), sgn_neg0 e (Nat.mod_lt _ (by omega))]
  · have e1 : sgn M M2 x = x := by unfold sgn; rw [if_neg h]
    rw [e1]
theorem sgn_mul {M M2 x y : Nat} (e : M2 = 2 * M + 1) (hx : x < M2) (hy : y < M2) : sgn M M2 (sgn M M2 x * sgn M M2 y % M2) = sgn M M2 (x * y % M2) := by
  rw [sgn_mul_left e hx, Nat.mul_comm, sgn_mul_left e hy, Nat.mul_comm]
end Go.Proofs.YtmpiipcllgjhdaaGreatDoor
namespace Go.Proofs.YtmpiipcllgjhdaaGreatDoor
open Go.RowKit Go.Deep Go.PlainAid

/-- What is told of the product. -/
def prodT (S M M2 : Nat) (xs ns : List ByteArray) : ByteArray := if code S M xs ns = 0 then ⟨(beB S (sgn M M2 (powP (nums xs) (nums ns) xs.length % M2))).toArray⟩ else ⟨#[]⟩
/-- All items so far are right. -/
def AllR (S M : Nat) (xs ns : List ByteArray) (i : Nat) : Prop := ∀ j, j < i → isEl S M (tx xs j) = true ∧ isSc S M (tx ns j) = true
theorem nums_take (l : List ByteArray) (i : Nat) (h : i < l.length) : nums (l.take (i + 1)) = nums (l.take i) ++ [numS (tx l i)] := by
  rw [List.take_add_one, List.getElem?_eq_getElem h, Option.toList_some, nums, List.map_append]
  simp [nums, tx, List.getD_eq_getElem?_getD, List.getElem?_eq_getElem h]
theorem nums_take_len (l : List ByteArray) (i : Nat) (h : i ≤ l.length) : (nums (l.take i)).length = i := by simp [nums]; omega
section
variable {z : Int} {G : Array Value} {S Wd M low one sq Ri Wd2 M2 low2 one2 sq2 Ri2 : Nat}
set_option maxRecDepth 100000 in
set_option maxHeartbeats 1000000 in
theorem product_any (k : KD z G S Wd M low one sq Ri Wd2 M2 low2 one2 sq2 Ri2) {w : World} {g : Nat} (F : Hid (GH w g S Wd M low one sq Wd2 M2 low2 one2 sq2)) (xs ns : List ByteArray) {ax an : Option Addr} {cx cn n : Nat} (hx : SAt w ax xs) (hn : SAt w an ns) (hlx : xs.length = n) (hln : ns.length = n) (h9 : n ≤ 256) :
    Calls Tryz.prog 144 #[.pointer (some ⟨g, 0, none⟩), .slice ax n cx, .slice an n cn] w fun e w' => e = .returned (.tuple #[.string (prodT S M M2 xs ns), .int .i64 (code S M xs ns : Int)]) ∧ Below w.heap.size w w' := by
  have CE : Hid (∀ W s, GH W g S Wd M low one sq Wd2 M2 low2 one2 sq2 → Calls Tryz.prog 36 #[.pointer (some ⟨g, 0, none⟩), .string s] W fun e w' => e = .returned (.tuple #[A4 (if isEl S M s then numS s else 0), .int .i64 (if isEl S M s then 0 else 7)]) ∧ Below W.heap.size W w') := fun W s hF => elemA hF s k.hS k.big
  have CS : Hid (∀ W s, GH W g S Wd M low one sq Wd2 M2 low2 one2 sq2 → Calls Tryz.prog 32 #[.pointer (some ⟨g, 0, none⟩), .string s] W fun e w' => e = .returned (.tuple #[A4 (if isSc S M s then numS s else 0), .int .i64 (if isSc S M s then 0 else 6)]) ∧ Below W.heap.size W w') := fun W s hF => scalarA hF s k.hS k.big
  have CP : Hid (∀ W va vn, AllR S M xs ns n → GH W g S Wd M low one sq Wd2 M2 low2 one2 sq2 → NumsV W (nums xs) va → NumsV W (nums ns) vn → Calls Tryz.prog 69 #[.pointer (some ⟨g, 15, none⟩), va, vn] W fun e w' => e = .returned (A4 (powP (nums xs) (nums ns) n % M2)) ∧ Below W.heap.size W w') := fun W va vn hR hF g1 g2 => by
    have e1 : (nums xs).length = n := by rw [nums, List.length_map]; exact hlx
    have q := powers_any hF.fe k.fl2 (nums xs) (nums ns) va vn g1 g2 (by simp [nums, hlx, hln]) (by omega) (fun j hj => by
      rw [e1] at hj
      rw [nums_getD xs j (by omega)]
      exact k.elw (hR j hj).1) (fun j hj => by
      rw [e1] at hj
      rw [nums_getD ns j (by omega)]
      exact Nat.lt_trans (isSc_lt (hR j hj).2) k.big)
    rw [e1] at q
    exact q
  have CT : Hid (∀ W, GH W g S Wd M low one sq Wd2 M2 low2 one2 sq2 → Calls Tryz.prog 68 #[.pointer (some ⟨g, 0, none⟩), A4 (powP (nums xs) (nums ns) n % M2)] W fun e w' => e = .returned (.tuple #[.string ⟨(beB S (sgn M M2 (powP (nums xs) (nums ns) n % M2))).toArray⟩, .int .i64 0]) ∧ Below W.heap.size W w') := fun W hF => toldElemA k hF (k.mod2 _)
  clear k
  have HX : Hid (SAt w ax xs) := hx
  have HN : Hid (SAt w an ns) := hn
  have Hlx : Hid (xs.length = n) := hlx
  have Hln : Hid (ns.length = n) := hln
  clear hx hn hlx hln
  have h9' : n ≤ 1000 := by omega
  go_enter Tryz.func144, Tryz.ntmps144
  go_upto_region 1 with fail
  go_cut [8, 9] (fun v8 v9 wx => ∃ bA bB : Nat, v8 = .slice (some ⟨bA, 0, none⟩) n n ∧ v9 = .slice (some ⟨bB, 0, none⟩) n n ∧ bA ≠ bB ∧ IHolds wx bA 73 (zeros n) ∧ IHolds wx bB 73 (zeros n) ∧ w.heap.size ≤ bA ∧ w.heap.size ≤ bB ∧ Below w.heap.size w wx)
  case first =>
    have B0 : Hid (Below w.heap.size w w.drew) := dB w
    have G0 : Hid (w.heap.size ≤ w.drew.heap.size) := B0.out.size
    refine wp_region_held_drew (S := fun W => True) (by kernel_rfl) trivial (fun h1 => ?_)
    generalize w.drew = V0 at *
    refine tk (i := 0) (v := .slice ax n cx) rfl (by kernel_rfl) (fun _ _ _ h => h) rfl ?_ h1 ?_
    · intro W hS; go_simp
    simp only [Act.put, y1, y2, y3, y4, y5, y6, y7]
    refine tk (i := 1) (v := .int .i64 (n : Int)) rfl (by kernel_rfl) (fun _ _ _ h => h) rfl ?_ h1 ?_
    · intro W hS; go_simp
    simp only [Act.put, y1, y2, y3, y4, y5, y6, y7]
    refine tk (i := 3) (v := .slice ax n cx) rfl (by kernel_rfl) (fun _ _ _ h => h) rfl ?_ h1 ?_
    · intro W hS; go_simp
    simp only [Act.put, y1, y2, y3, y4, y5, y6, y7]
    refine tk (i := 4) (v := .int .i64 (n : Int)) rfl (by kernel_rfl) (fun _ _ _ h => h) rfl ?_ h1 ?_
    · intro W hS; go_simp
    simp only [Act.put, y1, y2, y3, y4, y5, y6, y7]
    refine wpAnyH_ready (rs := [2, 5]) (by kernel_rfl) (by simp) ?_
    refine AllReadyH.cons rfl (fun K hK => ?_) (AllReadyH.cons rfl (fun K hK => ?_) AllReadyH.nil)
    all_goals clear h1
    · have hm := make105n n h9' V0
      have JA : Hid (IHolds (V0.alloc (.cells (zeros n).toArray 73)) V0.heap.size 73 (zeros n)) := IHolds.new _ _ _
      have hb := nB V0 (.cells (zeros n).toArray 73)
      replace B0 := aB B0 hb
      clear hb
      go_simp
      clear hm
      generalize V0.alloc (.cells (zeros n).toArray 73) = V1 at *
      generalize V0.heap.size = b1 at *
      have g1 : Hid (w.heap.size ≤ b1) := G0
      refine hK.out _ _ trivial (fun h1 => ?_)
      clear hK K
      try simp only [Act.put, y1, y2, y3, y4, y5, y6, y7]
      refine tk (i := 6) (v := .slice (some ⟨b1, 0, none⟩) n n) rfl (by kernel_rfl) (fun _ _ _ h => h) rfl ?_ h1 ?_
      · intro W hS; go_simp
      simp only [Act.put, y1, y2, y3, y4, y5, y6, y7]
      refine wpAnyH_ready (rs := [5]) (by kernel_rfl) (by simp) ?_
      refine AllReadyH.cons rfl (fun K hK => ?_) AllReadyH.nil
      clear h1
      have hm := make105n n h9' V1
      have JB : Hid (IHolds (V1.alloc (.cells (zeros n).toArray 73)) V1.heap.size 73 (zeros n)) := IHolds.new _ _ _
      have hb := nB V1 (.cells (zeros n).toArray 73)
      have g2 : Hid (w.heap.size ≤ V1.heap.size) := B0.out.size
      have ne1 : Hid (b1 ≠ V1.heap.size) := by have := JA.out.lt; show _ ≠ _; omega
      replace B0 := aB B0 hb
      replace JA := aJ JA hb
      clear hb
      go_simp
      clear hm
      generalize V1.alloc (.cells (zeros n).toArray 73) = V2 at *
      generalize V1.heap.size = b2 at *
      refine hK.out _ _ trivial (fun h1 => ?_)
      clear hK K
      try simp only [Act.put, y1, y2, y3, y4, y5, y6, y7]
      refine tk (i := 7) (v := .slice (some ⟨b2, 0, none⟩) n n) rfl (by kernel_rfl) (fun _ _ _ h => h) rfl ?_ h1 ?_
      · intro W hS; go_simp
      simp only [Act.put, y1, y2, y3, y4, y5, y6, y7]
      refine wpAnyH_done (by kernel_rfl) ?_ _
      clear h1
      go_wp2_with fail
      go_meet
      case rel => exact ⟨b1, b2, rfl, rfl, ne1.out, JA.out, JB.out, g1.out, g2.out, B0.out⟩
    · have hm := make105n n h9' V0
      have JB : Hid (IHolds (V0.alloc (.cells (zeros n).toArray 73)) V0.heap.size 73 (zeros n)) := IHolds.new _ _ _
      have hb := nB V0 (.cells (zeros n).toArray 73)
      replace B0 := aB B0 hb
      clear hb
      go_simp
      clear hm
      generalize V0.alloc (.cells (zeros n).toArray 73) = V1 at *
      generalize V0.heap.size = b1 at *
      have g1 : Hid (w.heap.size ≤ b1) := G0
      refine hK.out _ _ trivial (fun h1 => ?_)
      clear hK K
      try simp only [Act.put, y1, y2, y3, y4, y5, y6, y7]
      refine wpAnyH_ready (rs := [2]) (by kernel_rfl) (by simp) ?_
      refine AllReadyH.cons rfl (fun K hK => ?_) AllReadyH.nil
      clear h1
      have hm := make105n n h9' V1
      have JA : Hid (IHolds (V1.alloc (.cells (zeros n).toArray 73)) V1.heap.size 73 (zeros n)) := IHolds.new _ _ _
      have hb := nB V1 (.cells (zeros n).toArray 73)
      have g2 : Hid (w.heap.size ≤ V1.heap.size) := B0.out.size
      have ne1 : Hid (b1 ≠ V1.heap.size) := by have := JB.out.lt; show _ ≠ _; omega
      replace B0 := aB B0 hb
      replace JB := aJ JB hb
      clear hb
      go_simp
      clear hm
      generalize V1.alloc (.cells (zeros n).toArray 73) = V2 at *
      generalize V1.heap.size = b2 at *
      refine hK.out _ _ trivial (fun h1 => ?_)
      clear hK K
      try simp only [Act.put, y1, y2, y3, y4, y5, y6, y7]
      refine tk (i := 6) (v := .slice (some ⟨b2, 0, none⟩) n n) rfl (by kernel_rfl) (fun _ _ _ h => h) rfl ?_ h1 ?_
      · intro W hS; go_simp
      simp only [Act.put, y1, y2, y3, y4, y5, y6, y7]
      refine tk (i := 7) (v := .slice (some ⟨b1, 0, none⟩) n n) rfl (by kernel_rfl) (fun _ _ _ h => h) rfl ?_ h1 ?_
      · intro W hS; go_simp
      simp only [Act.put, y1, y2, y3, y4, y5, y6, y7]
      refine wpAnyH_done (by kernel_rfl) ?_ _
      clear h1
      go_wp2_with fail
      go_meet
      case rel => exact ⟨b2, b1, rfl, rfl, fun h => ne1.out h.symm, JA.out, JB.out, g2.out, g1.out, B0.out⟩
  case rest =>
    obtain ⟨bA, bB, rfl, rfl, hne, hJA, hJB, hgA, hgB, hB⟩ := hcut
    have JA : Hid (IHolds wc bA 73 (zeros n)) := hJA
    have JB : Hid (IHolds wc bB 73 (zeros n)) := hJB
    have B0 : Hid (Below w.heap.size w wc) := hB
    have Hne : Hid (bA ≠ bB) := hne
    have HgA : Hid (w.heap.size ≤ bA) := hgA
    have HgB : Hid (w.heap.size ≤ bB) := hgB
    clear hJA hJB hB hne hgA hgB
    go_wp2_with fail
    go_loopg [20] n (fun gk v20 wr => ∃ i : Nat, gk + i = n ∧ v20 = .int .i64 (i : Int) ∧ AllR S M xs ns i ∧ code S M xs ns = code S M (xs.drop i) (ns.drop i) ∧ IHolds wr bA 73 (numC (nums (xs.take i)) ++ zeros (n - i)) ∧ IHolds wr bB 73 (numC (nums (ns.take i)) ++ zeros (n - i)) ∧ Below w.heap.size w wr)
    case atStart => exact ⟨0, by omega, rfl, fun j h => by omega, rfl, JA.out, JB.out, B0.out⟩
    case round =>
      clear JA JB B0
      obtain ⟨i, hi, rfl, hR, hC, hJA, hJB, hB⟩ := hrel
      have JA : Hid (IHolds wr bA 73 (numC (nums (xs.take i)) ++ zeros (n - i))) := hJA
      have JB : Hid (IHolds wr bB 73 (numC (nums (ns.take i)) ++ zeros (n - i))) := hJB
      have B0 : Hid (Below w.heap.size w wr) := hB
      have HR : Hid (AllR S M xs ns i) := hR
      have HC : Hid (code S M xs ns = code S M (xs.drop i) (ns.drop i)) := hC
      clear hJA hJB hB hR hC
      by_cases hin : i < n
      · have k1 : (i : Int) < (n : Int) := by omega
        have F1 : Hid (GH wr g S Wd M low one sq Wd2 M2 low2 one2 sq2) := aG F B0.out
        have HC2 : Hid (code S M xs ns = if isEl S M (tx xs i) then (if isSc S M (tx ns i) then code S M (xs.drop (i + 1)) (ns.drop (i + 1)) else 6) else 7) := by
          show _ = _
          rw [HC.out]; exact code_step (by rw [Hlx.out]; exact hin) (by rw [Hln.out]; exact hin)
        obtain ⟨bx, ox, rfl, hcx⟩ := HX.out i (by rw [Hlx.out]; exact hin)
        obtain ⟨bn, on, rfl, hcn⟩ := HN.out i (by rw [Hln.out]; exact hin)
        have hbx : bx < w.heap.size := World.block_lt_of_cell? w ⟨bx, ox + i, none⟩ hcx
        have hbn : bn < w.heap.size := World.block_lt_of_cell? w ⟨bn, on + i, none⟩ hcn
        have Hcn : Hid (w.cell? ⟨bn, on + i, none⟩ = some (.string (tx ns i))) := hcn
        have Hbn : Hid (bn < w.heap.size) := hbn
        have zx : wr.cell? ⟨bx, ox + i, none⟩ = some (.string (tx xs i)) := by rw [B0.out.cell hbx]; exact hcx
        have hz : n - i = (n - i - 1) + 1 := by omega
        have HlA : Hid ((nums (xs.take i)).length = i) := nums_take_len xs i (by rw [Hlx.out]; omega)
        have HlB : Hid ((nums (ns.take i)).length = i) := nums_take_len ns i (by rw [Hln.out]; omega)
        have HtA : Hid (nums (xs.take (i + 1)) = nums (xs.take i) ++ [numS (tx xs i)]) := nums_take xs i (by rw [Hlx.out]; exact hin)
        have HtB : Hid (nums (ns.take (i + 1)) = nums (ns.take i) ++ [numS (tx ns i)]) := nums_take ns i (by rw [Hln.out]; exact hin)
        rw [hz] at JA JB
        have Hz2 : Hid (n - i - 1 = n - (i + 1)) := by show _ = _; omega
        obtain ⟨X, hX⟩ : ∃ X, X = (if isEl S M (tx xs i) then numS (tx xs i) else 0) := ⟨_, rfl⟩
        have C1 : Hid (Calls Tryz.prog 36 #[.pointer (some ⟨g, 0, none⟩), .string (tx xs i)] wr fun e w' => e = .returned (.tuple #[.agg #[U (w4 X 0), U (w4 X 1), U (w4 X 2), U (w4 X 3)], .int .i64 (if isEl S M (tx xs i) then 0 else 7)]) ∧ Below wr.heap.size wr w') := by
          have q := CE.out wr (tx xs i) F1.out
          rw [← hX] at q
          exact q
        have HXe : Hid (X = (if isEl S M (tx xs i) then numS (tx xs i) else 0)) := hX
        clear hX hcx hcn hbx hbn hz
        obtain ⟨q, hq⟩ : ∃ q, q = i * 4 := ⟨_, rfl⟩
        have kq : (i : Int) * 4 = (q : Int) := by omega
        have kq2 : ((i : Int) * 4).toNat = q := by omega
        have kq3 : (i : Int).toNat * 4 = q := by omega
        have kq4 : i * 4 = q := hq.symm
        have Hq : Hid (q = i * 4) := hq
        clear hq
        go_wp2_with fail
        clear zx
        refine C1.out.mono ?_
        rintro e V1 ⟨rfl, hb⟩
        replace B0 := aB B0 hb
        replace F1 := aG F1 hb
        replace JA := aJ JA hb
        replace JB := aJ JB hb
        clear hb C1
        have zA0 : V1.cell? ⟨bA, q, none⟩ = some (.int .u64 0) := by have h := zero_cell JA.out (j := 0) (by omega); rw [HlA.out, kq4] at h; exact h
        have zA1 : V1.cell? ⟨bA, q + 1, none⟩ = some (.int .u64 0) := by have h := zero_cell JA.out (j := 1) (by omega); rw [HlA.out, kq4] at h; exact h
        have zA2 : V1.cell? ⟨bA, q + 2, none⟩ = some (.int .u64 0) := by have h := zero_cell JA.out (j := 2) (by omega); rw [HlA.out, kq4] at h; exact h
        have zA3 : V1.cell? ⟨bA, q + 3, none⟩ = some (.int .u64 0) := by have h := zero_cell JA.out (j := 3) (by omega); rw [HlA.out, kq4] at h; exact h
        have fA := fJ JA
        have hBut : But bA V1 (((((V1.setCell ⟨bA, q, none⟩ (U (w4 X 0))).setCell ⟨bA, q + 1, none⟩ (U (w4 X 1))).setCell ⟨bA, q + 2, none⟩ (U (w4 X 2))).setCell ⟨bA, q + 3, none⟩ (U (w4 X 3)))) := ((((But.refl _ V1).setCell q _).setCell (q + 1) _).setCell (q + 2) _).setCell (q + 3) _
        have JA2 : Hid (IHolds (((((V1.setCell ⟨bA, q, none⟩ (U (w4 X 0))).setCell ⟨bA, q + 1, none⟩ (U (w4 X 1))).setCell ⟨bA, q + 2, none⟩ (U (w4 X 2))).setCell ⟨bA, q + 3, none⟩ (U (w4 X 3)))) bA 73 (numC (nums (xs.take i) ++ [X]) ++ zeros (n - i - 1))) := by
          show IHolds _ _ _ _
          rw [← put_at, HlA.out, kq4]
          exact (((JA.out.set q _).set (q + 1) _).set (q + 2) _).set (q + 3) _
        have B2 : Hid (Below w.heap.size w (((((V1.setCell ⟨bA, q, none⟩ (U (w4 X 0))).setCell ⟨bA, q + 1, none⟩ (U (w4 X 1))).setCell ⟨bA, q + 2, none⟩ (U (w4 X 2))).setCell ⟨bA, q + 3, none⟩ (U (w4 X 3))))) := (((B0.out.setCell HgA.out _).setCell HgA.out _).setCell HgA.out _).setCell HgA.out _
        replace JB := tJ JB hBut (fun h => Hne.out h.symm)
        replace F1 := tG F1 hBut (by have h1 := F.out.lt; have h2 := HgA.out; omega)
        clear hBut JA B0
        cases hel : isEl S M (tx xs i)
        · have HCf : Hid (code S M xs ns = 7) := by show _ = _; rw [HC2.out, hel]; rfl
          rw [if_neg (by simp)]
          clear hel
          go_wp2_with fail
          go_ret2
          exact ⟨by rw [HCf.out, prodT, HCf.out]; rfl, B2.out⟩
        · have HelT : Hid (isEl S M (tx xs i) = true) := hel
          rw [if_pos rfl]
          have HXv : Hid (X = numS (tx xs i)) := by show _ = _; rw [HXe.out, hel]; rfl
          have zn : (((((V1.setCell ⟨bA, q, none⟩ (U (w4 X 0))).setCell ⟨bA, q + 1, none⟩ (U (w4 X 1))).setCell ⟨bA, q + 2, none⟩ (U (w4 X 2))).setCell ⟨bA, q + 3, none⟩ (U (w4 X 3)))).cell? ⟨bn, on + i, none⟩ = some (.string (tx ns i)) := by rw [B2.out.cell Hbn.out]; exact Hcn.out
          clear hel
          go_wp2_with fail
          clear zA0 zA1 zA2 zA3 fA zn
          generalize ((((V1.setCell ⟨bA, q, none⟩ (U (w4 X 0))).setCell ⟨bA, q + 1, none⟩ (U (w4 X 1))).setCell ⟨bA, q + 2, none⟩ (U (w4 X 2))).setCell ⟨bA, q + 3, none⟩ (U (w4 X 3))) = V2 at *
          obtain ⟨Y, hY⟩ : ∃ Y, Y = (if isSc S M (tx ns i) then numS (tx ns i) else 0) := ⟨_, rfl⟩
          have C2 : Hid (Calls Tryz.prog 32 #[.pointer (some ⟨g, 0, none⟩), .string (tx ns i)] V2 fun e w' => e = .returned (.tuple #[.agg #[U (w4 Y 0), U (w4 Y 1), U (w4 Y 2), U (w4 Y 3)], .int .i64 (if isSc S M (tx ns i) then 0 else 6)]) ∧ Below V2.heap.size V2 w') := by
            have q := CS.out V2 (tx ns i) F1.out
            rw [← hY] at q
            exact q
          have HYe : Hid (Y = (if isSc S M (tx ns i) then numS (tx ns i) else 0)) := hY
          clear hY
          refine C2.out.mono ?_
          rintro e V3 ⟨rfl, hb⟩
          replace B2 := aB B2 hb
          replace F1 := aG F1 hb
          replace JA2 := aJ JA2 hb
          replace JB := aJ JB hb
          clear hb C2
          have zA0 : V3.cell? ⟨bB, q, none⟩ = some (.int .u64 0) := by have h := zero_cell JB.out (j := 0) (by omega); rw [HlB.out, kq4] at h; exact h
          have zA1 : V3.cell? ⟨bB, q + 1, none⟩ = some (.int .u64 0) := by have h := zero_cell JB.out (j := 1) (by omega); rw [HlB.out, kq4] at h; exact h
          have zA2 : V3.cell? ⟨bB, q + 2, none⟩ = some (.int .u64 0) := by have h := zero_cell JB.out (j := 2) (by omega); rw [HlB.out, kq4] at h; exact h
          have zA3 : V3.cell? ⟨bB, q + 3, none⟩ = some (.int .u64 0) := by have h := zero_cell JB.out (j := 3) (by omega); rw [HlB.out, kq4] at h; exact h
          have fA := fJ JB
          have hBut : But bB V3 (((((V3.setCell ⟨bB, q, none⟩ (U (w4 Y 0))).setCell ⟨bB, q + 1, none⟩ (U (w4 Y 1))).setCell ⟨bB, q + 2, none⟩ (U (w4 Y 2))).setCell ⟨bB, q + 3, none⟩ (U (w4 Y 3)))) := ((((But.refl _ V3).setCell q _).setCell (q + 1) _).setCell (q + 2) _).setCell (q + 3) _
          have JB2 : Hid (IHolds (((((V3.setCell ⟨bB, q, none⟩ (U (w4 Y 0))).setCell ⟨bB, q + 1, none⟩ (U (w4 Y 1))).setCell ⟨bB, q + 2, none⟩ (U (w4 Y 2))).setCell ⟨bB, q + 3, none⟩ (U (w4 Y 3)))) bB 73 (numC (nums (ns.take i) ++ [Y]) ++ zeros (n - i - 1))) := by
            show IHolds _ _ _ _
            rw [← put_at, HlB.out, kq4]
            exact (((JB.out.set q _).set (q + 1) _).set (q + 2) _).set (q + 3) _
          have B3 : Hid (Below w.heap.size w (((((V3.setCell ⟨bB, q, none⟩ (U (w4 Y 0))).setCell ⟨bB, q + 1, none⟩ (U (w4 Y 1))).setCell ⟨bB, q + 2, none⟩ (U (w4 Y 2))).setCell ⟨bB, q + 3, none⟩ (U (w4 Y 3))))) := (((B2.out.setCell HgB.out _).setCell HgB.out _).setCell HgB.out _).setCell HgB.out _
          replace JA2 := tJ JA2 hBut Hne.out
          clear hBut JB B2 F1
          cases hsc : isSc S M (tx ns i)
          · have HCf : Hid (code S M xs ns = 6) := by show _ = _; rw [HC2.out, HelT.out, hsc]; rfl
            rw [if_neg (by simp)]
            clear hsc
            go_wp2_with fail
            go_ret2
            exact ⟨by rw [HCf.out, prodT, HCf.out]; rfl, B3.out⟩
          · rw [if_pos rfl]
            have HYv : Hid (Y = numS (tx ns i)) := by show _ = _; rw [HYe.out, hsc]; rfl
            have HC3 : Hid (code S M xs ns = code S M (xs.drop (i + 1)) (ns.drop (i + 1))) := by show _ = _; rw [HC2.out, HelT.out, hsc]; rfl
            have HR3 : Hid (AllR S M xs ns (i + 1)) := fun j hj => by
              by_cases e : j = i
              · rw [e]; exact ⟨HelT.out, hsc⟩
              · exact HR.out j (by omega)
            clear hsc
            go_wp2_with fail
            clear zA0 zA1 zA2 zA3 fA
            generalize ((((V3.setCell ⟨bB, q, none⟩ (U (w4 Y 0))).setCell ⟨bB, q + 1, none⟩ (U (w4 Y 1))).setCell ⟨bB, q + 2, none⟩ (U (w4 Y 2))).setCell ⟨bB, q + 3, none⟩ (U (w4 Y 3))) = V4 at *
            go_roundg (gk - 1)
            case measure => omega
            case rel => exact ⟨i + 1, by omega, by first | rfl | go_num, HR3.out, HC3.out, by rw [HtA.out, ← HXv.out, ← Hz2.out]; exact JA2.out, by rw [HtB.out, ← HYv.out, ← Hz2.out]; exact JB2.out, B3.out⟩
      · have k1 : ¬ (i : Int) < (n : Int) := by omega
        have ein : i = n := by omega
        subst ein
        have HCz : Hid (code S M xs ns = 0) := by show _ = _; rw [HC.out]; exact code_end (by rw [Hlx.out]; exact Nat.le_refl _)
        have ex : xs.take i = xs := List.take_of_length_le (by rw [Hlx.out]; exact Nat.le_refl _)
        have en : ns.take i = ns := List.take_of_length_le (by rw [Hln.out]; exact Nat.le_refl _)
        have ez : zeros (i - i) = [] := by rw [Nat.sub_self]; rfl
        rw [ex, ez, List.append_nil] at JA
        rw [en, ez, List.append_nil] at JB
        have NVA : Hid (NumsV wr (nums xs) (.slice (some ⟨bA, 0, none⟩) i i)) := NumsV.of_holds JA.out (by simp [nums, Hlx.out]) (by omega)
        have NVB : Hid (NumsV wr (nums ns) (.slice (some ⟨bB, 0, none⟩) i i)) := NumsV.of_holds JB.out (by simp [nums, Hln.out]) (by omega)
        have F1 : Hid (GH wr g S Wd M low one sq Wd2 M2 low2 one2 sq2) := aG F B0.out
        have HPT : Hid (prodT S M M2 xs ns = ⟨(beB S (sgn M M2 (powP (nums xs) (nums ns) i % M2))).toArray⟩) := by
          show _ = _
          rw [prodT, HCz.out, if_pos rfl, Hlx.out]
        obtain ⟨P, hP⟩ : ∃ P, P = powP (nums xs) (nums ns) i % M2 := ⟨_, rfl⟩
        rw [← hP] at CP CT HPT
        have CP1 : Hid (Calls Tryz.prog 69 #[.pointer (some ⟨g, 15, none⟩), .slice (some ⟨bA, 0, none⟩) i i, .slice (some ⟨bB, 0, none⟩) i i] wr fun e w' => e = .returned (.agg #[U (w4 P 0), U (w4 P 1), U (w4 P 2), U (w4 P 3)]) ∧ Below wr.heap.size wr w') := CP.out wr _ _ HR.out F1.out NVA.out NVB.out
        have CT1 : Hid (∀ W, GH W g S Wd M low one sq Wd2 M2 low2 one2 sq2 → Calls Tryz.prog 68 #[.pointer (some ⟨g, 0, none⟩), .agg #[U (w4 P 0), U (w4 P 1), U (w4 P 2), U (w4 P 3)]] W fun e w' => e = .returned (.tuple #[.string ⟨(beB S (sgn M M2 P)).toArray⟩, .int .i64 0]) ∧ Below W.heap.size W w') := CT
        rw [← HPT.out] at CT1
        clear ex en ez hP CP CT
        go_wp2_with fail
        refine CP1.out.mono ?_
        rintro e V5 ⟨rfl, hb⟩
        replace B0 := aB B0 hb
        replace F1 := aG F1 hb
        clear hb CP1
        go_wp2_with fail
        refine (CT1.out V5 F1.out).mono ?_
        rintro e V6 ⟨rfl, hb⟩
        replace B0 := aB B0 hb
        clear hb CT1
        go_wp2_with fail
        go_ret2
        exact ⟨by rw [HCz.out]; rfl, B0.out⟩
end
end Go.Proofs.YtmpiipcllgjhdaaGreatDoor
