/- The group's faces, with texts of numbers. -/
import Derived.Test.YtghkjjhnokjjiaaKindsX
import Derived.Test.YtghkjjhnokjjiaaTx
import Derived.Test.YtghkjjhnokjjiaaProdFX
import Derived.Test.YtghkjjhnokjjiaaPrime
import Derived.Test.YtghkjjhnokjjiaaSgn
import Derived.Test.YtghkjjhnokjjiaaBalL
set_option linter.unusedSimpArgs false
set_option linter.unusedVariables false
namespace Go.Proofs.Ytghkjjhnokjjiaa
open Go.RowKit Go.Deep Go.PlainAid

section
variable {z : Int} {G : Array Value} {S Wd M low one sq Ri Wd2 M2 low2 one2 sq2 Ri2 : Nat}
theorem scal_call (k : KD z G S Wd M low one sq Ri Wd2 M2 low2 one2 sq2 Ri2) (w : World) (s : ByteArray) : Calls Try.prog 13 #[.int .i64 z, .string s] w fun e w' => e = .returned (.bool (isSc S M s)) ∧ Below w.heap.size w w' :=
  scalar_face (c := if isSc S M s then 0 else 6) (by cases isSc S M s <;> rfl) (fun W cp hc => on57_58 hc k.hG k.hi k.h1 k.CG (fun W g hI hc => clos58 hc (fun W' hb => scalarA ((k.gh W g hI).of_below hb) s k.hS k.big)))
theorem num_call (k : KD z G S Wd M low one sq Ri Wd2 M2 low2 one2 sq2 Ri2) (w : World) (n : Int) (n1 : -9223372036854775808 ≤ n) (n2 : n ≤ 9223372036854775807) : Calls Try.prog 46 #[.int .i64 z, .int .i64 n] w fun e w' => e = .returned (.tuple #[.string (TX S (numF M n)), .int .i64 0]) ∧ Below w.heap.size w w' :=
  number_face (fun W cp hc => on48_52 hc k.hG k.hi k.h1 k.CG (fun W g hI hc => clos52 hc (fun W' hb => fnumberA ((k.gh W g hI).of_below hb).fs k.fl n n1 n2) (fun W' hb => toldA ((k.gh W g hI).of_below hb).c k.hS (Nat.lt_trans (numF_lt k.m2) k.big))))
theorem size_call (k : KD z G S Wd M low one sq Ri Wd2 M2 low2 one2 sq2 Ri2) (w : World) : Calls Try.prog 40 #[.int .i64 z] w fun e w' => e = .returned (.tuple #[.int .i64 (S : Int), .int .i64 (S : Int), .int .i64 0]) ∧ Below w.heap.size w w' :=
  sizes_call (on46_ok k.hG k.hi k.h1 k.CG (fun W g h => sizes_any (k.gh W g h).c))
theorem numF_nat {M k : Nat} (h : k < M) : numF M (k : Int) = k := by
  unfold numF
  rw [if_neg (by omega), Int.toNat_natCast, Nat.mod_eq_of_lt h]
theorem zero_call (k : KD z G S Wd M low one sq Ri Wd2 M2 low2 one2 sq2 Ri2) (w : World) : Calls Try.prog 46 #[.int .i64 z, .int .i64 0] w fun e w' => e = .returned (.tuple #[.string (TX S 0), .int .i64 0]) ∧ Below w.heap.size w w' := by
  have q := num_call k w 0 (by omega) (by omega)
  rw [show (0 : Int) = ((0 : Nat) : Int) from rfl, numF_nat (by have := k.m2; omega)] at q
  exact q
theorem one_call (k : KD z G S Wd M low one sq Ri Wd2 M2 low2 one2 sq2 Ri2) (w : World) : Calls Try.prog 46 #[.int .i64 z, .int .i64 1] w fun e w' => e = .returned (.tuple #[.string (TX S 1), .int .i64 0]) ∧ Below w.heap.size w w' := by
  have q := num_call k w 1 (by omega) (by omega)
  rw [show (1 : Int) = ((1 : Nat) : Int) from rfl, numF_nat (by have := k.m2; omega)] at q
  exact q
theorem KD.sc (k : KD z G S Wd M low one sq Ri Wd2 M2 low2 one2 sq2 Ri2) {n : Nat} (h : n < M) : isSc S M (TX S n) = true := isSc_TX h k.sz
theorem KD.nu (k : KD z G S Wd M low one sq Ri Wd2 M2 low2 one2 sq2 Ri2) {n : Nat} (h : n < M) : numS (TX S n) = n := numS_TX (Nat.lt_of_lt_of_le h k.sz)
theorem as_TX {S M : Nat} {a : ByteArray} (h : isSc S M a = true) : ∃ A, A < M ∧ a = TX S A := ⟨numS a, isSc_lt h, (TX_numS (isSc_size h)).symm⟩
theorem memb_call (k : KD z G S Wd M low one sq Ri Wd2 M2 low2 one2 sq2 Ri2) (w : World) (s : ByteArray) : Calls Try.prog 41 #[.int .i64 z, .string s] w fun e w' => e = .returned (.bool (isEl S M s)) ∧ Below w.heap.size w w' :=
  member_face (c := if isEl S M s then 0 else 7) (by cases isEl S M s <;> rfl) (fun W cp hc => on57_60 hc k.hG k.hi k.h1 k.CG (fun W g hI hc => clos60 hc (fun W' hb => elemA ((k.gh W g hI).of_below hb) s k.hS k.big)))
theorem bas_call (k : KD z G S Wd M low one sq Ri Wd2 M2 low2 one2 sq2 Ri2) (w : World) : Calls Try.prog 9 #[.int .i64 z] w fun e w' => e = .returned (.tuple #[.string (TX S 2), .int .i64 0]) ∧ Below w.heap.size w w' :=
  base_call (on48_51 k.hG k.hi k.h1 k.CG (fun W g h => base_any (k.gh W g h).c k.hS))
theorem KD.e2 (k : KD z G S Wd M low one sq Ri Wd2 M2 low2 one2 sq2 Ri2) {n : Nat} (h : n ≤ M) : n < M2 := by have := k.m21; omega
theorem KD.ee (k : KD z G S Wd M low one sq Ri Wd2 M2 low2 one2 sq2 Ri2) (hs : M < 256 ^ S) {n : Nat} (h0 : n ≠ 0) (h : n ≤ M) : isEl S M (TX S n) = true := decide_eq_true ⟨size_TX S n, by rw [numS_TX (Nat.lt_of_le_of_lt h hs)]; exact h0, by rw [numS_TX (Nat.lt_of_le_of_lt h hs)]; exact h⟩
theorem KD.en (k : KD z G S Wd M low one sq Ri Wd2 M2 low2 one2 sq2 Ri2) (hs : M < 256 ^ S) {n : Nat} (h : n ≤ M) : numS (TX S n) = n := numS_TX (Nat.lt_of_le_of_lt h hs)
theorem as_EX {S M : Nat} {a : ByteArray} (h : isEl S M a = true) : ∃ A, A ≠ 0 ∧ A ≤ M ∧ a = TX S A := ⟨numS a, isEl_pos h, isEl_le h, (TX_numS (isEl_size h)).symm⟩
theorem SAt.two {W : World} {b : Nat} {x y : ByteArray} (h : IHolds W b 9 [.string x, .string y]) : SAt W (some ⟨b, 0, none⟩) [x, y] := by
  intro i hi
  refine ⟨b, 0, rfl, ?_⟩
  match i, hi with
  | 0, _ => exact h.cell 0 (by simp)
  | 1, _ => exact h.cell 1 (by simp)
end
end Go.Proofs.Ytghkjjhnokjjiaa

/- A cipher hides one number alone, and tells nothing to who does not know the secret: in numbers. -/
set_option linter.unusedSimpArgs false
set_option linter.unusedVariables false
namespace Go.Proofs.Ytghkjjhnokjjiaa

/-- The base's powers, told. -/
def pw2 (M M2 n : Nat) : Nat := sgn M M2 (2 ^ n % M2)
/-- Signs do not matter to squares. -/
theorem sgn_sq {M M2 x y : Nat} (e : M2 = 2 * M + 1) (hx : x < M2) (hy : y < M2) (h : sgn M M2 x = sgn M M2 y) : x * x % M2 = y * y % M2 := by
  have hc : x = y ∨ x + y = M2 := by
    unfold sgn at h
    split at h <;> split at h <;> omega
  rcases hc with rfl | hc
  · rfl
  · have sq : ∀ a t : Nat, (a + t) * (a + t) = a * a + (a + t + a) * t := fun a t => by
      simp only [Nat.mul_add, Nat.add_mul]
      rw [Nat.mul_comm t a]
      omega
    rcases Nat.le_total y x with g | g
    · obtain ⟨t, rfl⟩ : ∃ t, x = y + t := ⟨x - y, by omega⟩
      rw [sq, hc, Nat.add_mul_mod_self_left]
    · obtain ⟨t, rfl⟩ : ∃ t, y = x + t := ⟨y - x, by omega⟩
      rw [sq, show x + t + x = M2 by omega, Nat.add_mul_mod_self_left]
theorem inv_pow {p a : Nat} (hp : IsP p) (ha : ¬ p ∣ a) : a ^ (p - 2) * a % p = 1 := by
  have := hp.1
  rw [← Nat.pow_succ, show (p - 2).succ = p - 1 by omega]
  exact hp.fermat1 ha
theorem cancel_mod {p a b c : Nat} (hp : IsP p) (ha : ¬ p ∣ a) (h : a * b % p = a * c % p) : b % p = c % p := by
  have i := inv_pow hp ha
  have g : ∀ x, x % p = a ^ (p - 2) * (a * x % p) % p := fun x => by
    rw [Nat.mul_mod_mod, ← Nat.mul_assoc, Nat.mul_mod, i, Nat.one_mul, Nat.mod_mod]
  rw [g b, g c, h]
/-- The base's powers are alike only where the numbers are alike but for the order. -/
theorem pw2_inj {M M2 f n : Nat} (hp : IsP M2) (hq : IsP M) (e : M2 = 2 * M + 1) (hfn : f ≤ n) (h : pw2 M M2 f = pw2 M M2 n) : f % M = n % M := by
  have hM := hq.1
  obtain ⟨d, rfl⟩ : ∃ d, n = f + d := ⟨n - f, by omega⟩
  have n2 : ¬ M2 ∣ 2 := hp.not_dvd_lt (by omega) (by omega)
  have q := sgn_sq e (Nat.mod_lt _ (by omega)) (Nat.mod_lt _ (by omega)) h
  rw [← Nat.mul_mod, ← Nat.mul_mod] at q
  have nf : ¬ M2 ∣ 2 ^ f * 2 ^ f := fun g => by
    rcases hp.euclid g with g | g <;> exact hp.not_dvd_pow n2 f g
  have q2 : (2 ^ f * 2 ^ f) * (2 ^ d * 2 ^ d) % M2 = (2 ^ f * 2 ^ f) * 1 % M2 := by
    rw [Nat.mul_one, q, Nat.pow_add, Nat.mul_mul_mul_comm]
  have q3 := cancel_mod hp nf q2
  rw [Nat.mod_eq_of_lt (show 1 < M2 by omega)] at q3
  by_cases hd : M ∣ d
  · obtain ⟨t, rfl⟩ := hd
    exact (Nat.add_mul_mod_self_left _ _ _).symm
  · exfalso
    have i := inv_pow hq hd
    obtain ⟨E, hE⟩ : ∃ E, E = d ^ (M - 2) := ⟨_, rfl⟩
    rw [← hE] at i
    obtain ⟨t, ht⟩ : ∃ t, E * d = M * t + 1 := ⟨E * d / M, by have := Nat.div_add_mod (E * d) M; omega⟩
    have a1 : (2 ^ d * 2 ^ d) ^ E % M2 = 1 := by rw [Nat.pow_mod, q3, Nat.one_pow, Nat.mod_eq_of_lt (by omega)]
    have ex : (d + d) * E = 2 + (M2 - 1) * t := by
      rw [show M2 - 1 = M + M by omega, Nat.add_mul, Nat.add_mul, Nat.mul_comm d E]
      omega
    rw [← Nat.pow_add, ← Nat.pow_mul, ex, Nat.pow_add, Nat.pow_mul, Nat.mul_mod, Nat.pow_mod (2 ^ (M2 - 1)), hp.fermat1 n2, Nat.one_pow, Nat.mod_eq_of_lt (show 1 < M2 by omega), Nat.mul_one, Nat.mod_mod, Nat.mod_eq_of_lt (show 2 ^ 2 < M2 by omega)] at a1
    omega

/-- An element, of a number that is not 0 modulo the prime. -/
def E (M M2 x : Nat) : Nat := sgn M M2 (x % M2)
theorem E_mod {M M2 x y : Nat} (h : x % M2 = y % M2) : E M M2 x = E M M2 y := by unfold E; rw [h]
theorem E_left {M M2 x y : Nat} (e : M2 = 2 * M + 1) : sgn M M2 (E M M2 x * y % M2) = E M M2 (x * y) := by
  unfold E
  rw [sgn_mul_left e (Nat.mod_lt _ (by omega)), Nat.mod_mul_mod]
theorem E_cancel {M M2 x x' y : Nat} (hp : IsP M2) (e : M2 = 2 * M + 1) (hy : ¬ M2 ∣ y) (h : E M M2 (x * y) = E M M2 (x' * y)) : E M M2 x = E M M2 x' := by
  have i := inv_pow hp hy
  have g : ∀ u, E M M2 u = sgn M M2 (E M M2 (u * y) * y ^ (M2 - 2) % M2) := fun u => by
    rw [E_left e]
    refine E_mod ?_
    rw [Nat.mul_assoc, Nat.mul_comm y, Nat.mul_mod, i, Nat.mul_one, Nat.mod_mod]
  rw [g x, g x', h]
theorem n2 {M M2 : Nat} (hp : IsP M2) (hq : IsP M) (e : M2 = 2 * M + 1) : ¬ M2 ∣ 2 := hp.not_dvd_lt (by omega) (by have := hq.1; omega)
theorem n2p {M M2 : Nat} (hp : IsP M2) (hq : IsP M) (e : M2 = 2 * M + 1) (k : Nat) : ¬ M2 ∣ 2 ^ k := hp.not_dvd_pow (n2 hp hq e) k
theorem E_exp {M M2 k : Nat} (hp : IsP M2) (hq : IsP M) (e : M2 = 2 * M + 1) : E M M2 (2 ^ k) = E M M2 (2 ^ (k % M)) := sgn_exp hp e (by have := hq.1; omega) (by omega) (by have := hq.1; omega) k
theorem E_same {M M2 k l : Nat} (hp : IsP M2) (hq : IsP M) (e : M2 = 2 * M + 1) (h : k % M = l % M) : E M M2 (2 ^ k) = E M M2 (2 ^ l) := by rw [E_exp hp hq e, h, ← E_exp hp hq e]
theorem E_inj {M M2 k l : Nat} (hp : IsP M2) (hq : IsP M) (e : M2 = 2 * M + 1) (hk : k < M) (hl : l < M) (h : E M M2 (2 ^ k) = E M M2 (2 ^ l)) : k = l := by
  rcases Nat.le_total k l with g | g
  · have := pw2_inj hp hq e g h
    rwa [Nat.mod_eq_of_lt hk, Nat.mod_eq_of_lt hl] at this
  · have := pw2_inj hp hq e g h.symm
    rw [Nat.mod_eq_of_lt hk, Nat.mod_eq_of_lt hl] at this
    exact this.symm
theorem E_undo {M M2 x y : Nat} (hp : IsP M2) (hy : ¬ M2 ∣ y) : E M M2 (x * y * y ^ (M2 - 2)) = E M M2 x := by
  refine E_mod ?_
  rw [Nat.mul_assoc, Nat.mul_comm y, Nat.mul_mod, inv_pow hp hy, Nat.mul_one, Nat.mod_mod]
/-! What is hidden comes out, and that alone. -/
theorem dec1 {M M2 x s v : Nat} (hp : IsP M2) (hq : IsP M) (e : M2 = 2 * M + 1) : E M M2 (2 ^ x * (2 ^ s) ^ v * ((2 ^ v) ^ s) ^ (M2 - 2)) = E M M2 (2 ^ x) := by
  rw [← Nat.pow_mul 2 s v, ← Nat.pow_mul 2 v s, Nat.mul_comm v s]
  exact E_undo hp (n2p hp hq e _)
theorem dec2 {M M2 x s v w : Nat} (hp : IsP M2) (hq : IsP M) (e : M2 = 2 * M + 1) : E M M2 (2 ^ x * (2 ^ s) ^ v * (2 ^ 0 * (2 ^ s) ^ w) * ((2 ^ v * 2 ^ w) ^ s) ^ (M2 - 2)) = E M M2 (2 ^ x) := by
  have h : 2 ^ x * (2 ^ s) ^ v * (2 ^ 0 * (2 ^ s) ^ w) = 2 ^ x * 2 ^ (s * (v + w)) := by
    rw [Nat.pow_zero, Nat.one_mul, Nat.mul_assoc, ← Nat.pow_mul, ← Nat.pow_mul, ← Nat.pow_add, Nat.mul_add]
  rw [h, ← Nat.pow_add 2 v w, ← Nat.pow_mul 2 (v + w) s, Nat.mul_comm (v + w) s]
  exact E_undo hp (n2p hp hq e _)
theorem bind_iff {M M2 x y s v w : Nat} (hp : IsP M2) (hq : IsP M) (e : M2 = 2 * M + 1) (hx : x < M) (hy : y < M) (hv : v < M) (hw : w < M) :
    (E M M2 (2 ^ v) = E M M2 (2 ^ w) ∧ E M M2 (2 ^ x * (2 ^ s) ^ v) = E M M2 (2 ^ y * (2 ^ s) ^ w)) ↔ (x = y ∧ v = w) := by
  constructor
  · rintro ⟨h1, h2⟩
    obtain rfl := E_inj hp hq e hv hw h1
    rw [← Nat.pow_mul 2 s v] at h2
    exact ⟨E_inj hp hq e hx hy (E_cancel hp e (n2p hp hq e _) h2), rfl⟩
  · rintro ⟨rfl, rfl⟩
    exact ⟨rfl, rfl⟩
/-- The secret with which a cipher hides another number. -/
def other (M s n x y : Nat) : Nat := ((s * n % M + x) % M + M - y) % M * (n ^ (M - 2) % M) % M
theorem other_mul {M s n x y : Nat} (hq : IsP M) (n0 : n ≠ 0) (hn : n < M) : other M s n x y * n % M = ((s * n % M + x) % M + M - y) % M := by
  have i := inv_pow hq (hq.not_dvd_lt (by omega) hn)
  unfold other
  generalize ((s * n % M + x) % M + M - y) = t
  rw [Nat.mod_mul_mod, Nat.mul_assoc, Nat.mod_mul_mod, Nat.mul_mod, Nat.mod_mul_mod (n ^ (M - 2)), i, Nat.mul_one, Nat.mod_mod]
theorem other_sum {M s n x y : Nat} (hq : IsP M) (n0 : n ≠ 0) (hn : n < M) (hy : y < M) : (y + other M s n x y * n) % M = (x + s * n) % M := by
  rw [Nat.add_mod, other_mul hq n0 hn, Nat.add_mod_mod, Nat.add_comm (y % M), Nat.mod_add_mod, Nat.mod_eq_of_lt hy, Nat.sub_add_cancel (by omega), Nat.add_mod_right, Nat.mod_mod, Nat.add_comm (s * n)]
theorem counts_eq {M M2 s n x y : Nat} (hp : IsP M2) (hq : IsP M) (e : M2 = 2 * M + 1) (n0 : n ≠ 0) (hn : n < M) (hy : y < M) : E M M2 (2 ^ y * (2 ^ other M s n x y) ^ n) = E M M2 (2 ^ x * (2 ^ s) ^ n) := by
  rw [← Nat.pow_mul, ← Nat.pow_mul, ← Nat.pow_add, ← Nat.pow_add]
  exact E_same hp hq e (other_sum hq n0 hn hy)
theorem other_lt {M s n x y : Nat} (hq : IsP M) : other M s n x y < M := Nat.mod_lt _ (by have := hq.1; omega)
theorem other_self {M s n x : Nat} (hq : IsP M) (n0 : n ≠ 0) (hn : n < M) (hs : s < M) (hx : x < M) : other M s n x x = s := by
  have h := other_sum (s := s) (x := x) hq n0 hn hx
  have h2 : n * other M s n x x % M = n * s % M := by
    have a : (other M s n x x * n) % M = s * n % M := by
      rw [other_mul hq n0 hn]
      have l : s * n % M < M := Nat.mod_lt _ (by omega)
      generalize s * n % M = t at *
      by_cases g : t + x < M
      · rw [Nat.mod_eq_of_lt g, show t + x + M - x = t + M by omega, Nat.add_mod_right, Nat.mod_eq_of_lt l]
      · have : (t + x) % M = t + x - M := by rw [Nat.mod_eq_sub_mod (by omega), Nat.mod_eq_of_lt (by omega)]
        rw [this, show t + x - M + M - x = t by omega, Nat.mod_eq_of_lt l]
    rw [Nat.mul_comm n, a, Nat.mul_comm]
  have := cancel_mod hq (hq.not_dvd_lt (by omega) hn) h2
  rwa [Nat.mod_eq_of_lt (other_lt hq), Nat.mod_eq_of_lt hs] at this
theorem other_inj {M s n x y : Nat} (hq : IsP M) (n0 : n ≠ 0) (hn : n < M) (hx : x < M) (hy : y < M) (h : other M s n x y = s) : x = y := by
  have q := other_sum (s := s) (x := x) hq n0 hn hy
  rw [h] at q
  have q2 : y % M = x % M := by
    have l : s * n % M < M := Nat.mod_lt _ (by omega)
    rw [Nat.add_mod y, Nat.add_mod x, Nat.mod_eq_of_lt hx, Nat.mod_eq_of_lt hy] at q
    generalize s * n % M = t at *
    rw [Nat.mod_eq_of_lt hx, Nat.mod_eq_of_lt hy]
    by_cases g1 : y + t < M
    · rw [Nat.mod_eq_of_lt g1] at q
      by_cases g2 : x + t < M
      · rw [Nat.mod_eq_of_lt g2] at q; omega
      · rw [Nat.mod_eq_sub_mod (by omega), Nat.mod_eq_of_lt (show x + t - M < M by omega)] at q; omega
    · rw [Nat.mod_eq_sub_mod (show y + t ≥ M by omega), Nat.mod_eq_of_lt (show y + t - M < M by omega)] at q
      by_cases g2 : x + t < M
      · rw [Nat.mod_eq_of_lt g2] at q; omega
      · rw [Nat.mod_eq_sub_mod (by omega), Nat.mod_eq_of_lt (show x + t - M < M by omega)] at q; omega
  rw [Nat.mod_eq_of_lt hx, Nat.mod_eq_of_lt hy] at q2
  exact q2.symm
theorem counts_iff {M M2 s n x y : Nat} (hp : IsP M2) (hq : IsP M) (e : M2 = 2 * M + 1) (n0 : n ≠ 0) (hn : n < M) (hs : s < M) (hx : x < M) (hy : y < M) : x = y ↔ E M M2 (2 ^ other M s n x y) = E M M2 (2 ^ s) := by
  constructor
  · rintro rfl; rw [other_self hq n0 hn hs hx]
  · intro h
    exact other_inj hq n0 hn hx hy (E_inj hp hq e (other_lt hq) hs h)
end Go.Proofs.Ytghkjjhnokjjiaa

/- A cipher hides one number alone, and tells nothing to who does not know the secret: the laws, of every kind. -/
set_option linter.unusedSimpArgs false
set_option linter.unusedVariables false
set_option maxRecDepth 100000
namespace Go.Proofs.Ytghkjjhnokjjiaa
open Go.RowKit Go.Deep Go.PlainAid

section
variable {z : Int} {G : Array Value} {S Wd M low one sq Ri Wd2 M2 low2 one2 sq2 Ri2 : Nat}
/-- An element's text. -/
def EX (S M M2 x : Nat) : ByteArray := TX S (E M M2 x)
/-- What a kind's primes are. -/
structure PK (S M M2 : Nat) : Prop where
  hp : IsP M2
  hq : IsP M
  e2 : M2 = 2 * M + 1
  hs : M < 256 ^ S
theorem PK.m1 {S M M2 : Nat} (h : PK S M M2) : 2 ≤ M := h.hq.1
theorem PK.ml {S M M2 : Nat} (h : PK S M M2) (x : Nat) : x % M2 < M2 := Nat.mod_lt _ (by have := h.e2; omega)
theorem PK.sl {S M M2 : Nat} (h : PK S M M2) (x : Nat) : E M M2 x ≤ M := sgn_le h.e2 (h.ml x)
theorem PK.sp {S M M2 : Nat} (h : PK S M M2) {x : Nat} (hx : ¬ M2 ∣ x) : E M M2 x ≠ 0 := sgn_pos h.e2 (fun q => hx (Nat.dvd_of_mod_eq_zero q)) (h.ml x)
theorem PK.np {S M M2 : Nat} (h : PK S M M2) {x : Nat} (hx : ¬ M2 ∣ x) (t : Nat) : ¬ M2 ∣ x ^ t := h.hp.not_dvd_pow hx t
theorem PK.nm {S M M2 : Nat} (h : PK S M M2) {x y : Nat} (hx : ¬ M2 ∣ x) (hy : ¬ M2 ∣ y) : ¬ M2 ∣ x * y := fun q => by
  rcases h.hp.euclid q with g | g
  · exact hx g
  · exact hy g
theorem PK.n2 {S M M2 : Nat} (h : PK S M M2) : ¬ M2 ∣ 2 := Go.Proofs.Ytghkjjhnokjjiaa.n2 h.hp h.hq h.e2
theorem PK.two {S M M2 : Nat} (h : PK S M M2) : EX S M M2 2 = TX S 2 := by
  have := h.m1
  have := h.e2
  unfold EX E
  rw [Nat.mod_eq_of_lt (by omega), sgn_low h.m1]
theorem EX_inj {S M M2 x y : Nat} (h : PK S M M2) (he : EX S M M2 x = EX S M M2 y) : E M M2 x = E M M2 y := by
  have q := congrArg numS he
  unfold EX at q
  rwa [numS_TX (Nat.lt_of_le_of_lt (h.sl x) h.hs), numS_TX (Nat.lt_of_le_of_lt (h.sl y) h.hs)] at q
theorem TX_inj {S M M2 x y : Nat} (h : PK S M M2) (hx : x < M) (hy : y < M) (he : TX S x = TX S y) : x = y := by
  have q := congrArg numS he
  rwa [numS_TX (Nat.lt_trans hx h.hs), numS_TX (Nat.lt_trans hy h.hs)] at q
theorem POW (k : KD z G S Wd M low one sq Ri Wd2 M2 low2 one2 sq2 Ri2) (h : PK S M M2) {x t : Nat} (hx : ¬ M2 ∣ x) (ht : t < M) (W : World) :
    Calls Try.prog 10 #[.int .i64 z, .string (EX S M M2 x), .string (TX S t)] W fun e w' => e = .returned (.tuple #[.string (EX S M M2 (x ^ t)), .int .i64 0]) ∧ Below W.heap.size W w' := by
  have q := power_yes k W (k.ee h.hs (h.sp hx) (h.sl x)) (k.sc ht)
  rw [k.en h.hs (h.sl x), k.nu ht] at q
  have e : sgn M M2 (E M M2 x ^ t % M2) = E M M2 (x ^ t) := by
    unfold E
    rw [sgn_pow h.e2 (by have := h.m1; omega) (h.ml x), ← Nat.pow_mod]
  rw [e] at q
  exact q
theorem TIM (k : KD z G S Wd M low one sq Ri Wd2 M2 low2 one2 sq2 Ri2) (h : PK S M M2) {x y : Nat} (hx : ¬ M2 ∣ x) (hy : ¬ M2 ∣ y) (W : World) :
    Calls Try.prog 68 #[.int .i64 z, .string (EX S M M2 x), .string (EX S M M2 y)] W fun e w' => e = .returned (.tuple #[.string (EX S M M2 (x * y)), .int .i64 0]) ∧ Below W.heap.size W w' := by
  have q := times_yes k W (k.ee h.hs (h.sp hx) (h.sl x)) (k.ee h.hs (h.sp hy) (h.sl y))
  rw [k.en h.hs (h.sl x), k.en h.hs (h.sl y)] at q
  have e : sgn M M2 (E M M2 x * E M M2 y % M2) = E M M2 (x * y) := by
    unfold E
    rw [sgn_mul h.e2 (h.ml x) (h.ml y), ← Nat.mul_mod]
  rw [e] at q
  exact q
theorem UND (k : KD z G S Wd M low one sq Ri Wd2 M2 low2 one2 sq2 Ri2) (h : PK S M M2) {x : Nat} (hx : ¬ M2 ∣ x) (W : World) :
    Calls Try.prog 71 #[.int .i64 z, .string (EX S M M2 x)] W fun e w' => e = .returned (.tuple #[.string (EX S M M2 (x ^ (M2 - 2))), .int .i64 0]) ∧ Below W.heap.size W w' := by
  have q := under_yes k W (k.ee h.hs (h.sp hx) (h.sl x))
  rw [k.en h.hs (h.sl x)] at q
  have e : sgn M M2 (E M M2 x ^ (M2 - 2) % M2) = E M M2 (x ^ (M2 - 2)) := by
    unfold E
    rw [sgn_pow h.e2 (by have := h.m1; omega) (h.ml x), ← Nat.pow_mod]
  rw [e] at q
  exact q
theorem PRO (k : KD z G S Wd M low one sq Ri Wd2 M2 low2 one2 sq2 Ri2) (h : PK S M M2) {x y a b : Nat} (hx : ¬ M2 ∣ x) (hy : ¬ M2 ∣ y) (ha : a < M) (hb : b < M) (W : World) (b1 b2 : Nat)
    (h1 : IHolds W b1 9 [.string (EX S M M2 x), .string (EX S M M2 y)]) (h2 : IHolds W b2 9 [.string (TX S a), .string (TX S b)]) :
    Calls Try.prog 42 #[.int .i64 z, .slice (some ⟨b1, 0, none⟩) 2 2, .slice (some ⟨b2, 0, none⟩) 2 2] W fun e w' => e = .returned (.tuple #[.string (EX S M M2 (x ^ a * y ^ b)), .int .i64 0]) ∧ Below W.heap.size W w' := by
  have q := prod_yes k W (n := 2) (cx := 2) (cn := 2) (SAt.two h1) (SAt.two h2) rfl rfl (by omega)
  have ex := k.ee h.hs (h.sp hx) (h.sl x)
  have ey := k.ee h.hs (h.sp hy) (h.sl y)
  have ec : code S M [EX S M M2 x, EX S M M2 y] [TX S a, TX S b] = 0 := by simp [code, EX, ex, ey, k.sc ha, k.sc hb]
  have et : prodT S M M2 [EX S M M2 x, EX S M M2 y] [TX S a, TX S b] = EX S M M2 (x ^ a * y ^ b) := by
    rw [prodT, ec, if_pos rfl]
    have en : powP (nums [EX S M M2 x, EX S M M2 y]) (nums [TX S a, TX S b]) [EX S M M2 x, EX S M M2 y].length = E M M2 x ^ a * E M M2 y ^ b := by
      simp [nums, powP, EX, k.en h.hs (h.sl x), k.en h.hs (h.sl y), k.nu ha, k.nu hb]
    rw [en]
    have M1 : 1 ≤ M := by have := h.m1; omega
    have e : sgn M M2 (E M M2 x ^ a * E M M2 y ^ b % M2) = E M M2 (x ^ a * y ^ b) := by
      have ep : ∀ u c, sgn M M2 (E M M2 u ^ c % M2) = sgn M M2 (u ^ c % M2) := fun u c => by unfold E; rw [sgn_pow h.e2 M1 (h.ml u), ← Nat.pow_mod]
      rw [Nat.mul_mod, ← sgn_mul h.e2 (h.ml _) (h.ml _), ep x a, ep y b, sgn_mul h.e2 (h.ml _) (h.ml _), ← Nat.mul_mod]
      rfl
    rw [e]
    rfl
  rw [ec, et] at q
  exact q
theorem BAS (k : KD z G S Wd M low one sq Ri Wd2 M2 low2 one2 sq2 Ri2) (h : PK S M M2) (W : World) : Calls Try.prog 9 #[.int .i64 z] W fun e w' => e = .returned (.tuple #[.string (EX S M M2 2), .int .i64 0]) ∧ Below W.heap.size W w' := by
  rw [h.two]; exact bas_call k W
theorem SCA (k : KD z G S Wd M low one sq Ri Wd2 M2 low2 one2 sq2 Ri2) {s : ByteArray} {t : Bool} (hs : isSc S M s = t) (W : World) : Calls Try.prog 13 #[.int .i64 z, .string s] W fun e w' => e = .returned (.bool t) ∧ Below W.heap.size W w' := by
  rw [← hs]; exact scal_call k W s
theorem MEM (k : KD z G S Wd M low one sq Ri Wd2 M2 low2 one2 sq2 Ri2) {s : ByteArray} {t : Bool} (hs : isEl S M s = t) (W : World) : Calls Try.prog 41 #[.int .i64 z, .string s] W fun e w' => e = .returned (.bool t) ∧ Below W.heap.size W w' := by
  rw [← hs]; exact memb_call k W s
theorem GRO (k : KD z G S Wd M low one sq Ri Wd2 M2 low2 one2 sq2 Ri2) (W : World) : Calls Try.prog 18 #[.int .i64 z] W fun e w' => e = .returned (.tuple #[.agg #[.int .i64 z], .int .i64 0]) ∧ Below W.heap.size W w' := groundOf18 (fun V => size_call k V)
theorem nEl (k : KD z G S Wd M low one sq Ri Wd2 M2 low2 one2 sq2 Ri2) {s : ByteArray} {t : Bool} (hs : isEl S M s = !t) (W : World) : Calls Try.prog 19 #[.agg #[.int .i64 z], .string s] W fun e w' => e = .returned (.bool t) ∧ Below W.heap.size W w' := by
  have q := noElem19 (w := W) (z := z) (s := s) (q := !t) (fun V => MEM k hs V)
  rwa [Bool.not_not] at q
theorem nSc (k : KD z G S Wd M low one sq Ri Wd2 M2 low2 one2 sq2 Ri2) {s : ByteArray} {t : Bool} (hs : isSc S M s = !t) (W : World) : Calls Try.prog 20 #[.agg #[.int .i64 z], .string s] W fun e w' => e = .returned (.bool t) ∧ Below W.heap.size W w' := by
  have q := noScalar20 (w := W) (z := z) (s := s) (q := !t) (fun V => SCA k hs V)
  rwa [Bool.not_not] at q
theorem elE (k : KD z G S Wd M low one sq Ri Wd2 M2 low2 one2 sq2 Ri2) (h : PK S M M2) {x : Nat} (hx : ¬ M2 ∣ x) : isEl S M (EX S M M2 x) = true := k.ee h.hs (h.sp hx) (h.sl x)
/-- What is hidden. -/
theorem HID (k : KD z G S Wd M low one sq Ri Wd2 M2 low2 one2 sq2 Ri2) (h : PK S M M2) {K X n : Nat} (hK : ¬ M2 ∣ K) (hX : X < M) (hn : n < M) (W : World) :
    Calls Try.prog 21 #[.agg #[.int .i64 z], .string (EX S M M2 K), .string (TX S X), .string (TX S n)] W fun e w' => e = .returned (.agg #[.string (EX S M M2 (2 ^ n)), .string (EX S M M2 (2 ^ X * K ^ n))]) ∧ Below W.heap.size W w' :=
  hide21 (fun V => base43 (fun V => BAS k h V)) (fun V b1 b2 h1 h2 => PRO k h h.n2 hK hX hn V b1 b2 h1 h2) (fun V => power44 (fun V => POW k h h.n2 hn V))
theorem ENC (k : KD z G S Wd M low one sq Ri Wd2 M2 low2 one2 sq2 Ri2) (h : PK S M M2) {K X n : Nat} (hK : ¬ M2 ∣ K) (hX : X < M) (hn : n < M) (W : World) :
    Calls Try.prog 6 #[.int .i64 z, .string (EX S M M2 K), .string (TX S X), .string (TX S n)] W fun e w' => e = .returned (.tuple #[.agg #[.string (EX S M M2 (2 ^ n)), .string (EX S M M2 (2 ^ X * K ^ n))], .int .i64 0]) ∧ Below W.heap.size W w' :=
  enc_ok (fun V => GRO k V) (fun V => nEl k (elE k h hK) V) (fun V => nSc k (k.sc hX) V) (fun V => nSc k (k.sc hn) V) (fun V => HID k h hK hX hn V)
theorem ENC6 (k : KD z G S Wd M low one sq Ri Wd2 M2 low2 one2 sq2 Ri2) (h : PK S M M2) {K : Nat} (hK : ¬ M2 ∣ K) {x n : ByteArray} (hb : isSc S M x = false ∨ isSc S M n = false) (W : World) :
    Calls Try.prog 6 #[.int .i64 z, .string (EX S M M2 K), .string x, .string n] W fun e w' => e = .returned (.tuple #[.agg #[.string ⟨#[]⟩, .string ⟨#[]⟩], .int .i64 6]) ∧ Below W.heap.size W w' := by
  cases hx : isSc S M x with
  | false => exact enc_sc1 (fun V => GRO k V) (fun V => nEl k (elE k h hK) V) (fun V => nSc k hx V)
  | true =>
    rw [hx] at hb
    exact enc_sc2 (fun V => GRO k V) (fun V => nEl k (elE k h hK) V) (fun V => nSc k hx V) (fun V => nSc k (by simpa using hb) V)
theorem PUB (k : KD z G S Wd M low one sq Ri Wd2 M2 low2 one2 sq2 Ri2) (h : PK S M M2) {s : Nat} (hs : s < M) (W : World) :
    Calls Try.prog 5 #[.int .i64 z, .string (TX S s)] W fun e w' => e = .returned (.tuple #[.string (EX S M M2 (2 ^ s)), .int .i64 0]) ∧ Below W.heap.size W w' :=
  public5 (fun V => base17 (fun V => BAS k h V)) (fun V => POW k h h.n2 hs V)
theorem PUB6 (k : KD z G S Wd M low one sq Ri Wd2 M2 low2 one2 sq2 Ri2) (h : PK S M M2) {s : ByteArray} (hs : isSc S M s = false) (W : World) :
    Calls Try.prog 5 #[.int .i64 z, .string s] W fun e w' => e = .returned (.tuple #[.string ⟨#[]⟩, .int .i64 6]) ∧ Below W.heap.size W w' :=
  public5 (fun V => base17 (fun V => BAS k h V)) (fun V => power_nay2 k V (elE k h h.n2) hs)
theorem SHO (k : KD z G S Wd M low one sq Ri Wd2 M2 low2 one2 sq2 Ri2) (h : PK S M M2) {s A B : Nat} (hs : s < M) (hA : ¬ M2 ∣ A) (hB : ¬ M2 ∣ B) (W : World) :
    Calls Try.prog 8 #[.int .i64 z, .string (TX S s), .agg #[.string (EX S M M2 A), .string (EX S M M2 B)]] W fun e w' => e = .returned (.tuple #[.string (EX S M M2 (B * (A ^ s) ^ (M2 - 2))), .int .i64 0]) ∧ Below W.heap.size W w' :=
  dec_ok (fun V => GRO k V) (fun V => nSc k (k.sc hs) V) (fun V => noCipher22 (fun V => nEl k (elE k h hA) V) (fun V => nEl k (elE k h hB) V))
    (fun V => shown25 (fun V => power44 (fun V => POW k h hA hs V)) (fun V => under47 (fun V => UND k h (h.np hA s) V)) (fun V => times45 (fun V => TIM k h hB (h.np (h.np hA s) _) V)))
theorem REN (k : KD z G S Wd M low one sq Ri Wd2 M2 low2 one2 sq2 Ri2) (h : PK S M M2) {K A B n : Nat} (hK : ¬ M2 ∣ K) (hA : ¬ M2 ∣ A) (hB : ¬ M2 ∣ B) (hn : n < M) (W : World) :
    Calls Try.prog 7 #[.int .i64 z, .string (EX S M M2 K), .agg #[.string (EX S M M2 A), .string (EX S M M2 B)], .string (TX S n)] W fun e w' => e = .returned (.tuple #[.agg #[.string (EX S M M2 (A * 2 ^ n)), .string (EX S M M2 (B * (2 ^ 0 * K ^ n)))], .int .i64 0]) ∧ Below W.heap.size W w' :=
  renew_ok (fun V => GRO k V) (fun V => nEl k (elE k h hK) V) (fun V => noCipher22 (fun V => nEl k (elE k h hA) V) (fun V => nEl k (elE k h hB) V)) (fun V => nSc k (k.sc hn) V)
    (fun V => number24 (fun V => zero_call k V)) (fun V => HID k h hK (by have := h.m1; omega) hn V)
    (fun V => both23 (fun V => times45 (fun V => TIM k h hA (h.np h.n2 n) V)) (fun V => times45 (fun V => TIM k h hB (h.nm (h.np h.n2 0) (h.np hK n)) V)))
theorem toList_iff (a b : ByteArray) : a.toList = b.toList ↔ a = b := by
  constructor
  · intro h
    rw [ByteArray.toList_eq, ByteArray.toList_eq] at h
    exact ByteArray.ext (Array.toList_inj.1 h)
  · rintro rfl; rfl
theorem binds_kind (k : KD z G S Wd M low one sq Ri Wd2 M2 low2 one2 sq2 Ri2) (h : PK S M M2) (w : World) (s x y v n : ByteArray) :
    Calls Try.prog 3 #[.int .i64 z, .string s, .string x, .string y, .string v, .string n] w fun e w' => e = .returned (.bool true) ∧ Below w.heap.size w w' := by
  cases hs : isSc S M s with
  | false => exact binds_none6 (fun V => PUB6 k h hs V)
  | true =>
    obtain ⟨s, s9, rfl⟩ := as_TX hs
    have nK : ¬ M2 ∣ 2 ^ s := h.np h.n2 s
    by_cases ha : isSc S M x = true ∧ isSc S M v = true
    · obtain ⟨hx, hv⟩ := ha
      obtain ⟨x, x9, rfl⟩ := as_TX hx
      obtain ⟨v, v9, rfl⟩ := as_TX hv
      by_cases hb : isSc S M y = true ∧ isSc S M n = true
      · obtain ⟨hy, hn⟩ := hb
        obtain ⟨y, y9, rfl⟩ := as_TX hy
        obtain ⟨n, n9, rfl⟩ := as_TX hn
        have nA : ∀ t, ¬ M2 ∣ 2 ^ t := fun t => h.np h.n2 t
        have nB : ∀ t u, ¬ M2 ∣ 2 ^ t * (2 ^ s) ^ u := fun t u => h.nm (nA t) (h.np nK u)
        have d1 := fun V => SHO k h s9 (nA v) (nB x v) V
        have d2 := fun V => SHO k h s9 (h.nm (nA v) (nA n)) (h.nm (nB x v) (nB 0 n)) V
        unfold EX at d1 d2
        rw [dec1 h.hp h.hq h.e2] at d1
        rw [dec2 h.hp h.hq h.e2] at d2
        refine binds_ok (fun V => PUB k h s9 V) (fun V => ENC k h nK x9 v9 V) (fun V => ENC k h nK y9 n9 V) (fun V => REN k h nK (nA v) (nB x v) n9 V) d1 d2 (fun V => BAS k h V) (fun V => POW k h h.n2 x9 V) ?_
        show _ ↔ _
        rw [toList_iff, toList_iff, toList_iff, toList_iff]
        have q := bind_iff (s := s) h.hp h.hq h.e2 x9 y9 v9 n9
        constructor
        · rintro ⟨g1, g2⟩
          obtain ⟨rfl, rfl⟩ := q.1 ⟨EX_inj h g1, EX_inj h g2⟩
          exact ⟨rfl, rfl⟩
        · rintro ⟨g1, g2⟩
          obtain rfl := TX_inj h x9 y9 g1
          obtain rfl := TX_inj h v9 n9 g2
          exact ⟨rfl, rfl⟩
      · have hb' : isSc S M y = false ∨ isSc S M n = false := by
          cases g1 : isSc S M y
          · exact Or.inl rfl
          · cases g2 : isSc S M n
            · exact Or.inr rfl
            · exact absurd ⟨g1, g2⟩ hb
        exact binds_bad06 (fun V => PUB k h s9 V) (fun V => ENC k h nK x9 v9 V) (fun V => ENC6 k h nK hb' V)
    · have ha' : isSc S M x = false ∨ isSc S M v = false := by
        cases g1 : isSc S M x
        · exact Or.inl rfl
        · cases g2 : isSc S M v
          · exact Or.inr rfl
          · exact absurd ⟨g1, g2⟩ ha
      by_cases hb : isSc S M y = true ∧ isSc S M n = true
      · obtain ⟨hy, hn⟩ := hb
        obtain ⟨y, y9, rfl⟩ := as_TX hy
        obtain ⟨n, n9, rfl⟩ := as_TX hn
        exact binds_bad60 (fun V => PUB k h s9 V) (fun V => ENC6 k h nK ha' V) (fun V => ENC k h nK y9 n9 V)
      · have hb' : isSc S M y = false ∨ isSc S M n = false := by
          cases g1 : isSc S M y
          · exact Or.inl rfl
          · cases g2 : isSc S M n
            · exact Or.inr rfl
            · exact absurd ⟨g1, g2⟩ hb
        exact binds_bad66 (fun V => PUB k h s9 V) (fun V => ENC6 k h nK ha' V) (fun V => ENC6 k h nK hb' V)
theorem INV (k : KD z G S Wd M low one sq Ri Wd2 M2 low2 one2 sq2 Ri2) {n : Nat} (n0 : n ≠ 0) (hn : n < M) (W : World) :
    Calls Try.prog 12 #[.int .i64 z, .string (TX S n)] W fun e w' => e = .returned (.tuple #[.string (TX S (n ^ (M - 2) % M)), .int .i64 0]) ∧ Below W.heap.size W w' := by
  have q := inv_yes k W (k.sc hn) (by rw [k.nu hn]; exact n0)
  rw [k.nu hn] at q
  exact q
theorem MUL (k : KD z G S Wd M low one sq Ri Wd2 M2 low2 one2 sq2 Ri2) {a b : Nat} (ha : a < M) (hb : b < M) (W : World) :
    Calls Try.prog 14 #[.int .i64 z, .string (TX S a), .string (TX S b)] W fun e w' => e = .returned (.tuple #[.string (TX S (a * b % M)), .int .i64 0]) ∧ Below W.heap.size W w' := by
  have q := mul_yes k W (k.sc ha) (k.sc hb)
  rw [k.nu ha, k.nu hb] at q
  exact q
theorem ADD (k : KD z G S Wd M low one sq Ri Wd2 M2 low2 one2 sq2 Ri2) {a b : Nat} (ha : a < M) (hb : b < M) (W : World) :
    Calls Try.prog 15 #[.int .i64 z, .string (TX S a), .string (TX S b)] W fun e w' => e = .returned (.tuple #[.string (TX S ((a + b) % M)), .int .i64 0]) ∧ Below W.heap.size W w' := by
  have q := add_yes k W (k.sc ha) (k.sc hb)
  rw [k.nu ha, k.nu hb] at q
  exact q
theorem SUB (k : KD z G S Wd M low one sq Ri Wd2 M2 low2 one2 sq2 Ri2) {a b : Nat} (ha : a < M) (hb : b < M) (W : World) :
    Calls Try.prog 16 #[.int .i64 z, .string (TX S a), .string (TX S b)] W fun e w' => e = .returned (.tuple #[.string (TX S ((a + M - b) % M)), .int .i64 0]) ∧ Below W.heap.size W w' := by
  have q := sub_yes k W (k.sc ha) (k.sc hb)
  rw [k.nu ha, k.nu hb] at q
  exact q
theorem alive_any (w : World) : Calls Try.prog 11 #[] w fun e w' => e = .returned (.bool true) ∧ Below w.heap.size w w' :=
  alive11 (fun V => SCA kd1 (s := ⟨#[0, 5]⟩) (t := true) (by decide +kernel) V)
theorem nil_el {S M M2 : Nat} (h : PK S M M2) : isEl S M ⟨#[]⟩ = false := by
  have : S ≠ 0 := fun e => by have := h.hs; have := h.m1; rw [e] at *; simp at *; omega
  refine decide_eq_false fun q => this ?_
  exact q.1.symm
theorem ENC7 (k : KD z G S Wd M low one sq Ri Wd2 M2 low2 one2 sq2 Ri2) (h : PK S M M2) {x n : ByteArray} (W : World) :
    Calls Try.prog 6 #[.int .i64 z, .string ⟨#[]⟩, .string x, .string n] W fun e w' => e = .returned (.tuple #[.agg #[.string ⟨#[]⟩, .string ⟨#[]⟩], .int .i64 7]) ∧ Below W.heap.size W w' :=
  enc_elem (fun V => GRO k V) (fun V => nEl k (nil_el h) V)
theorem counts_kind (k : KD z G S Wd M low one sq Ri Wd2 M2 low2 one2 sq2 Ri2) (h : PK S M M2) (w : World) (s x y n : ByteArray) :
    Calls Try.prog 4 #[.int .i64 z, .string s, .string x, .string y, .string n] w fun e w' => e = .returned (.bool true) ∧ Below w.heap.size w w' := by
  cases hs : isSc S M s with
  | false => exact counts_none6 alive_any (fun V => PUB6 k h hs V) (fun V => ENC7 k h V)
  | true =>
    obtain ⟨s, s9, rfl⟩ := as_TX hs
    have nK : ¬ M2 ∣ 2 ^ s := h.np h.n2 s
    by_cases ha : isSc S M x = true ∧ isSc S M n = true
    · obtain ⟨hx, hn⟩ := ha
      obtain ⟨x, x9, rfl⟩ := as_TX hx
      obtain ⟨n, n9, rfl⟩ := as_TX hn
      by_cases n0 : n = 0
      · subst n0
        exact counts_zero alive_any (fun V => PUB k h s9 V) (fun V => ENC k h nK x9 n9 V) (fun V => inv_null k V (k.sc n9) (k.nu n9))
      · cases hy : isSc S M y with
        | false => exact counts_noy alive_any (fun V => PUB k h s9 V) (fun V => ENC k h nK x9 n9 V) (fun V => INV k n0 n9 V) (fun V => SCA k hy V)
        | true =>
          obtain ⟨y, y9, rfl⟩ := as_TX hy
          have m9 : ∀ t, t % M < M := fun t => Nat.mod_lt _ (by omega)
          have o9 : other M s n x y < M := other_lt h.hq
          have eb := fun V => ENC k h (h.np h.n2 (other M s n x y)) y9 n9 V
          have ea := fun V => ENC k h nK x9 n9 V
          unfold EX at eb ea
          rw [counts_eq h.hp h.hq h.e2 n0 n9 y9] at eb
          refine counts_ok alive_any (fun V => PUB k h s9 V) ea (fun V => INV k n0 n9 V) (fun V => SCA k hy V) (fun V => MUL k s9 n9 V) (fun V => ADD k (m9 _) x9 V) (fun V => SUB k (m9 _) y9 V) (fun V => MUL k (m9 _) (m9 _) V) (fun V => PUB k h o9 V) eb ?_
          show _ ↔ _
          rw [toList_iff, toList_iff]
          have q := counts_iff (s := s) h.hp h.hq h.e2 n0 n9 s9 x9 y9
          constructor
          · intro g
            obtain rfl := TX_inj h x9 y9 g
            unfold EX
            rw [q.1 rfl]
          · intro g
            rw [q.2 (EX_inj h g)]
    · have ha' : isSc S M x = false ∨ isSc S M n = false := by
        cases g1 : isSc S M x
        · exact Or.inl rfl
        · cases g2 : isSc S M n
          · exact Or.inr rfl
          · exact absurd ⟨g1, g2⟩ ha
      exact counts_bad alive_any (fun V => PUB k h s9 V) (fun V => ENC6 k h nK ha' V)
theorem pk1 : PK 2 641 1283 := ⟨prime_p1, prime_q1, by decide +kernel, by decide +kernel⟩
theorem pk2 : PK 8 576465431670292481 1152930863340584963 := ⟨prime_p2, prime_q2, by decide +kernel, by decide +kernel⟩
theorem pk3 : PK 32 7237005577332262213973186563042995786902308146886443998308627866733439352833 14474011154664524427946373126085991573804616293772887996617255733466878705667 := ⟨prime_p3, prime_q3, by decide +kernel, by decide +kernel⟩
theorem pub_none {w : World} {s : ByteArray} (z1 : ¬ z = 1) (z2 : ¬ z = 2) (z3 : ¬ z = 3) : Calls Try.prog 5 #[.int .i64 z, .string s] w fun e w' => e = .returned (.tuple #[.string ⟨#[]⟩, .int .i64 1]) ∧ Below w.heap.size w w' := by
  have G := fun W => ground0 W z (beq_eq_false_iff_ne.2 z1) (beq_eq_false_iff_ne.2 z2) (beq_eq_false_iff_ne.2 z3)
  exact public5 (fun V => base17 (fun V => base_call (on48_no 27 rfl size70 (by kernel_rfl) G))) (fun V => power_face (withTwo_any (fun W2 q1 q2 q3 k1 k2 k3 hb2 => one_none W2 rfl size70 (by kernel_rfl) G)))
theorem enc_no {w : World} {key x n : ByteArray} (z1 : ¬ z = 1) (z2 : ¬ z = 2) (z3 : ¬ z = 3) : Calls Try.prog 6 #[.int .i64 z, .string key, .string x, .string n] w fun e w' => e = .returned (.tuple #[.agg #[.string ⟨#[]⟩, .string ⟨#[]⟩], .int .i64 1]) ∧ Below w.heap.size w w' := by
  have G := fun W => ground0 W z (beq_eq_false_iff_ne.2 z1) (beq_eq_false_iff_ne.2 z2) (beq_eq_false_iff_ne.2 z3)
  exact enc_none (fun V => groundOf18 (fun V => sizes_call (on46_no 64 rfl size70 (by kernel_rfl) G))) (by decide)
theorem binds_walk (z : Int) (s x y v n : ByteArray) (w : World) : Calls Try.prog 3 #[.int .i64 z, .string s, .string x, .string y, .string v, .string n] w fun e w' => e = .returned (.bool true) ∧ Below w.heap.size w w' := by
  by_cases z1 : z = 1
  · subst z1; exact binds_kind kd1 pk1 w s x y v n
  by_cases z2 : z = 2
  · subst z2; exact binds_kind kd2 pk2 w s x y v n
  by_cases z3 : z = 3
  · subst z3; exact binds_kind kd3 pk3 w s x y v n
  exact binds_none1 (fun V => pub_none z1 z2 z3)
theorem counts_walk (z : Int) (s x y n : ByteArray) (w : World) : Calls Try.prog 4 #[.int .i64 z, .string s, .string x, .string y, .string n] w fun e w' => e = .returned (.bool true) ∧ Below w.heap.size w w' := by
  by_cases z1 : z = 1
  · subst z1; exact counts_kind kd1 pk1 w s x y n
  by_cases z2 : z = 2
  · subst z2; exact counts_kind kd2 pk2 w s x y n
  by_cases z3 : z = 3
  · subst z3; exact counts_kind kd3 pk3 w s x y n
  exact counts_none1 alive_any (fun V => pub_none z1 z2 z3) (fun V => enc_no z1 z2 z3)
end
end Go.Proofs.Ytghkjjhnokjjiaa

