/- The group's faces, with texts of numbers; elements as powers. -/
import Derived.Test.YtfbceknafmkipaaGreatProdF
import Derived.Test.YtfbceknafmkipaaGreatSm2
set_option linter.unusedSimpArgs false
set_option linter.unusedVariables false
set_option maxRecDepth 100000
namespace Go.Proofs.YtfbceknafmkipaaGreat
open Go.RowKit Go.Deep Go.PlainAid

theorem sgn_mul_right {M M2 x y : Nat} (e : M2 = 2 * M + 1) (hy : y < M2) : sgn M M2 (x * sgn M M2 y % M2) = sgn M M2 (x * y % M2) := by
  rw [Nat.mul_comm, sgn_mul_left e hy, Nat.mul_comm]
theorem sgn_pow {M M2 x : Nat} (e : M2 = 2 * M + 1) (hM : 1 ≤ M) (hx : x < M2) (n : Nat) : sgn M M2 (sgn M M2 x ^ n % M2) = sgn M M2 (x ^ n % M2) := by
  induction n with
  | zero => rw [Nat.pow_zero, Nat.pow_zero]
  | succ n ih =>
    have h1 : sgn M M2 (sgn M M2 x ^ (n + 1) % M2) = sgn M M2 (sgn M M2 x ^ n % M2 * x % M2) := by
      rw [Nat.pow_succ, Nat.mul_mod, ← sgn_mul_right e (Nat.mod_lt _ (by omega)), Nat.mod_eq_of_lt (show sgn M M2 x < M2 by have := sgn_le e hx; omega)]
      have h2 : sgn M M2 (sgn M M2 x) = sgn M M2 x := by
        have h3 := sgn_le e hx
        generalize sgn M M2 x = y at *
        unfold sgn
        rw [if_neg (by omega)]
      rw [h2, sgn_mul_right e hx]
    rw [h1, ← sgn_mul_left e (Nat.mod_lt _ (by omega)), ih, sgn_mul_left e (Nat.mod_lt _ (by omega)), Nat.mod_mul_mod, ← Nat.pow_succ]
theorem sgn_low {M M2 x : Nat} (h : x ≤ M) : sgn M M2 x = x := by unfold sgn; rw [if_neg (by omega)]
theorem sgn_half {M M2 a : Nat} (hp : IsP M2) (e : M2 = 2 * M + 1) (hM : 1 ≤ M) (h0 : a ≠ 0) (h9 : a < M2) : sgn M M2 (a ^ M % M2) = 1 := by
  have hn : ¬ M2 ∣ a := hp.not_dvd_lt (by omega) h9
  rcases half_power hp e hn with g | g
  · rw [g]; exact sgn_low hM
  · rw [g, sgn_neg e (by omega) (by omega)]; exact sgn_low hM
theorem sgn_exp {M M2 a : Nat} (hp : IsP M2) (e : M2 = 2 * M + 1) (hM : 1 ≤ M) (h0 : a ≠ 0) (h9 : a < M2) (k : Nat) : sgn M M2 (a ^ k % M2) = sgn M M2 (a ^ (k % M) % M2) := by
  have h1 : a ^ k = (a ^ M) ^ (k / M) * a ^ (k % M) := by rw [← Nat.pow_mul, ← Nat.pow_add, Nat.div_add_mod]
  have hs := sgn_half hp e hM h0 h9
  have h2 : sgn M M2 ((a ^ M) ^ (k / M) % M2) = 1 := by
    rw [Nat.pow_mod, ← sgn_pow e hM (Nat.mod_lt _ (by omega)), hs, Nat.one_pow, Nat.mod_eq_of_lt (by omega)]
    exact sgn_low hM
  rw [h1, Nat.mul_mod, ← sgn_mul e (Nat.mod_lt _ (by omega)) (Nat.mod_lt _ (by omega)), h2, Nat.one_mul]
  have h3 := sgn_le (M := M) e (Nat.mod_lt (a ^ (k % M)) (show M2 > 0 by omega))
  rw [Nat.mod_eq_of_lt (by omega)]
  exact sgn_low h3
theorem sgn_pos {M M2 c : Nat} (e : M2 = 2 * M + 1) (h0 : c ≠ 0) (h : c < M2) : sgn M M2 c ≠ 0 := by unfold sgn; split <;> omega
theorem prod_pos {p a b : Nat} (hp : IsP p) (ha : ¬ p ∣ a) (hb : ¬ p ∣ b) : a * b % p ≠ 0 := fun h => by
  rcases hp.euclid (Nat.dvd_of_mod_eq_zero h) with g | g
  · exact ha g
  · exact hb g
section
variable {z : Int} {G : Array Value} {S Wd M low one sq Ri Wd2 M2 low2 one2 sq2 Ri2 : Nat}
theorem scal_call (k : KD z G S Wd M low one sq Ri Wd2 M2 low2 one2 sq2 Ri2) (w : World) (s : ByteArray) : Calls Tryz.prog 47 #[.int .i64 z, .string s] w fun e w' => e = .returned (.bool (isSc S M s)) ∧ Below w.heap.size w w' :=
  scalar_face (c := if isSc S M s then 0 else 6) (by cases isSc S M s <;> rfl) (fun W cp hc => on57_58 hc k.hG k.hi k.h1 k.CG (fun W g hI hc => clos58 hc (fun W' hb => scalarA ((k.gh W g hI).of_below hb) s k.hS k.big)))
theorem num_call (k : KD z G S Wd M low one sq Ri Wd2 M2 low2 one2 sq2 Ri2) (w : World) (n : Int) (n1 : -9223372036854775808 ≤ n) (n2 : n ≤ 9223372036854775807) : Calls Tryz.prog 76 #[.int .i64 z, .int .i64 n] w fun e w' => e = .returned (.tuple #[.string (TX S (numF M n)), .int .i64 0]) ∧ Below w.heap.size w w' :=
  number_face (fun W cp hc => on48_52 hc k.hG k.hi k.h1 k.CG (fun W g hI hc => clos52 hc (fun W' hb => fnumberA ((k.gh W g hI).of_below hb).fs k.fl n n1 n2) (fun W' hb => toldA ((k.gh W g hI).of_below hb).c k.hS (Nat.lt_trans (numF_lt k.m2) k.big))))
theorem size_call (k : KD z G S Wd M low one sq Ri Wd2 M2 low2 one2 sq2 Ri2) (w : World) : Calls Tryz.prog 60 #[.int .i64 z] w fun e w' => e = .returned (.tuple #[.int .i64 (S : Int), .int .i64 (S : Int), .int .i64 0]) ∧ Below w.heap.size w w' :=
  sizes_call (on46_ok k.hG k.hi k.h1 k.CG (fun W g h => sizes_any (k.gh W g h).c))
theorem numF_nat {M k : Nat} (h : k < M) : numF M (k : Int) = k := by
  unfold numF
  rw [if_neg (by omega), Int.toNat_natCast, Nat.mod_eq_of_lt h]
theorem zero_call (k : KD z G S Wd M low one sq Ri Wd2 M2 low2 one2 sq2 Ri2) (w : World) : Calls Tryz.prog 76 #[.int .i64 z, .int .i64 0] w fun e w' => e = .returned (.tuple #[.string (TX S 0), .int .i64 0]) ∧ Below w.heap.size w w' := by
  have q := num_call k w 0 (by omega) (by omega)
  rw [show (0 : Int) = ((0 : Nat) : Int) from rfl, numF_nat (by have := k.m2; omega)] at q
  exact q
theorem one_call (k : KD z G S Wd M low one sq Ri Wd2 M2 low2 one2 sq2 Ri2) (w : World) : Calls Tryz.prog 76 #[.int .i64 z, .int .i64 1] w fun e w' => e = .returned (.tuple #[.string (TX S 1), .int .i64 0]) ∧ Below w.heap.size w w' := by
  have q := num_call k w 1 (by omega) (by omega)
  rw [show (1 : Int) = ((1 : Nat) : Int) from rfl, numF_nat (by have := k.m2; omega)] at q
  exact q
theorem KD.sc (k : KD z G S Wd M low one sq Ri Wd2 M2 low2 one2 sq2 Ri2) {n : Nat} (h : n < M) : isSc S M (TX S n) = true := isSc_TX h k.sz
theorem KD.nu (k : KD z G S Wd M low one sq Ri Wd2 M2 low2 one2 sq2 Ri2) {n : Nat} (h : n < M) : numS (TX S n) = n := numS_TX (Nat.lt_of_lt_of_le h k.sz)
theorem as_TX {S M : Nat} {a : ByteArray} (h : isSc S M a = true) : ∃ A, A < M ∧ a = TX S A := ⟨numS a, isSc_lt h, (TX_numS (isSc_size h)).symm⟩
theorem memb_call (k : KD z G S Wd M low one sq Ri Wd2 M2 low2 one2 sq2 Ri2) (w : World) (s : ByteArray) : Calls Tryz.prog 127 #[.int .i64 z, .string s] w fun e w' => e = .returned (.bool (isEl S M s)) ∧ Below w.heap.size w w' :=
  member_face (c := if isEl S M s then 0 else 7) (by cases isEl S M s <;> rfl) (fun W cp hc => on57_60 hc k.hG k.hi k.h1 k.CG (fun W g hI hc => clos60 hc (fun W' hb => elemA ((k.gh W g hI).of_below hb) s k.hS k.big)))
theorem KD.e2 (k : KD z G S Wd M low one sq Ri Wd2 M2 low2 one2 sq2 Ri2) {n : Nat} (h : n ≤ M) : n < M2 := by have := k.m21; omega
theorem KD.ee (k : KD z G S Wd M low one sq Ri Wd2 M2 low2 one2 sq2 Ri2) (hs : M < 256 ^ S) {n : Nat} (h0 : n ≠ 0) (h : n ≤ M) : isEl S M (TX S n) = true := decide_eq_true ⟨size_TX S n, by rw [numS_TX (Nat.lt_of_le_of_lt h hs)]; exact h0, by rw [numS_TX (Nat.lt_of_le_of_lt h hs)]; exact h⟩
theorem KD.en (k : KD z G S Wd M low one sq Ri Wd2 M2 low2 one2 sq2 Ri2) (hs : M < 256 ^ S) {n : Nat} (h : n ≤ M) : numS (TX S n) = n := numS_TX (Nat.lt_of_le_of_lt h hs)
theorem as_EX {S M : Nat} {a : ByteArray} (h : isEl S M a = true) : ∃ A, A ≠ 0 ∧ A ≤ M ∧ a = TX S A := ⟨numS a, isEl_pos h, isEl_le h, (TX_numS (isEl_size h)).symm⟩
theorem SAt.two {W : World} {b : Nat} {x y : ByteArray} (h : IHolds W b 9 [.string x, .string y]) : SAt W (some ⟨b, 0, none⟩) [x, y] := by
  intro i hi
  refine ⟨b, 0, rfl, ?_⟩
  match i, hi with
  | 0, _ => exact h.cell 0 (by simp)
  | 1, _ => exact h.cell 1 (by simp)


/-- The base's powers, told. -/
def pw2 (M M2 n : Nat) : Nat := sgn M M2 (2 ^ n % M2)
/-- Signs do not matter to squares. -/
theorem sgn_sq {M M2 x y : Nat} (e : M2 = 2 * M + 1) (hx : x < M2) (hy : y < M2) (h : sgn M M2 x = sgn M M2 y) : x * x % M2 = y * y % M2 := by
  have hc : x = y ∨ x + y = M2 := by
    unfold sgn at h
    split at h <;> split at h <;> omega
  rcases hc with rfl | hc
  · rfl
  · have sq : ∀ a t : Nat, (a + t) * (a + t) = a * a + (a + t + a) * t := fun a t => by
      simp only [Nat.mul_add, Nat.add_mul]
      rw [Nat.mul_comm t a]
      omega
    rcases Nat.le_total y x with g | g
    · obtain ⟨t, rfl⟩ : ∃ t, x = y + t := ⟨x - y, by omega⟩
      rw [sq, hc, Nat.add_mul_mod_self_left]
    · obtain ⟨t, rfl⟩ : ∃ t, y = x + t := ⟨y - x, by omega⟩
      rw [sq, show x + t + x = M2 by omega, Nat.add_mul_mod_self_left]
theorem inv_pow {p a : Nat} (hp : IsP p) (ha : ¬ p ∣ a) : a ^ (p - 2) * a % p = 1 := by
  have := hp.1
  rw [← Nat.pow_succ, show (p - 2).succ = p - 1 by omega]
  exact hp.fermat1 ha
theorem cancel_mod {p a b c : Nat} (hp : IsP p) (ha : ¬ p ∣ a) (h : a * b % p = a * c % p) : b % p = c % p := by
  have i := inv_pow hp ha
  have g : ∀ x, x % p = a ^ (p - 2) * (a * x % p) % p := fun x => by
    rw [Nat.mul_mod_mod, ← Nat.mul_assoc, Nat.mul_mod, i, Nat.one_mul, Nat.mod_mod]
  rw [g b, g c, h]
/-- The base's powers are alike only where the numbers are alike but for the order. -/
theorem pw2_inj {M M2 f n : Nat} (hp : IsP M2) (hq : IsP M) (e : M2 = 2 * M + 1) (hfn : f ≤ n) (h : pw2 M M2 f = pw2 M M2 n) : f % M = n % M := by
  have hM := hq.1
  obtain ⟨d, rfl⟩ : ∃ d, n = f + d := ⟨n - f, by omega⟩
  have n2 : ¬ M2 ∣ 2 := hp.not_dvd_lt (by omega) (by omega)
  have q := sgn_sq e (Nat.mod_lt _ (by omega)) (Nat.mod_lt _ (by omega)) h
  rw [← Nat.mul_mod, ← Nat.mul_mod] at q
  have nf : ¬ M2 ∣ 2 ^ f * 2 ^ f := fun g => by
    rcases hp.euclid g with g | g <;> exact hp.not_dvd_pow n2 f g
  have q2 : (2 ^ f * 2 ^ f) * (2 ^ d * 2 ^ d) % M2 = (2 ^ f * 2 ^ f) * 1 % M2 := by
    rw [Nat.mul_one, q, Nat.pow_add, Nat.mul_mul_mul_comm]
  have q3 := cancel_mod hp nf q2
  rw [Nat.mod_eq_of_lt (show 1 < M2 by omega)] at q3
  by_cases hd : M ∣ d
  · obtain ⟨t, rfl⟩ := hd
    exact (Nat.add_mul_mod_self_left _ _ _).symm
  · exfalso
    have i := inv_pow hq hd
    obtain ⟨E, hE⟩ : ∃ E, E = d ^ (M - 2) := ⟨_, rfl⟩
    rw [← hE] at i
    obtain ⟨t, ht⟩ : ∃ t, E * d = M * t + 1 := ⟨E * d / M, by have := Nat.div_add_mod (E * d) M; omega⟩
    have a1 : (2 ^ d * 2 ^ d) ^ E % M2 = 1 := by rw [Nat.pow_mod, q3, Nat.one_pow, Nat.mod_eq_of_lt (by omega)]
    have ex : (d + d) * E = 2 + (M2 - 1) * t := by
      rw [show M2 - 1 = M + M by omega, Nat.add_mul, Nat.add_mul, Nat.mul_comm d E]
      omega
    rw [← Nat.pow_add, ← Nat.pow_mul, ex, Nat.pow_add, Nat.pow_mul, Nat.mul_mod, Nat.pow_mod (2 ^ (M2 - 1)), hp.fermat1 n2, Nat.one_pow, Nat.mod_eq_of_lt (show 1 < M2 by omega), Nat.mul_one, Nat.mod_mod, Nat.mod_eq_of_lt (show 2 ^ 2 < M2 by omega)] at a1
    omega

/-- An element, of a number that is not 0 modulo the prime. -/
def E (M M2 x : Nat) : Nat := sgn M M2 (x % M2)
theorem E_mod {M M2 x y : Nat} (h : x % M2 = y % M2) : E M M2 x = E M M2 y := by unfold E; rw [h]
theorem E_left {M M2 x y : Nat} (e : M2 = 2 * M + 1) : sgn M M2 (E M M2 x * y % M2) = E M M2 (x * y) := by
  unfold E
  rw [sgn_mul_left e (Nat.mod_lt _ (by omega)), Nat.mod_mul_mod]
theorem E_cancel {M M2 x x' y : Nat} (hp : IsP M2) (e : M2 = 2 * M + 1) (hy : ¬ M2 ∣ y) (h : E M M2 (x * y) = E M M2 (x' * y)) : E M M2 x = E M M2 x' := by
  have i := inv_pow hp hy
  have g : ∀ u, E M M2 u = sgn M M2 (E M M2 (u * y) * y ^ (M2 - 2) % M2) := fun u => by
    rw [E_left e]
    refine E_mod ?_
    rw [Nat.mul_assoc, Nat.mul_comm y, Nat.mul_mod, i, Nat.mul_one, Nat.mod_mod]
  rw [g x, g x', h]
theorem n2 {M M2 : Nat} (hp : IsP M2) (hq : IsP M) (e : M2 = 2 * M + 1) : ¬ M2 ∣ 2 := hp.not_dvd_lt (by omega) (by have := hq.1; omega)
theorem n2p {M M2 : Nat} (hp : IsP M2) (hq : IsP M) (e : M2 = 2 * M + 1) (k : Nat) : ¬ M2 ∣ 2 ^ k := hp.not_dvd_pow (n2 hp hq e) k
theorem E_exp {M M2 k : Nat} (hp : IsP M2) (hq : IsP M) (e : M2 = 2 * M + 1) : E M M2 (2 ^ k) = E M M2 (2 ^ (k % M)) := sgn_exp hp e (by have := hq.1; omega) (by omega) (by have := hq.1; omega) k
theorem E_same {M M2 k l : Nat} (hp : IsP M2) (hq : IsP M) (e : M2 = 2 * M + 1) (h : k % M = l % M) : E M M2 (2 ^ k) = E M M2 (2 ^ l) := by rw [E_exp hp hq e, h, ← E_exp hp hq e]
theorem E_inj {M M2 k l : Nat} (hp : IsP M2) (hq : IsP M) (e : M2 = 2 * M + 1) (hk : k < M) (hl : l < M) (h : E M M2 (2 ^ k) = E M M2 (2 ^ l)) : k = l := by
  rcases Nat.le_total k l with g | g
  · have := pw2_inj hp hq e g h
    rwa [Nat.mod_eq_of_lt hk, Nat.mod_eq_of_lt hl] at this
  · have := pw2_inj hp hq e g h.symm
    rw [Nat.mod_eq_of_lt hk, Nat.mod_eq_of_lt hl] at this
    exact this.symm
theorem E_undo {M M2 x y : Nat} (hp : IsP M2) (hy : ¬ M2 ∣ y) : E M M2 (x * y * y ^ (M2 - 2)) = E M M2 x := by
  refine E_mod ?_
  rw [Nat.mul_assoc, Nat.mul_comm y, Nat.mul_mod, inv_pow hp hy, Nat.mul_one, Nat.mod_mod]
/-! What is hidden comes out, and that alone. -/
/-- An element's text. -/
def EX (S M M2 x : Nat) : ByteArray := TX S (E M M2 x)
/-- What a kind's primes are. -/
structure PK (S M M2 : Nat) : Prop where
  hp : IsP M2
  hq : IsP M
  e2 : M2 = 2 * M + 1
  hs : M < 256 ^ S
theorem PK.m1 {S M M2 : Nat} (h : PK S M M2) : 2 ≤ M := h.hq.1
theorem PK.ml {S M M2 : Nat} (h : PK S M M2) (x : Nat) : x % M2 < M2 := Nat.mod_lt _ (by have := h.e2; omega)
theorem PK.sl {S M M2 : Nat} (h : PK S M M2) (x : Nat) : E M M2 x ≤ M := sgn_le h.e2 (h.ml x)
theorem PK.sp {S M M2 : Nat} (h : PK S M M2) {x : Nat} (hx : ¬ M2 ∣ x) : E M M2 x ≠ 0 := sgn_pos h.e2 (fun q => hx (Nat.dvd_of_mod_eq_zero q)) (h.ml x)
theorem PK.np {S M M2 : Nat} (h : PK S M M2) {x : Nat} (hx : ¬ M2 ∣ x) (t : Nat) : ¬ M2 ∣ x ^ t := h.hp.not_dvd_pow hx t
theorem PK.nm {S M M2 : Nat} (h : PK S M M2) {x y : Nat} (hx : ¬ M2 ∣ x) (hy : ¬ M2 ∣ y) : ¬ M2 ∣ x * y := fun q => by
  rcases h.hp.euclid q with g | g
  · exact hx g
  · exact hy g
theorem PK.n2 {S M M2 : Nat} (h : PK S M M2) : ¬ M2 ∣ 2 := Go.Proofs.YtfbceknafmkipaaGreat.n2 h.hp h.hq h.e2
theorem PK.two {S M M2 : Nat} (h : PK S M M2) : EX S M M2 2 = TX S 2 := by
  have := h.m1
  have := h.e2
  unfold EX E
  rw [Nat.mod_eq_of_lt (by omega), sgn_low h.m1]
theorem EX_inj {S M M2 x y : Nat} (h : PK S M M2) (he : EX S M M2 x = EX S M M2 y) : E M M2 x = E M M2 y := by
  have q := congrArg numS he
  unfold EX at q
  rwa [numS_TX (Nat.lt_of_le_of_lt (h.sl x) h.hs), numS_TX (Nat.lt_of_le_of_lt (h.sl y) h.hs)] at q
theorem TX_inj {S M M2 x y : Nat} (h : PK S M M2) (hx : x < M) (hy : y < M) (he : TX S x = TX S y) : x = y := by
  have q := congrArg numS he
  rwa [numS_TX (Nat.lt_trans hx h.hs), numS_TX (Nat.lt_trans hy h.hs)] at q
theorem POW (k : KD z G S Wd M low one sq Ri Wd2 M2 low2 one2 sq2 Ri2) (h : PK S M M2) {x t : Nat} (hx : ¬ M2 ∣ x) (ht : t < M) (W : World) :
    Calls Tryz.prog 71 #[.int .i64 z, .string (EX S M M2 x), .string (TX S t)] W fun e w' => e = .returned (.tuple #[.string (EX S M M2 (x ^ t)), .int .i64 0]) ∧ Below W.heap.size W w' := by
  have q := power_yes k W (k.ee h.hs (h.sp hx) (h.sl x)) (k.sc ht)
  rw [k.en h.hs (h.sl x), k.nu ht] at q
  have e : sgn M M2 (E M M2 x ^ t % M2) = E M M2 (x ^ t) := by
    unfold E
    rw [sgn_pow h.e2 (by have := h.m1; omega) (h.ml x), ← Nat.pow_mod]
  rw [e] at q
  exact q
theorem PRO (k : KD z G S Wd M low one sq Ri Wd2 M2 low2 one2 sq2 Ri2) (h : PK S M M2) {x y a b : Nat} (hx : ¬ M2 ∣ x) (hy : ¬ M2 ∣ y) (ha : a < M) (hb : b < M) (W : World) (b1 b2 : Nat)
    (h1 : IHolds W b1 9 [.string (EX S M M2 x), .string (EX S M M2 y)]) (h2 : IHolds W b2 9 [.string (TX S a), .string (TX S b)]) :
    Calls Tryz.prog 77 #[.int .i64 z, .slice (some ⟨b1, 0, none⟩) 2 2, .slice (some ⟨b2, 0, none⟩) 2 2] W fun e w' => e = .returned (.tuple #[.string (EX S M M2 (x ^ a * y ^ b)), .int .i64 0]) ∧ Below W.heap.size W w' := by
  have q := prod_yes k W (n := 2) (cx := 2) (cn := 2) (SAt.two h1) (SAt.two h2) rfl rfl (by omega)
  have ex := k.ee h.hs (h.sp hx) (h.sl x)
  have ey := k.ee h.hs (h.sp hy) (h.sl y)
  have ec : code S M [EX S M M2 x, EX S M M2 y] [TX S a, TX S b] = 0 := by simp [code, EX, ex, ey, k.sc ha, k.sc hb]
  have et : prodT S M M2 [EX S M M2 x, EX S M M2 y] [TX S a, TX S b] = EX S M M2 (x ^ a * y ^ b) := by
    rw [prodT, ec, if_pos rfl]
    have en : powP (nums [EX S M M2 x, EX S M M2 y]) (nums [TX S a, TX S b]) [EX S M M2 x, EX S M M2 y].length = E M M2 x ^ a * E M M2 y ^ b := by
      simp [nums, powP, EX, k.en h.hs (h.sl x), k.en h.hs (h.sl y), k.nu ha, k.nu hb]
    rw [en]
    have M1 : 1 ≤ M := by have := h.m1; omega
    have e : sgn M M2 (E M M2 x ^ a * E M M2 y ^ b % M2) = E M M2 (x ^ a * y ^ b) := by
      have ep : ∀ u c, sgn M M2 (E M M2 u ^ c % M2) = sgn M M2 (u ^ c % M2) := fun u c => by unfold E; rw [sgn_pow h.e2 M1 (h.ml u), ← Nat.pow_mod]
      rw [Nat.mul_mod, ← sgn_mul h.e2 (h.ml _) (h.ml _), ep x a, ep y b, sgn_mul h.e2 (h.ml _) (h.ml _), ← Nat.mul_mod]
      rfl
    rw [e]
    rfl
  rw [ec, et] at q
  exact q
theorem SCA (k : KD z G S Wd M low one sq Ri Wd2 M2 low2 one2 sq2 Ri2) {s : ByteArray} {t : Bool} (hs : isSc S M s = t) (W : World) : Calls Tryz.prog 47 #[.int .i64 z, .string s] W fun e w' => e = .returned (.bool t) ∧ Below W.heap.size W w' := by
  rw [← hs]; exact scal_call k W s
theorem MEM (k : KD z G S Wd M low one sq Ri Wd2 M2 low2 one2 sq2 Ri2) {s : ByteArray} {t : Bool} (hs : isEl S M s = t) (W : World) : Calls Tryz.prog 127 #[.int .i64 z, .string s] W fun e w' => e = .returned (.bool t) ∧ Below W.heap.size W w' := by
  rw [← hs]; exact memb_call k W s
theorem elE (k : KD z G S Wd M low one sq Ri Wd2 M2 low2 one2 sq2 Ri2) (h : PK S M M2) {x : Nat} (hx : ¬ M2 ∣ x) : isEl S M (EX S M M2 x) = true := k.ee h.hs (h.sp hx) (h.sl x)
theorem toList_iff (a b : ByteArray) : a.toList = b.toList ↔ a = b := by
  constructor
  · intro h
    rw [ByteArray.toList_eq, ByteArray.toList_eq] at h
    exact ByteArray.ext (Array.toList_inj.1 h)
  · rintro rfl; rfl
theorem MUL (k : KD z G S Wd M low one sq Ri Wd2 M2 low2 one2 sq2 Ri2) {a b : Nat} (ha : a < M) (hb : b < M) (W : World) :
    Calls Tryz.prog 112 #[.int .i64 z, .string (TX S a), .string (TX S b)] W fun e w' => e = .returned (.tuple #[.string (TX S (a * b % M)), .int .i64 0]) ∧ Below W.heap.size W w' := by
  have q := mul_yes k W (k.sc ha) (k.sc hb)
  rw [k.nu ha, k.nu hb] at q
  exact q
theorem SUB (k : KD z G S Wd M low one sq Ri Wd2 M2 low2 one2 sq2 Ri2) {a b : Nat} (ha : a < M) (hb : b < M) (W : World) :
    Calls Tryz.prog 75 #[.int .i64 z, .string (TX S a), .string (TX S b)] W fun e w' => e = .returned (.tuple #[.string (TX S ((a + M - b) % M)), .int .i64 0]) ∧ Below W.heap.size W w' := by
  have q := sub_yes k W (k.sc ha) (k.sc hb)
  rw [k.nu ha, k.nu hb] at q
  exact q
theorem pk1 : PK 2 641 1283 := ⟨prime_p1, prime_q1, by decide +kernel, by decide +kernel⟩
theorem pk2 : PK 8 576465431670292481 1152930863340584963 := ⟨prime_p2, prime_q2, by decide +kernel, by decide +kernel⟩
theorem pk3 : PK 32 7237005577332262213973186563042995786902308146886443998308627866733439352833 14474011154664524427946373126085991573804616293772887996617255733466878705667 := ⟨prime_p3, prime_q3, by decide +kernel, by decide +kernel⟩
end
end Go.Proofs.YtfbceknafmkipaaGreat
