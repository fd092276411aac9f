/- Bytes as a number, the highest first. -/
import Derived.Test.YtohpbclofcflaaaGreatMont
set_option linter.unusedSimpArgs false
set_option linter.unusedVariables false
namespace Go.Proofs.YtohpbclofcflaaaGreat
open Go.RowKit Go.Deep Go.PlainAid

def beV : List UInt8 → Nat
  | [] => 0
  | c :: l => c.toNat * 256 ^ l.length + beV l
theorem beV_append : ∀ l r : List UInt8, beV (l ++ r) = beV l * 256 ^ r.length + beV r
  | [], r => by simp [beV]
  | c :: l, r => by
    have := beV_append l r
    simp only [List.cons_append, beV, this, List.length_append, Nat.pow_add, Nat.add_mul, Nat.mul_assoc, Nat.add_assoc]
theorem beV_lt : ∀ l : List UInt8, beV l < 256 ^ l.length
  | [] => by simp [beV]
  | c :: l => by
    have h := beV_lt l
    have hc : c.toNat ≤ 255 := by have := c.toNat_lt; omega
    have : c.toNat * 256 ^ l.length ≤ 255 * 256 ^ l.length := Nat.mul_le_mul_right _ hc
    simp only [beV, List.length_cons, Nat.pow_succ]
    omega
theorem beV_snoc (l : List UInt8) (c : UInt8) : beV (l ++ [c]) = beV l * 256 + c.toNat := by
  rw [beV_append]; simp [beV]
theorem beV_drop (l : List UInt8) (i : Nat) (h : i < l.length) : beV (l.drop i) = l[i].toNat * 256 ^ (l.length - 1 - i) + beV (l.drop (i + 1)) := by
  rw [List.drop_eq_getElem_cons h, beV, List.length_drop]
  congr 3
  omega
theorem beV_take (l : List UInt8) (i : Nat) (h : i < l.length) : beV (l.take (i + 1)) = beV (l.take i) * 256 + l[i].toNat := by
  rw [List.take_succ_eq_append_getElem h, beV_snoc]
/-- The number of a text. -/
def numS (s : ByteArray) : Nat := beV s.data.toList
theorem numS_lt (s : ByteArray) : numS s < 256 ^ s.size := beV_lt _
/-- Reading by two bytes a digit, the lowest first. -/
structure Rd (l : List UInt8) (i : Nat) (P : List Nat) : Prop where
  len : P.length = (l.length + 1) / 2
  low : ∀ d ∈ P, d < 65536
  eq : vl 65536 P = beV (l.drop (l.length - i))
  zero : ∀ t, i ≤ 2 * t → P.getD t 0 = 0
  half : ∀ t, i = 2 * t + 1 → P.getD t 0 < 256
theorem Rd.start (l : List UInt8) : Rd l 0 (List.replicate ((l.length + 1) / 2) 0) := by
  refine ⟨by simp, ?_, by rw [vl_zeros]; simp [beV], ?_, fun t ht => by omega⟩
  · intro d hd; rw [List.mem_replicate] at hd; omega
  · intro t _
    rw [List.getD_eq_getElem?_getD, List.getElem?_replicate]; split <;> rfl
theorem pow2 (k : Nat) : 65536 ^ k = 256 ^ (2 * k) := by rw [show (65536 : Nat) = 256 ^ 2 from rfl, ← Nat.pow_mul]
theorem Rd.step {l : List UInt8} {i : Nat} {P : List Nat} (h : Rd l i P) (hi : i < l.length) (c : Nat) (hc : c = (l[l.length - 1 - i]'(by omega)).toNat) (j x : Nat) (hj : j = i / 2) (hx : x = P.getD j 0 + (if i % 2 = 1 then c * 256 else c)) :
    x < 65536 ∧ Rd l (i + 1) (P.set j x) := by
  have hl := h.len
  have jl : j < P.length := by omega
  have c9 : c < 256 := by rw [hc]; exact UInt8.toNat_lt _
  have hz := h.zero j
  have hh := h.half j
  have x9 : x < 65536 := by
    by_cases ho : i % 2 = 1
    · rw [if_pos ho] at hx
      have := hh (by omega)
      omega
    · rw [if_neg ho] at hx
      have := hz (by omega)
      omega
  have hg : P.getD j 0 = P[j] := by rw [List.getD_eq_getElem?_getD, List.getElem?_eq_getElem jl]; rfl
  refine ⟨x9, by rw [List.length_set]; exact hl, ?_, ?_, ?_, ?_⟩
  · intro d hd
    rcases List.mem_or_eq_of_mem_set hd with h1 | h1
    · exact h.low d h1
    · rw [h1]; exact x9
  · have e := vl_set 65536 P j x jl
    have d := beV_drop l (l.length - 1 - i) (by omega)
    rw [show l.length - (i + 1) = l.length - 1 - i by omega, d, ← hc, show l.length - 1 - i + 1 = l.length - i by omega, ← h.eq, show l.length - 1 - (l.length - 1 - i) = i by omega]
    rw [hx, hg, Nat.mul_add] at e
    have k : 65536 ^ j * (if i % 2 = 1 then c * 256 else c) = c * 256 ^ i := by
      rw [pow2]
      by_cases ho : i % 2 = 1
      · rw [if_pos ho, show i = 2 * j + 1 by omega, Nat.pow_succ, Nat.mul_left_comm, Nat.mul_comm (256 ^ (2 * j))]
      · rw [if_neg ho, show i = 2 * j by omega, Nat.mul_comm]
    rw [k, ← hg, ← hx] at e
    omega
  · intro t ht
    rw [List.getD_eq_getElem?_getD, List.getElem?_set_ne (by omega), ← List.getD_eq_getElem?_getD]
    exact h.zero t (by omega)
  · intro t ht
    have : j = t := by omega
    subst this
    rw [List.getD_eq_getElem?_getD, List.getElem?_set_self (by omega)]
    show x < 256
    rw [if_neg (by omega)] at hx
    have := hz (by omega)
    omega
/-- The words of a number that gets one byte more at its low end. -/
theorem or_add {a b k : Nat} (ha : a % 2 ^ k = 0) (hb : b < 2 ^ k) : a ||| b = a + b := by
  have e : a = (a / 2 ^ k) <<< k := by
    rw [Nat.shiftLeft_eq]
    have := Nat.div_add_mod a (2 ^ k)
    rw [ha, Nat.mul_comm] at this
    omega
  rw [e, Nat.shiftLeft_add_eq_or_of_lt hb]
theorem BB_256 : BB = 256 ^ 8 := rfl
/-- What is laid when the bytes of i places are there: V, moved up by p + 1 bytes; then the byte c at the place p. -/
theorem word_or {V c p : Nat} (hc : c < 256) : w4 (V * 256 ^ (p + 1) + c * 256 ^ p) (p / 8) = w4 (V * 256 ^ (p + 1)) (p / 8) ||| (c * 2 ^ (p % 8 * 8)) ∧ c * 2 ^ (p % 8 * 8) < BB ∧
    ∀ q, q ≠ p / 8 → w4 (V * 256 ^ (p + 1) + c * 256 ^ p) q = w4 (V * 256 ^ (p + 1)) q := by
  have hp : p = 8 * (p / 8) + p % 8 := by omega
  have hr : p % 8 < 8 := Nat.mod_lt _ (by omega)
  generalize p / 8 = q at *
  generalize p % 8 = r at *
  subst hp
  have e2 : 2 ^ (r * 8) = 256 ^ r := by rw [Nat.mul_comm, Nat.pow_mul]
  have eB : BB ^ q = 256 ^ (8 * q) := by rw [BB_256, ← Nat.pow_mul]
  have eN : V * 256 ^ (8 * q + r + 1) = BB ^ q * (V * 256 ^ (r + 1)) := by rw [eB, Nat.add_assoc, Nat.pow_add, Nat.mul_left_comm]
  have ec : c * 256 ^ (8 * q + r) = BB ^ q * (c * 256 ^ r) := by rw [eB, Nat.pow_add, Nat.mul_left_comm]
  have hB : BB = 256 ^ (r + 1) * 256 ^ (7 - r) := by rw [BB_256, ← Nat.pow_add]; congr 1; omega
  have c9 : c * 256 ^ r < 256 ^ (r + 1) := by
    rw [Nat.pow_succ, Nat.mul_comm]
    exact Nat.mul_lt_mul_of_pos_left hc (Nat.pow_pos (by omega))
  have c8 : c * 256 ^ r < BB := by
    have : 256 ^ (r + 1) * 1 ≤ 256 ^ (r + 1) * 256 ^ (7 - r) := Nat.mul_le_mul_left _ (Nat.pow_pos (by omega))
    omega
  have m0 : V * 256 ^ (r + 1) % BB % 256 ^ (r + 1) = 0 := by
    rw [hB, Nat.mod_mul_right_mod, Nat.mul_mod_left]
  have m1 : (V * 256 ^ (r + 1) + c * 256 ^ r) % BB = V * 256 ^ (r + 1) % BB + c * 256 ^ r := by
    have h1 : V * 256 ^ (r + 1) % BB + c * 256 ^ r < BB := by
      have e : V * 256 ^ (r + 1) % BB = 256 ^ (r + 1) * (V % 256 ^ (7 - r)) := by
        rw [hB, Nat.mul_comm V, Nat.mul_mod_mul_left]
      have h2 : V % 256 ^ (7 - r) + 1 ≤ 256 ^ (7 - r) := Nat.mod_lt _ (Nat.pow_pos (by omega))
      have h3 : 256 ^ (r + 1) * (V % 256 ^ (7 - r) + 1) ≤ 256 ^ (r + 1) * 256 ^ (7 - r) := Nat.mul_le_mul_left _ h2
      rw [Nat.mul_add, Nat.mul_one] at h3
      omega
    rw [← Nat.mod_add_mod, Nat.mod_eq_of_lt h1]
  rw [e2, eN, ec, ← Nat.mul_add]
  refine ⟨?_, c8, ?_⟩
  · unfold w4
    rw [Nat.mul_div_cancel_left _ (BBp q), Nat.mul_div_cancel_left _ (BBp q), m1]
    have e3 : 256 ^ (r + 1) = 2 ^ (8 * (r + 1)) := by rw [Nat.pow_mul]
    rw [or_add (k := 8 * (r + 1)) (by rw [← e3]; exact m0) (by rw [← e3]; exact c9)]
  · intro t ht
    unfold w4
    rcases Nat.lt_or_gt_of_ne ht with h | h
    · have e : BB ^ q = BB ^ t * (BB * BB ^ (q - t - 1)) := by rw [← Nat.mul_assoc, ← Nat.pow_succ, ← Nat.pow_add]; congr 1; omega
      have z : ∀ y, BB ^ q * y / BB ^ t % BB = 0 := by
        intro y
        rw [e, Nat.mul_assoc, Nat.mul_div_cancel_left _ (BBp t), Nat.mul_assoc, Nat.mul_mod_right]
      rw [z, z]
    · have e : BB ^ t = BB ^ q * (BB * BB ^ (t - q - 1)) := by rw [← Nat.mul_assoc, ← Nat.pow_succ, ← Nat.pow_add]; congr 1; omega
      rw [e, Nat.mul_div_mul_left _ _ (BBp q), Nat.mul_div_mul_left _ _ (BBp q), ← Nat.div_div_eq_div_mul, ← Nat.div_div_eq_div_mul]
      congr 2
      rw [hB, ← Nat.div_div_eq_div_mul, ← Nat.div_div_eq_div_mul]
      congr 1
      rw [Nat.mul_comm V, Nat.mul_add_div (Nat.pow_pos (by omega)), Nat.div_eq_of_lt c9, Nat.add_zero, Nat.mul_div_cancel_left _ (Nat.pow_pos (by omega))]
end Go.Proofs.YtohpbclofcflaaaGreat
