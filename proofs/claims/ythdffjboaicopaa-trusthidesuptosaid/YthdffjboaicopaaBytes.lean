/- Numbers in bytes; the reference's Text. -/
import Derived.Test.YthdffjboaicopaaPlus
set_option linter.unusedSimpArgs false
set_option linter.unusedVariables false
namespace Go.Proofs.Ythdffjboaicopaa
open Go.RowKit Go.Deep Go.PlainAid

/-- The k lowest bytes of a number, the highest first. -/
def beB : Nat → Nat → List UInt8
  | 0, _ => []
  | k + 1, N => UInt8.ofNat (N / 256 ^ k % 256) :: beB k N
theorem beB_length (N : Nat) : ∀ k, (beB k N).length = k
  | 0 => rfl
  | k + 1 => by simp [beB, beB_length N k]
theorem beB_get (N : Nat) : ∀ (k i : Nat) (h : i < (beB k N).length), (beB k N)[i] = UInt8.ofNat (N / 256 ^ (k - 1 - i) % 256)
  | 0, i, h => by simp [beB] at h
  | k + 1, 0, h => by simp [beB]
  | k + 1, i + 1, h => by
    have h' : i < (beB k N).length := by simp [beB] at h; exact h
    have := beB_get N k i h'
    simp only [beB, List.getElem_cons_succ]
    rw [this]
    congr 3
    rw [beB_length] at h'
    congr 1
    omega
theorem dg_getD {B : Nat} (hB : 2 ≤ B) : ∀ (i N : Nat), (dg B N).getD i 0 = N / B ^ i % B
  | 0, N => by
    by_cases h : N = 0
    · subst h; rw [dg_zero]; simp
    · rw [dg_pos hB h]; simp
  | i + 1, N => by
    by_cases h : N = 0
    · subst h; rw [dg_zero]; simp
    · rw [dg_pos hB h]
      have := dg_getD hB i (N / B)
      simp only [List.getD_cons_succ]
      rw [this, Nat.div_div_eq_div_mul, Nat.pow_succ, Nat.mul_comm B]
theorem byte_even (N j : Nat) : N / 65536 ^ j % 65536 % 256 = N / 256 ^ (2 * j) % 256 := by
  rw [Nat.pow_mul, show (256 : Nat) ^ 2 = 65536 from rfl]
  generalize N / 65536 ^ j = x
  omega
theorem byte_odd (N j : Nat) : N / 65536 ^ j % 65536 / 256 % 256 = N / 256 ^ (2 * j + 1) % 256 := by
  rw [Nat.pow_succ, Nat.pow_mul, show (256 : Nat) ^ 2 = 65536 from rfl, ← Nat.div_div_eq_div_mul]
  generalize N / 65536 ^ j = x
  omega
theorem byte_high {N i : Nat} (h : (dg 65536 N).length ≤ i / 2) : N / 256 ^ i % 256 = 0 := by
  have h1 := lt_pow_dg b16 N
  have h2 : 65536 ^ (dg 65536 N).length ≤ 65536 ^ (i / 2) := Nat.pow_le_pow_right (by omega) h
  have h3 : (65536 : Nat) ^ (i / 2) ≤ 256 ^ i := by
    rw [show (65536 : Nat) = 256 ^ 2 from rfl, ← Nat.pow_mul]
    exact Nat.pow_le_pow_right (by omega) (by omega)
  rw [Nat.div_eq_of_lt (by omega)]
/-- What is laid after i bytes, from the last one on. -/
def laidT (S i N : Nat) : List UInt8 := List.replicate (S - i) 0 ++ beB i N
theorem laidT_length {S i N : Nat} (h : i ≤ S) : (laidT S i N).length = S := by simp [laidT, beB_length]; omega
theorem ys_set (l : List UInt8) (t : Nat) (x : UInt8) (y : Int) (hy : y = (x.toNat : Int)) : (ys l).set t (.int .u8 y) = ys (l.set t x) := by
  subst hy; simp [ys, List.map_set]
theorem laidT_step {S i N x : Nat} (h : i < S) (hx : x = N / 256 ^ i % 256) : (ys (laidT S i N)).set (S - 1 - i) (.int .u8 (x : Int)) = ys (laidT S (i + 1) N) := by
  have hx2 : x < 256 := by omega
  rw [ys_set _ _ (UInt8.ofNat x) _ (by rw [UInt8.toNat_ofNat']; omega)]
  congr 1
  unfold laidT
  rw [List.set_append_left _ _ (by simp; omega)]
  have e : List.replicate (S - i) (0 : UInt8) = List.replicate (S - (i + 1)) 0 ++ [0] := by
    rw [← List.replicate_succ']
    congr 1
    omega
  rw [e, List.set_append_right _ _ (by simp; omega)]
  rw [show S - 1 - i - (List.replicate (S - (i + 1)) (0 : UInt8)).length = 0 by simp; omega]
  rw [List.append_assoc]
  simp [beB, hx]
theorem laidT_none {S i N : Nat} (h : i < S) (h0 : N / 256 ^ i % 256 = 0) : laidT S i N = laidT S (i + 1) N := by
  unfold laidT
  have e : List.replicate (S - i) (0 : UInt8) = List.replicate (S - (i + 1)) 0 ++ [0] := by
    rw [← List.replicate_succ']
    congr 1
    omega
  rw [e, List.append_assoc, beB, h0]
  rfl
end Go.Proofs.Ythdffjboaicopaa
