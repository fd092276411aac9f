/- How often a modulus is taken off at once. -/
import Derived.Test.YtohpbclofcflaaaGreatBe
set_option linter.unusedSimpArgs false
set_option linter.unusedVariables false
namespace Go.Proofs.YtohpbclofcflaaaGreat
open Go.RowKit Go.Deep Go.PlainAid

theorem P6 (k : Nat) : 0 < 65536 ^ k := Nat.pow_pos (by omega)
/-- The first digit. -/
theorem top_digit {n : Nat} (h : 0 < (dg 65536 n).length) : (dg 65536 n).getD ((dg 65536 n).length - 1) 0 = n / 65536 ^ ((dg 65536 n).length - 1) := by
  have l := lt_pow_dg b16 n
  rw [dg_getD b16]
  refine Nat.mod_eq_of_lt (Nat.div_lt_of_lt_mul ?_)
  rw [← Nat.pow_succ, Nat.succ_eq_add_one, Nat.sub_add_cancel h]
  exact l
/-- The first two. -/
theorem top_digits {n : Nat} (h : 1 < (dg 65536 n).length) : (dg 65536 n).getD ((dg 65536 n).length - 1) 0 * 65536 + (dg 65536 n).getD ((dg 65536 n).length - 2) 0 = n / 65536 ^ ((dg 65536 n).length - 2) := by
  rw [top_digit (by omega), dg_getD b16]
  have e : 65536 ^ ((dg 65536 n).length - 1) = 65536 ^ ((dg 65536 n).length - 2) * 65536 := by rw [← Nat.pow_succ]; congr 1; omega
  rw [e, ← Nat.div_div_eq_div_mul]
  omega
theorem fits {a m n t e k : Nat} (h : n * (m / 65536 ^ t + 1) ≤ a / 65536 ^ e) (hk : t + k = e) : n * m * 65536 ^ k ≤ a := by
  have h1 : m ≤ (m / 65536 ^ t + 1) * 65536 ^ t := by
    rw [Nat.mul_comm]
    exact Nat.le_of_lt (Nat.lt_mul_div_succ m (P6 t))
  have g1 : n * m * 65536 ^ k ≤ n * ((m / 65536 ^ t + 1) * 65536 ^ t) * 65536 ^ k := Nat.mul_le_mul_right _ (Nat.mul_le_mul_left _ h1)
  have g2 : n * ((m / 65536 ^ t + 1) * 65536 ^ t) * 65536 ^ k = n * (m / 65536 ^ t + 1) * 65536 ^ e := by rw [← Nat.mul_assoc, Nat.mul_assoc, ← Nat.pow_add, hk]
  have g3 : n * (m / 65536 ^ t + 1) * 65536 ^ e ≤ a / 65536 ^ e * 65536 ^ e := Nat.mul_le_mul_right _ h
  have g4 : a / 65536 ^ e * 65536 ^ e ≤ a := Nat.div_mul_le_self _ _
  omega
/-- Many at a time. -/
theorem off_many {a m u t n k : Nat} (la : (dg 65536 m).length ≤ (dg 65536 a).length) (lm : 0 < (dg 65536 m).length) (hu : u = (dg 65536 m).getD ((dg 65536 m).length - 1) 0) (ht : t = (dg 65536 a).getD ((dg 65536 a).length - 1) 0)
    (hn : n = t / (u + 1)) (hk : k + (dg 65536 m).length = (dg 65536 a).length) : n * m * 65536 ^ k ≤ a ∧ n < 65536 := by
  have h1 := top_digit (n := m) lm
  have h2 := top_digit (n := a) (by omega)
  have h3 : t < 65536 := by rw [ht]; exact getD_lt (dg_mem b16 a) _
  have h4 : n * (u + 1) ≤ t := by rw [hn]; exact Nat.div_mul_le_self _ _
  have h5 : n ≤ t := by rw [hn]; exact Nat.div_le_self _ _
  refine ⟨fits (t := (dg 65536 m).length - 1) (e := (dg 65536 a).length - 1) ?_ (by omega), by omega⟩
  rw [← h1, ← h2, ← hu, ← ht]
  exact h4
/-- Many at a time, one digit lower. -/
theorem off_more {a m u t s n k : Nat} (la : (dg 65536 m).length < (dg 65536 a).length) (lm : 0 < (dg 65536 m).length) (hu : u = (dg 65536 m).getD ((dg 65536 m).length - 1) 0) (ht : t = (dg 65536 a).getD ((dg 65536 a).length - 1) 0)
    (hs : s = (dg 65536 a).getD ((dg 65536 a).length - 2) 0) (h0 : t / (u + 1) = 0) (hn : n = (t * 65536 + s) / (u + 1)) (hk : k + 1 + (dg 65536 m).length = (dg 65536 a).length) : n * m * 65536 ^ k ≤ a ∧ n < 65536 ∧ 0 < n := by
  have h1 := top_digit (n := m) lm
  have h2 := top_digits (n := a) (by omega)
  have h3 : t < 65536 := by rw [ht]; exact getD_lt (dg_mem b16 a) _
  have h6 : s < 65536 := by rw [hs]; exact getD_lt (dg_mem b16 a) _
  have h7 : u < 65536 := by rw [hu]; exact getD_lt (dg_mem b16 m) _
  have h8 : t < u + 1 := by
    rcases Nat.lt_or_ge t (u + 1) with h | h
    · exact h
    · have := Nat.div_pos h (by omega); omega
  have h9 : t ≠ 0 := by
    have := dg_topped b16 a
    rcases this with h | h
    · rw [h] at la; simp at la
    · rw [ht]; exact h
  have h4 : n * (u + 1) ≤ t * 65536 + s := by rw [hn]; exact Nat.div_mul_le_self _ _
  have h5 : n < 65536 := by rw [hn]; exact Nat.div_lt_of_lt_mul (by omega)
  have h10 : 0 < n := by rw [hn]; exact Nat.div_pos (by omega) (by omega)
  refine ⟨fits (t := (dg 65536 m).length - 1) (e := (dg 65536 a).length - 2) ?_ (by omega), h5, h10⟩
  rw [← h1, ← h2, ← hu, ← ht, ← hs]
  exact h4
theorem off_less {a m n k : Nat} (hm : 0 < m) (hn : 0 < n) (h : n * m * 65536 ^ k ≤ a) : a - n * m * 65536 ^ k < a ∧ (a - n * m * 65536 ^ k) % m = a % m := by
  have h1 : 0 < n * m * 65536 ^ k := Nat.mul_pos (Nat.mul_pos hn hm) (P6 k)
  refine ⟨by omega, ?_⟩
  have e : (a - n * m * 65536 ^ k + n * m * 65536 ^ k) % m = a % m := by rw [Nat.sub_add_cancel h]
  rw [show n * m * 65536 ^ k = m * (n * 65536 ^ k) by rw [Nat.mul_comm n m, Nat.mul_assoc]] at e ⊢
  rw [Nat.add_mul_mod_self_left] at e
  exact e
/-- What is taken off, moved up. -/
def moved (k : Nat) (l : List Nat) : List Nat := List.replicate k 0 ++ l
theorem moved_mem {k : Nat} {l : List Nat} (h : ∀ d ∈ l, d < 65536) : ∀ d ∈ moved k l, d < 65536 := by
  intro d hd
  rcases List.mem_append.1 hd with h1 | h1
  · rw [List.mem_replicate] at h1; omega
  · exact h d h1
theorem vl_moved (k : Nat) (l : List Nat) : vl 65536 (moved k l) = vl 65536 l * 65536 ^ k := by
  rw [moved, vl_append, vl_zeros, List.length_replicate, Nat.zero_add, Nat.mul_comm]
theorem moved_low {k i : Nat} {l : List Nat} (h : i < k) : (moved k l).getD i 0 = 0 := by
  rw [moved, List.getD_eq_getElem?_getD, List.getElem?_append_left (by simpa using h), List.getElem?_replicate]
  split <;> rfl
theorem moved_in {k i : Nat} {l : List Nat} (h : k ≤ i) (h2 : i - k < l.length) : (moved k l).getD i 0 = l[i - k] := by
  rw [moved, List.getD_eq_getElem?_getD, List.getElem?_append_right (by simpa using h), List.length_replicate, List.getElem?_eq_getElem h2]
  rfl
theorem moved_high {k i : Nat} {l : List Nat} (h : k ≤ i) (h2 : l.length ≤ i - k) : (moved k l).getD i 0 = 0 := by
  rw [moved, List.getD_eq_getElem?_getD, List.getElem?_append_right (by simpa using h), List.length_replicate, List.getElem?_eq_none h2]
  rfl
/-- What is left. -/
theorem puts_end {a m n k : Nat} {p : List Nat} {c : Int} (h : Puts 65536 (dg 65536 a) (moved k (dg 65536 m)) (-(n : Int)) (dg 65536 a).length p c) (hn : n * m * 65536 ^ k ≤ a) (h0 : 0 < n) (hc : c ≤ 0) : vl 65536 p = a - n * m * 65536 ^ k := by
  have eq := h.eq
  have hl : (moved k (dg 65536 m)).length ≤ (dg 65536 a).length ∨ m = 0 := by
    by_cases hm : m = 0
    · exact Or.inr hm
    · refine Or.inl ?_
      simp only [moved, List.length_append, List.length_replicate]
      have h1 : 1 * m * 65536 ^ k ≤ n * m * 65536 ^ k := Nat.mul_le_mul_right _ (Nat.mul_le_mul_right _ h0)
      rw [Nat.one_mul] at h1
      have hq : (dg 65536 m).length ≠ 0 := by rw [Ne, dg_length_zero b16]; exact hm
      have h2 : 65536 ^ ((dg 65536 m).length - 1) ≤ m := pow_le_of_len b16 _ _ (by omega)
      have h3 : 65536 ^ ((dg 65536 m).length - 1) * 65536 ^ k ≤ m * 65536 ^ k := Nat.mul_le_mul_right _ h2
      rw [← Nat.pow_add] at h3
      have h4 := lt_pow_dg b16 a
      have h5 : 65536 ^ ((dg 65536 m).length - 1 + k) < 65536 ^ (dg 65536 a).length := by omega
      have h6 := (Nat.pow_lt_pow_iff_right (by omega)).1 h5
      omega
  have e2 : vl 65536 ((moved k (dg 65536 m)).take (dg 65536 a).length) = m * 65536 ^ k := by
    rcases hl with hl | hl
    · rw [List.take_of_length_le hl, vl_moved, vl_dg b16]
    · have : vl 65536 ((moved k (dg 65536 m)).take (dg 65536 a).length) ≤ vl 65536 (moved k (dg 65536 m)) := vl_take_le _ _ _
      rw [vl_moved, vl_dg b16] at this
      subst hl
      omega
  rw [List.take_of_length_le (Nat.le_refl _), vl_dg b16, e2] at eq
  have lp := vl_lt 65536 p h.low
  rw [h.len] at lp
  rw [Nat.mul_assoc] at hn ⊢
  clear e2 hl
  generalize m * 65536 ^ k = X at *
  rw [← Int.natCast_pow] at eq
  generalize 65536 ^ (dg 65536 a).length = Z at *
  rw [Int.neg_mul, ← Int.natCast_mul] at eq
  generalize n * X = Q at *
  have hcz : c = 0 := by
    rcases Int.lt_or_eq_of_le hc with h1 | h1
    · exfalso
      have h2 : c * (Z : Int) ≤ (-1) * (Z : Int) := Int.mul_le_mul_of_nonneg_right (by omega) (by omega)
      omega
    · exact h1
  rw [hcz] at eq
  omega
end Go.Proofs.YtohpbclofcflaaaGreat
