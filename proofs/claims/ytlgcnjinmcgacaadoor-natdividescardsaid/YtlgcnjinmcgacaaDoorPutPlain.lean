/- Plain: one number added to another some times, limb by limb; what is carried. -/
import Derived.Test.YtlgcnjinmcgacaaDoorDigits
set_option linter.unusedSimpArgs false
set_option linter.unusedVariables false
namespace Go.Proofs.YtlgcnjinmcgacaaDoor

theorem vl_take_succ (B : Nat) (l : List Nat) (i : Nat) : vl B (l.take (i + 1)) = vl B (l.take i) + B ^ i * l.getD i 0 := by
  by_cases h : i < l.length
  · rw [List.take_succ_eq_append_getElem h, vl_snoc, List.length_take, Nat.min_eq_left (by omega), List.getD_eq_getElem?_getD, List.getElem?_eq_getElem h]; rfl
  · rw [List.take_of_length_le (by omega), List.take_of_length_le (by omega), List.getD_eq_getElem?_getD, List.getElem?_eq_none (by omega)]; simp
/-- What holds when i limbs were gone through: p are the new ones, c is carried. -/
structure Puts (B : Nat) (l m : List Nat) (t : Int) (i : Nat) (p : List Nat) (c : Int) : Prop where
  len : p.length = i
  low : ∀ d ∈ p, d < B
  eq : (vl B (l.take i) : Int) + t * (vl B (m.take i) : Int) = (vl B p : Int) + c * (B : Int) ^ i
  hi : c ≤ t ∨ c ≤ 0
  lo : t ≤ c ∨ 0 ≤ c
theorem Puts.zero (B : Nat) (l m : List Nat) (t : Int) : Puts B l m t 0 [] 0 :=
  ⟨rfl, (fun d h => by cases h), by simp [vl], Or.inr (by omega), Or.inr (by omega)⟩
theorem Puts.step {B : Nat} {l m : List Nat} {t : Int} {i : Nat} {p : List Nat} {c : Int} (h : Puts B l m t i p c) (hB : 2 ≤ B) (x : Nat) (c' : Int) (hx : x < B) (hl : ∀ d ∈ l, d < B) (hm : ∀ d ∈ m, d < B)
    (he : (l.getD i 0 : Int) + t * (m.getD i 0 : Int) + c = (x : Int) + c' * (B : Int)) : Puts B l m t (i + 1) (p ++ [x]) c' := by
  have e1 := vl_take_succ B l i
  have e2 := vl_take_succ B m i
  have e3 := vl_snoc B p x
  have hli : l.getD i 0 < B := by
    by_cases hi : i < l.length
    · rw [List.getD_eq_getElem?_getD, List.getElem?_eq_getElem hi]; exact hl _ (List.getElem_mem _)
    · rw [List.getD_eq_getElem?_getD, List.getElem?_eq_none (by omega)]; simp; omega
  have hmi : m.getD i 0 < B := by
    by_cases hi : i < m.length
    · rw [List.getD_eq_getElem?_getD, List.getElem?_eq_getElem hi]; exact hm _ (List.getElem_mem _)
    · rw [List.getD_eq_getElem?_getD, List.getElem?_eq_none (by omega)]; simp; omega
  refine ⟨by simp [h.len], ?_, ?_, ?_, ?_⟩
  · intro d hd
    rcases List.mem_append.1 hd with hd | hd
    · exact h.low d hd
    · simp at hd; omega
  · rw [e1, e2, e3, h.len]
    have h0 := h.eq
    push_cast
    have : (B : Int) ^ i * ((l.getD i 0 : Int) + t * (m.getD i 0 : Int) + c) = (B : Int) ^ i * ((x : Int) + c' * (B : Int)) := by rw [he]
    grind
  · generalize l.getD i 0 = u at *
    generalize m.getD i 0 = v at *
    by_cases hc : c' ≤ 0
    · exact Or.inr hc
    · refine Or.inl ?_
      by_cases hc2 : c' ≤ t
      · exact hc2
      · exfalso
        have hpos : 1 ≤ c' := by omega
        by_cases ht : 0 ≤ t
        · have k1 : t * (v : Int) ≤ t * ((B : Int) - 1) := Int.mul_le_mul_of_nonneg_left (by omega) ht
          have k2 : (t + 1) * (B : Int) ≤ c' * (B : Int) := Int.mul_le_mul_of_nonneg_right (by omega) (by omega)
          have k3 : t * ((B : Int) - 1) = t * (B : Int) - t := by grind
          have k4 : (t + 1) * (B : Int) = t * (B : Int) + B := by grind
          have := h.hi
          omega
        · have k1 : t * (v : Int) ≤ 0 := Int.mul_nonpos_of_nonpos_of_nonneg (by omega) (by omega)
          have k2 : 1 * (B : Int) ≤ c' * (B : Int) := Int.mul_le_mul_of_nonneg_right hpos (by omega)
          have := h.hi
          omega
  · generalize l.getD i 0 = u at *
    generalize m.getD i 0 = v at *
    by_cases hc : 0 ≤ c'
    · exact Or.inr hc
    · refine Or.inl ?_
      by_cases hc2 : t ≤ c'
      · exact hc2
      · exfalso
        have hneg : c' ≤ -1 := by omega
        by_cases ht : 0 ≤ t
        · have k1 : 0 ≤ t * (v : Int) := Int.mul_nonneg ht (by omega)
          have k2 : c' * (B : Int) ≤ (-1) * (B : Int) := Int.mul_le_mul_of_nonneg_right hneg (by omega)
          have := h.lo
          omega
        · have k1 : t * ((B : Int) - 1) ≤ t * (v : Int) := Int.mul_le_mul_of_nonpos_left (by omega) (by omega)
          have k2 : c' * (B : Int) ≤ (t - 1) * (B : Int) := Int.mul_le_mul_of_nonneg_right (by omega) (by omega)
          have k3 : t * ((B : Int) - 1) = t * (B : Int) - t := by grind
          have k4 : (t - 1) * (B : Int) = t * (B : Int) - B := by grind
          have := h.lo
          omega

/-- Go's quotient and remainder of a number below 0. -/
theorem tdiv_neg (s : Int) (h : s < 0) : s.tmod 1000000000 ≤ 0 ∧ -1000000000 < s.tmod 1000000000 ∧ s = s.tdiv 1000000000 * 1000000000 + s.tmod 1000000000 := by
  have h1 := Int.tmod_add_mul_tdiv s 1000000000
  have h2 := Int.neg_tdiv s 1000000000
  have h3 := Int.neg_tmod s 1000000000
  have h4 : (-s).tdiv 1000000000 = (-s) / 1000000000 := Int.tdiv_eq_ediv_of_nonneg (by omega)
  have h5 : (-s).tmod 1000000000 = (-s) % 1000000000 := Int.tmod_eq_emod_of_nonneg (by omega)
  omega
end Go.Proofs.YtlgcnjinmcgacaaDoor
