/- Plain: a step of the long division. -/
import Derived.Test.YtlgcnjinmcgacaaDoorTimes
import Derived.Test.YtlgcnjinmcgacaaDoorDivPlain
set_option linter.unusedSimpArgs false
set_option linter.unusedVariables false
namespace Go.Proofs.YtlgcnjinmcgacaaDoor

/-- What is left, and the limbs of the quotient that are there, when i of these are still to come. -/
structure DivS (B N D k i : Nat) (R Q : List Nat) : Prop where
  low : ∀ x ∈ R, x < B
  lowQ : ∀ x ∈ Q, x < B
  len : i + k + 1 ≤ R.length + 1
  eq : N = vl B R + B ^ i * vl B Q * D
  lt : vl B R < D * B ^ i
/-- The part that is looked at is below the divisor times the base, and nothing lies above it. -/
theorem DivS.part {B N D k j : Nat} {R Q : List Nat} (h : DivS B N D k (j + 1) R Q) (hB : 2 ≤ B) (hD : D < B ^ k) :
    vl B ((R.drop j).take (k + 1)) < D * B ∧ vl B (R.drop (j + (k + 1))) = 0 ∧ vl B (R.take j) < B ^ j ∧ vl B R = vl B (R.take j) + B ^ j * vl B ((R.drop j).take (k + 1)) := by
  have hl := h.len
  have e := vl_three B R j (k + 1) (by omega)
  have hlow := vl_lt B (R.take j) (fun d hd => h.low d (List.mem_of_mem_take hd))
  rw [List.length_take, Nat.min_eq_left (by omega)] at hlow
  have hlt := h.lt
  generalize vl B ((R.drop j).take (k + 1)) = P at *
  generalize vl B (R.drop (j + (k + 1))) = Z at *
  generalize vl B (R.take j) = L at *
  have hj : 0 < B ^ j := Nat.pow_pos (by omega)
  have h1 : P + B ^ (k + 1) * Z < D * B := by
    have e2 : D * B ^ (j + 1) = B ^ j * (D * B) := by rw [Nat.pow_succ]; grind
    have : B ^ j * (P + B ^ (k + 1) * Z) < B ^ j * (D * B) := by omega
    exact Nat.lt_of_mul_lt_mul_left this
  have h2 : Z = 0 := by
    rcases Nat.eq_zero_or_pos Z with h0 | h0
    · exact h0
    · exfalso
      have h3 : B ^ (k + 1) * 1 ≤ B ^ (k + 1) * Z := Nat.mul_le_mul_left _ h0
      have h4 : D * B ≤ B ^ k * B := Nat.mul_le_mul_right _ (by omega)
      have h5 : B ^ (k + 1) = B ^ k * B := Nat.pow_succ _ _
      omega
  subst h2
  simp only [Nat.mul_zero, Nat.add_zero] at h1 e
  exact ⟨h1, rfl, hlow, e⟩
theorem DivS.step {B N D k j : Nat} {R Q : List Nat} (h : DivS B N D k (j + 1) R Q) (hB : 2 ≤ B) (hD : D < B ^ k) (hD0 : 0 < D) (p : List Nat) (q : Nat) (hp : p.length = k + 1) (hpl : ∀ x ∈ p, x < B)
    (hq : q = vl B ((R.drop j).take (k + 1)) / D) (hv : vl B p = vl B ((R.drop j).take (k + 1)) % D) :
    DivS B N D k j (R.take j ++ p ++ R.drop (j + (k + 1))) (q :: Q) := by
  obtain ⟨h1, h2, h3, h4⟩ := h.part hB hD
  have hl := h.len
  have hlen : (R.take j).length = j := by rw [List.length_take]; omega
  have hvl : vl B (R.take j ++ p ++ R.drop (j + (k + 1))) = vl B (R.take j) + B ^ j * vl B p := by
    rw [List.append_assoc, vl_append, vl_append, hlen, h2]; simp
  have heq := h.eq
  have hdm := Nat.div_add_mod (vl B ((R.drop j).take (k + 1))) D
  have hml := Nat.mod_lt (vl B ((R.drop j).take (k + 1))) hD0
  refine ⟨?_, ?_, ?_, ?_, ?_⟩
  · intro x hx
    rcases List.mem_append.1 hx with hx | hx
    · rcases List.mem_append.1 hx with hx | hx
      · exact h.low x (List.mem_of_mem_take hx)
      · exact hpl x hx
    · exact h.low x (List.mem_of_mem_drop hx)
  · intro x hx
    rcases List.mem_cons.1 hx with rfl | hx
    · rw [hq, Nat.div_lt_iff_lt_mul hD0, Nat.mul_comm]; exact h1
    · exact h.lowQ x hx
  · rw [List.length_append, List.length_append, hlen, hp, List.length_drop]; omega
  · rw [hvl, heq, h4, hv]
    simp only [vl]
    rw [← hq] at hdm
    generalize vl B ((R.drop j).take (k + 1)) % D = P' at *
    rw [← hdm, Nat.pow_succ]
    grind
  · rw [hvl, hv]
    generalize vl B ((R.drop j).take (k + 1)) % D = P' at *
    have : B ^ j * (P' + 1) ≤ B ^ j * D := Nat.mul_le_mul_left _ hml
    have e1 : B ^ j * (P' + 1) = B ^ j * P' + B ^ j := by grind
    have e2 : D * B ^ j = B ^ j * D := Nat.mul_comm _ _
    omega
theorem DivS.done {B n d s k : Nat} {R Q : List Nat} (h : DivS B (n * s) (d * s) k 0 R Q) (hs : 0 < s) : vl B Q = n / d ∧ vl B R = n % d * s := by
  have e := h.eq
  have hlt := h.lt
  simp only [Nat.pow_zero, Nat.one_mul, Nat.mul_one] at e hlt
  have hpos : 0 < d * s := by omega
  constructor
  · have : (n * s) / (d * s) = vl B Q := by
      rw [e, Nat.add_comm, Nat.mul_comm, Nat.mul_add_div hpos, Nat.div_eq_of_lt hlt, Nat.add_zero]
    rw [← this, Nat.mul_div_mul_right _ _ hs]
  · have : (n * s) % (d * s) = vl B R := by
      rw [e, Nat.add_comm, Nat.mul_comm, Nat.mul_add_mod, Nat.mod_eq_of_lt hlt]
    rw [← this, Nat.mul_mod_mul_right]
/-- A put that falls below 0, and the one that brings it back. -/
theorem Puts.under {B : Nat} {l m : List Nat} {t : Int} {k : Nat} {p : List Nat} {c : Int} (h : Puts B l m t k p c) (hl : l.length ≤ k) (hm : m.length ≤ k) (x : Nat) (hx0 : 0 < x) (hx : (vl B l : Int) + t * (vl B m : Int) = -(x : Int)) (hk : x ≤ B ^ k) : c = -1 ∧ vl B p + x = B ^ k := by
  have e := h.eq
  rw [List.take_of_length_le hl, List.take_of_length_le hm, hx] at e
  have hp := vl_lt B p h.low
  rw [h.len] at hp
  have h1 : (B : Int) ^ k = ((B ^ k : Nat) : Int) := by push_cast; rfl
  rw [h1] at e
  generalize B ^ k = M at *
  have hc : c = -1 := by
    rcases Int.lt_trichotomy c (-1) with hc | hc | hc
    · exfalso
      have : c * (M : Int) ≤ (-2) * (M : Int) := Int.mul_le_mul_of_nonneg_right (by omega) (by omega)
      omega
    · exact hc
    · exfalso
      have : 0 * (M : Int) ≤ c * (M : Int) := Int.mul_le_mul_of_nonneg_right (by omega) (by omega)
      omega
  subst hc
  refine ⟨rfl, ?_⟩
  omega
theorem Puts.past {B : Nat} {l m : List Nat} {k : Nat} {p : List Nat} {c : Int} (h : Puts B l m 1 k p c) (hl : l.length ≤ k) (hm : m.length ≤ k) (N : Nat) (hN : vl B l + vl B m = N + B ^ k) (hk : N < B ^ k) : vl B p = N := by
  have e := h.eq
  rw [List.take_of_length_le hl, List.take_of_length_le hm] at e
  have hp := vl_lt B p h.low
  rw [h.len] at hp
  have h1 : (B : Int) ^ k = ((B ^ k : Nat) : Int) := by push_cast; rfl
  rw [h1] at e
  generalize B ^ k = M at *
  have hc : c = 1 := by
    rcases Int.lt_trichotomy c 1 with hc | hc | hc
    · exfalso
      have : c * (M : Int) ≤ 0 * (M : Int) := Int.mul_le_mul_of_nonneg_right (by omega) (by omega)
      omega
    · exact hc
    · exfalso
      have : 2 * (M : Int) ≤ c * (M : Int) := Int.mul_le_mul_of_nonneg_right (by omega) (by omega)
      omega
  subst hc
  omega
/-- The scale: the divisor keeps its length. -/
theorem scale_len {B d : Nat} (hB : 2 ≤ B) (hd : d ≠ 0) (s top : Nat) (ht : top = (dg B d).getD ((dg B d).length - 1) 0) (hs : s = B / (top + 1)) : 0 < s ∧ s ≤ B ∧ (dg B (d * s)).length = (dg B d).length ∧ top < B := by
  have hm := dg_mem hB d
  have htop := dg_topped hB d
  have hne : dg B d ≠ [] := fun e => hd ((dg_eq_nil hB).1 e)
  have hlen : 0 < (dg B d).length := List.length_pos_iff.2 hne
  have htB : top < B := by
    rw [ht, List.getD_eq_getElem?_getD, List.getElem?_eq_getElem (by omega)]
    exact hm _ (List.getElem_mem _)
  have hs0 : 0 < s := by rw [hs]; exact Nat.div_pos (by omega) (by omega)
  have hsB : s ≤ B := by rw [hs]; exact Nat.div_le_self _ _
  refine ⟨hs0, hsB, ?_, htB⟩
  apply Nat.le_antisymm
  · refine dg_len_le hB _ _ ?_
    obtain ⟨k, hk⟩ : ∃ k, (dg B d).length = k + 1 := ⟨(dg B d).length - 1, by omega⟩
    have e := vl_take_succ B (dg B d) k
    rw [List.take_of_length_le (by omega), vl_dg hB] at e
    have hl := vl_lt B ((dg B d).take k) (fun x hx => hm x (List.mem_of_mem_take hx))
    rw [List.length_take, Nat.min_eq_left (by omega)] at hl
    have et : (dg B d).getD k 0 = top := by rw [ht, hk]; rfl
    rw [et] at e
    rw [hk, Nat.pow_succ]
    have h1 : d < B ^ k * (top + 1) := by
      have : B ^ k * (top + 1) = B ^ k * top + B ^ k := by grind
      omega
    have h2 : (top + 1) * s ≤ B := by rw [hs]; exact Nat.mul_div_le _ _
    calc d * s < (B ^ k * (top + 1)) * s := Nat.mul_lt_mul_of_pos_right h1 hs0
      _ = B ^ k * ((top + 1) * s) := Nat.mul_assoc _ _ _
      _ ≤ B ^ k * B := Nat.mul_le_mul_left _ h2
  · refine dg_len_mono hB ?_
    calc d = d * 1 := (Nat.mul_one d).symm
      _ ≤ d * s := Nat.mul_le_mul_left _ hs0
theorem DivS.start {B n d s : Nat} (hB : 2 ≤ B) (hs : 0 < s) {R : List Nat} (hd : 0 < (dg B d).length) (hle : (dg B d).length ≤ (dg B n).length) (hR : R.length = (dg B n).length + 1) (hl : ∀ x ∈ R, x < B) (hv : vl B R = n * s) :
    DivS B (n * s) (d * s) (dg B d).length ((dg B n).length - (dg B d).length + 1) R [] := by
  refine ⟨hl, (fun x hx => by cases hx), by omega, by simp [vl, hv], ?_⟩
  rw [hv]
  have h1 := lt_pow_dg hB n
  have h2 := pow_le_of_len hB ((dg B d).length - 1) d (by omega)
  have e : B ^ (dg B n).length = B ^ ((dg B d).length - 1) * B ^ ((dg B n).length - (dg B d).length + 1) := by rw [← Nat.pow_add]; congr 1; omega
  have h3 : B ^ ((dg B d).length - 1) * B ^ ((dg B n).length - (dg B d).length + 1) ≤ d * B ^ ((dg B n).length - (dg B d).length + 1) := Nat.mul_le_mul_right _ h2
  calc n * s < B ^ (dg B n).length * s := Nat.mul_lt_mul_of_pos_right h1 hs
    _ ≤ (d * B ^ ((dg B n).length - (dg B d).length + 1)) * s := Nat.mul_le_mul_right _ (by omega)
    _ = d * s * B ^ ((dg B n).length - (dg B d).length + 1) := by grind
end Go.Proofs.YtlgcnjinmcgacaaDoor
