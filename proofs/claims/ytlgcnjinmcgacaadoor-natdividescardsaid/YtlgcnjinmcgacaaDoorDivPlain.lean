/- Plain: division as on paper, limb by limb; a guess of a limb is right, or one too high. -/
import Derived.Test.YtlgcnjinmcgacaaDoorPutPlain
set_option linter.unusedSimpArgs false
set_option linter.unusedVariables false
namespace Go.Proofs.YtlgcnjinmcgacaaDoor

/-- The three first limbs against the two first ones of the divisor. -/
theorem guess_near {B P D n3 d2 E pl dl : Nat} (hB : 2 ≤ B) (hE : 0 < E) (hP : P = n3 * E + pl) (hpl : pl < E) (hD : D = d2 * E + dl) (hdl : dl < E) (hd2 : B ≤ d2) (hPD : P < D * B) :
    n3 / d2 = P / D ∨ n3 / d2 = P / D + 1 := by
  have hDpos : 0 < D := by
    have : 0 < d2 * E := Nat.mul_pos (by omega) hE
    omega
  have hlow : P / D ≤ n3 / d2 := by
    rw [Nat.le_div_iff_mul_le (by omega)]
    have h1 : P / D * D ≤ P := Nat.div_mul_le_self P D
    have h2 : P / D * (d2 * E) ≤ P / D * D := Nat.mul_le_mul_left _ (by omega)
    have h3 : (P / D * d2) * E < (n3 + 1) * E := by
      have e1 : (P / D * d2) * E = P / D * (d2 * E) := Nat.mul_assoc _ _ _
      have e2 : (n3 + 1) * E = n3 * E + E := by rw [Nat.add_mul, Nat.one_mul]
      omega
    have := Nat.lt_of_mul_lt_mul_right h3
    omega
  have hn3 : n3 < (d2 + 1) * B := by
    have h1 : n3 * E < ((d2 + 1) * B) * E := by
      have e1 : ((d2 + 1) * B) * E = (d2 * E + E) * B := by grind
      have h2 : D * B ≤ (d2 * E + E) * B := Nat.mul_le_mul_right _ (by omega)
      omega
    exact Nat.lt_of_mul_lt_mul_right h1
  have hh : n3 / d2 ≤ d2 := by
    have h1 : n3 / d2 < B + 1 := by
      rw [Nat.div_lt_iff_lt_mul (by omega)]
      have e1 : (d2 + 1) * B = d2 * B + B := by grind
      have e2 : (B + 1) * d2 = d2 * B + d2 := by grind
      omega
    omega
  have hup : n3 / d2 ≤ P / D + 1 := by
    rcases Nat.eq_zero_or_pos (n3 / d2) with h0 | h0
    · rw [h0]; exact Nat.zero_le _
    · have : n3 / d2 - 1 ≤ P / D := by
        rw [Nat.le_div_iff_mul_le hDpos]
        obtain ⟨t, ht⟩ : ∃ t, n3 / d2 = t + 1 := ⟨n3 / d2 - 1, (Nat.sub_add_cancel h0).symm⟩
        rw [ht]
        have h1 : (t + 1) * d2 ≤ n3 := by rw [← ht]; exact Nat.div_mul_le_self _ _
        have h2 : t * (d2 + 1) ≤ n3 := by
          have e1 : t * (d2 + 1) = t * d2 + t := by grind
          have e2 : (t + 1) * d2 = t * d2 + d2 := by grind
          omega
        have h3 : t * D ≤ t * ((d2 + 1) * E) := Nat.mul_le_mul_left _ (by
          have : (d2 + 1) * E = d2 * E + E := by grind
          omega)
        have h4 : t * ((d2 + 1) * E) = (t * (d2 + 1)) * E := (Nat.mul_assoc _ _ _).symm
        have h5 : (t * (d2 + 1)) * E ≤ n3 * E := Nat.mul_le_mul_right _ h2
        have : t + 1 - 1 = t := by omega
        rw [this]; omega
      exact Nat.sub_le_iff_le_add.1 this
  clear hP hD hn3 hh
  generalize P / D = q at *
  generalize n3 / d2 = h at *
  omega

/-- A number's two and three first limbs. -/
theorem top_two {B : Nat} (l : List Nat) (k : Nat) (hk : l.length = k + 2) (hl : ∀ d ∈ l, d < B) : vl B l = (l.getD (k + 1) 0 * B + l.getD k 0) * B ^ k + vl B (l.take k) ∧ vl B (l.take k) < B ^ k := by
  have h1 := vl_take_succ B l (k + 1)
  have h2 := vl_take_succ B l k
  rw [List.take_of_length_le (by omega)] at h1
  have h3 := vl_lt B (l.take k) (fun d hd => hl d (List.mem_of_mem_take hd))
  rw [List.length_take, Nat.min_eq_left (by omega)] at h3
  refine ⟨?_, h3⟩
  rw [h1, h2, Nat.pow_succ]
  grind
theorem top_three {B : Nat} (l : List Nat) (k : Nat) (hk : l.length = k + 3) (hl : ∀ d ∈ l, d < B) : vl B l = ((l.getD (k + 2) 0 * B + l.getD (k + 1) 0) * B + l.getD k 0) * B ^ k + vl B (l.take k) ∧ vl B (l.take k) < B ^ k := by
  have h0 := vl_take_succ B l (k + 2)
  have h1 := vl_take_succ B l (k + 1)
  have h2 := vl_take_succ B l k
  rw [List.take_of_length_le (by omega)] at h0
  have h3 := vl_lt B (l.take k) (fun d hd => hl d (List.mem_of_mem_take hd))
  rw [List.length_take, Nat.min_eq_left (by omega)] at h3
  refine ⟨?_, h3⟩
  rw [h0, h1, h2, Nat.pow_succ, Nat.pow_succ]
  grind
/-- What the guess is reckoned of. -/
structure Guess (B : Nat) (p l : List Nat) (k : Nat) : Prop where
  lp : p.length = k + 3
  ll : l.length = k + 2
  low : ∀ d ∈ p, d < B
  low' : ∀ d ∈ l, d < B
  top : l.getD (k + 1) 0 ≠ 0
  lt : vl B p < vl B l * B
theorem Guess.hi {B : Nat} {p l : List Nat} {k : Nat} (h : Guess B p l k) (hB : 2 ≤ B) : p.getD (k + 2) 0 ≤ l.getD (k + 1) 0 := by
  obtain ⟨e1, g1⟩ := top_three p k h.lp h.low
  obtain ⟨e2, g2⟩ := top_two l k h.ll h.low'
  have h3 := h.lt
  generalize p.getD (k + 2) 0 = x at *
  generalize p.getD (k + 1) 0 = x1 at *
  generalize p.getD k 0 = x0 at *
  generalize l.getD (k + 1) 0 = y at *
  have hy0 : l.getD k 0 < B := by
    have hk : k < l.length := by rw [h.ll]; omega
    rw [List.getD_eq_getElem?_getD, List.getElem?_eq_getElem hk]; exact h.low' _ (List.getElem_mem _)
  generalize l.getD k 0 = y0 at *
  by_cases hc : x ≤ y
  · exact hc
  · exfalso
    have hE : 0 < B ^ k := Nat.pow_pos (by omega)
    generalize B ^ k = E at *
    have h4 : vl B l < (y * B + B) * E := by
      rw [e2]
      have : (y * B + y0 + 1) * E ≤ (y * B + B) * E := Nat.mul_le_mul_right _ (by omega)
      have e : (y * B + y0 + 1) * E = (y * B + y0) * E + E := by grind
      omega
    have h5 : vl B l * B < ((y * B + B) * E) * B := Nat.mul_lt_mul_of_pos_right h4 (by omega)
    have h6 : ((y + 1) * B * B) * E ≤ vl B p := by
      rw [e1]
      have : ((y + 1) * B * B) * E ≤ ((x * B + x1) * B + x0) * E := Nat.mul_le_mul_right _ (by
        have a1 : (y + 1) * B * B ≤ x * B * B := Nat.mul_le_mul_right _ (Nat.mul_le_mul_right _ (by omega))
        have a2 : (x * B + x1) * B = x * B * B + x1 * B := by grind
        omega)
      omega
    have e : ((y * B + B) * E) * B = ((y + 1) * B * B) * E := by grind
    omega
theorem Guess.near {B : Nat} {p l : List Nat} {k : Nat} (h : Guess B p l k) (hB : 2 ≤ B) (q : Nat)
    (hq : q = ((p.getD (k + 2) 0 * B + p.getD (k + 1) 0) * B + p.getD k 0) / (l.getD (k + 1) 0 * B + l.getD k 0)) : q = vl B p / vl B l ∨ q = vl B p / vl B l + 1 := by
  obtain ⟨e1, g1⟩ := top_three p k h.lp h.low
  obtain ⟨e2, g2⟩ := top_two l k h.ll h.low'
  rw [hq]
  refine guess_near hB (Nat.pow_pos (by omega)) e1 g1 e2 g2 ?_ h.lt
  have := h.top
  have h1 : 1 * B ≤ l.getD (k + 1) 0 * B := Nat.mul_le_mul_right _ (by omega)
  omega
/-- The guess while it is lowered: it is not below what it ends at. -/
theorem guess_test {B q left two third first second : Nat} (h : q * first + left = two) : (left * B + third < q * second) ↔ (two * B + third < q * (first * B + second)) := by
  subst h
  have e1 : (q * first + left) * B = q * (first * B) + left * B := by grind
  have e2 : q * (first * B + second) = q * (first * B) + q * second := by grind
  rw [e1, e2]; omega
theorem guess_low {q n3 d2 : Nat} (hd : 0 < d2) (h1 : n3 / d2 ≤ q) (h2 : n3 < q * d2) : n3 / d2 ≤ q - 1 := by
  have : n3 / d2 < q := by rw [Nat.div_lt_iff_lt_mul hd]; exact h2
  omega
theorem guess_end {q n3 d2 : Nat} (hd : 0 < d2) (h1 : n3 / d2 ≤ q) (h2 : ¬ n3 < q * d2) : q = n3 / d2 := by
  have : q ≤ n3 / d2 := by rw [Nat.le_div_iff_mul_le hd]; omega
  omega
theorem guess_start {B two third first second : Nat} (hf : 0 < first) (ht : third < B) : (two * B + third) / (first * B + second) ≤ two / first := by
  have hpos : 0 < first * B := Nat.mul_pos hf (by omega)
  refine Nat.le_of_lt_succ ?_
  rw [Nat.div_lt_iff_lt_mul (by omega)]
  have h1 : two < (two / first + 1) * first := by
    have := Nat.mod_add_div two first
    have h2 := Nat.mod_lt two hf
    have e : (two / first + 1) * first = first * (two / first) + first := by grind
    omega
  have h3 : (two + 1) * B ≤ ((two / first + 1) * first) * B := Nat.mul_le_mul_right _ h1
  have e1 : (two + 1) * B = two * B + B := by grind
  have e2 : (two / first).succ * (first * B + second) = ((two / first + 1) * first) * B + (two / first + 1) * second := by
    show (two / first + 1) * (first * B + second) = _
    grind
  rw [e2]; omega
end Go.Proofs.YtlgcnjinmcgacaaDoor
