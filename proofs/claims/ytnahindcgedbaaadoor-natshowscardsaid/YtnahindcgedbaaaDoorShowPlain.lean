/- Plain: a fraction with places behind the dot. -/
import Derived.Test.YtnahindcgedbaaaDoorBaseD
set_option linter.unusedSimpArgs false
set_option linter.unusedVariables false
namespace Go.Proofs.YtnahindcgedbaaaDoor

/-- The text of N/D with p places behind the dot, what is behind cut off. -/
def showT (p N D : Nat) : List UInt8 :=
  if p = 0 then txt (N / D) else txt (N / D) ++ 46 :: (List.replicate (p - (txt (N % D * 10 ^ p / D)).length) 48 ++ txt (N % D * 10 ^ p / D))
/-- The same, off the digits of N 10^p / D. -/
def showL (p : Nat) (l : List Nat) : List UInt8 :=
  if l.length ≤ p then 48 :: 46 :: chars (l ++ List.replicate (p - l.length) 0) else chars (l.drop p) ++ 46 :: chars (l.take p)
theorem chars_append (l r : List Nat) : chars (l ++ r) = chars r ++ chars l := by simp [chars]
theorem chars_zeros (k : Nat) : chars (List.replicate k 0) = List.replicate k 48 := by simp [chars]
theorem pad_eq {p b : Nat} (hp : 1 ≤ p) : chars (dg 10 b ++ List.replicate (p - (dg 10 b).length) 0) = List.replicate (p - (txt b).length) 48 ++ txt b := by
  rw [chars_append, chars_zeros]
  by_cases h : b = 0
  · subst h
    have e : txt 0 = [48] := rfl
    rw [e, dg_zero]
    obtain ⟨k, rfl⟩ : ∃ k, p = k + 1 := ⟨p - 1, by omega⟩
    simp only [List.length_nil, List.length_singleton, Nat.sub_zero, Nat.add_sub_cancel]
    rw [List.replicate_succ']
    simp [chars]
  · have e : txt b = chars (dg 10 b) := by rw [txt, if_neg h]
    rw [e, chars_length]
theorem q_parts {N D p : Nat} (hD : 0 < D) : N * 10 ^ p / D = N / D * 10 ^ p + N % D * 10 ^ p / D ∧ N % D * 10 ^ p / D < 10 ^ p := by
  constructor
  · have e : N * 10 ^ p = D * (N / D * 10 ^ p) + N % D * 10 ^ p := by
      have := Nat.div_add_mod N D
      calc N * 10 ^ p = (D * (N / D) + N % D) * 10 ^ p := by rw [this]
        _ = _ := by rw [Nat.add_mul, Nat.mul_assoc]
    rw [e, Nat.mul_add_div hD]
  · rw [Nat.div_lt_iff_lt_mul hD, Nat.mul_comm (10 ^ p) D]
    exact Nat.mul_lt_mul_of_pos_right (Nat.mod_lt _ hD) (Nat.pow_pos (by omega))
theorem topped_append {l r : List Nat} (hr : r ≠ []) (h : Topped r) : Topped (l ++ r) := by
  have hp : 0 < r.length := List.length_pos_iff.2 hr
  unfold Topped at *
  refine Or.inr ?_
  have h2 : r.getD (r.length - 1) 0 ≠ 0 := h.resolve_left hr
  rw [List.getD_eq_getElem?_getD] at h2 ⊢
  rw [List.getElem?_append_right (by rw [List.length_append]; omega)]
  rw [show (l ++ r).length - 1 - l.length = r.length - 1 by rw [List.length_append]; omega]
  exact h2
theorem dg_parts {W b p : Nat} (hW : W ≠ 0) (hb : b < 10 ^ p) : dg 10 (W * 10 ^ p + b) = (dg 10 b ++ List.replicate (p - (dg 10 b).length) 0) ++ dg 10 W := by
  have hl := dg_len_le ten p b hb
  refine (dg_of_vl ten _ _ ?_ ?_ ?_).symm
  · intro d hd
    simp only [List.mem_append, List.mem_replicate] at hd
    rcases hd with (h | ⟨_, rfl⟩) | h
    · exact dg_mem ten b d h
    · omega
    · exact dg_mem ten W d h
  · rw [vl_append, vl_append_zeros, vl_dg ten, vl_dg ten, List.length_append, List.length_replicate]
    rw [show (dg 10 b).length + (p - (dg 10 b).length) = p by omega, Nat.add_comm, Nat.mul_comm]
  · refine topped_append ?_ (dg_topped ten W)
    intro h
    exact hW ((dg_eq_nil ten).1 h)
theorem showL_eq {N D p : Nat} (hp : 1 ≤ p) (hD : 0 < D) : showL p (dg 10 (N * 10 ^ p / D)) = showT p N D := by
  obtain ⟨e, hb⟩ := q_parts (N := N) (p := p) hD
  rw [e]
  unfold showT
  rw [if_neg (by omega)]
  generalize N % D * 10 ^ p / D = b at *
  generalize N / D = W at *
  have hl := dg_len_le ten p b hb
  unfold showL
  by_cases hW : W = 0
  · subst hW
    rw [Nat.zero_mul, Nat.zero_add, if_pos hl, pad_eq hp]
    rfl
  · rw [dg_parts hW hb]
    have hlen : (dg 10 b ++ List.replicate (p - (dg 10 b).length) 0).length = p := by simp; omega
    have hWl : (dg 10 W).length ≠ 0 := fun h => hW ((dg_length_zero ten).1 h)
    rw [if_neg (by rw [List.length_append, hlen]; omega)]
    have d1 : ((dg 10 b ++ List.replicate (p - (dg 10 b).length) 0) ++ dg 10 W).drop p = dg 10 W := by
      rw [List.drop_append_of_le_length (by omega), List.drop_eq_nil_of_le (by omega), List.nil_append]
    have d2 : ((dg 10 b ++ List.replicate (p - (dg 10 b).length) 0) ++ dg 10 W).take p = dg 10 b ++ List.replicate (p - (dg 10 b).length) 0 := by
      rw [List.take_append_of_le_length (by omega), List.take_of_length_le (by omega)]
    rw [d1, d2, pad_eq hp]
    have e2 : txt W = chars (dg 10 W) := by rw [txt, if_neg hW]
    rw [e2]
/-! ### The reference's loop -/
/-- What stands after i digits. -/
def showS (p : Nat) (m : List Nat) (i : Nat) : List UInt8 := if i ≤ p then chars (m.take i) else chars ((m.take i).drop p) ++ 46 :: chars (m.take p)
theorem showS_low {p i : Nat} {m : List Nat} (h : i < p) (hm : i < m.length) : showS p m (i + 1) = UInt8.ofNat (m[i] + 48) :: showS p m i := by
  unfold showS
  rw [if_pos (by omega), if_pos (by omega), List.take_succ_eq_append_getElem hm, chars_snoc]
theorem showS_dot {p : Nat} {m : List Nat} (hm : p < m.length) : showS p m (p + 1) = UInt8.ofNat (m[p] + 48) :: 46 :: showS p m p := by
  unfold showS
  rw [if_neg (by omega), if_pos (by omega), List.take_succ_eq_append_getElem hm, List.drop_append_of_le_length (by simp; omega), List.drop_eq_nil_of_le (by simp; omega)]
  simp [chars]
theorem showS_high {p i : Nat} {m : List Nat} (h : p < i) (hm : i < m.length) : showS p m (i + 1) = UInt8.ofNat (m[i] + 48) :: showS p m i := by
  unfold showS
  rw [if_neg (by omega), if_neg (by omega), List.take_succ_eq_append_getElem hm, List.drop_append_of_le_length (by simp; omega), chars_snoc]
  rfl
/-- The digits with as many zeros as there are places too many. -/
abbrev padL (p : Nat) (l : List Nat) : List Nat := l ++ List.replicate (p - l.length) 0
theorem padL_length (p : Nat) (l : List Nat) : (padL p l).length = max p l.length := by simp [padL]; omega
theorem padL_get (p : Nat) (l : List Nat) (i : Nat) (h : i < (padL p l).length) : (padL p l)[i] = l.getD i 0 := by
  by_cases hi : i < l.length
  · rw [List.getElem_append_left hi]; simp [hi]
  · rw [List.getElem_append_right (by omega)]; simp [hi]
theorem showS_end {p : Nat} {l : List Nat} : showS p (padL p l) (max p l.length) = if l.length ≤ p then chars (padL p l) else showL p l := by
  unfold showS
  by_cases h : l.length ≤ p
  · rw [if_pos h, if_pos (by omega), List.take_of_length_le (by rw [padL_length]; omega)]
  · have e : padL p l = l := by simp [padL]; omega
    rw [if_neg h, if_neg (by omega), e, List.take_of_length_le (by omega)]
    unfold showL
    rw [if_neg h]
end Go.Proofs.YtnahindcgedbaaaDoor
