/- Plain: reckoning digit by digit, as by hand. -/
import Derived.Test.YtlgcnjinmcgacaaDoorPutPlain
set_option linter.unusedSimpArgs false
set_option linter.unusedVariables false
namespace Go.Proofs.YtlgcnjinmcgacaaDoor

theorem vl_take_le (B : Nat) (l : List Nat) (i : Nat) : vl B (l.take i) ≤ vl B l := by
  have e : vl B l = vl B (l.take i ++ l.drop i) := by rw [List.take_append_drop]
  rw [e, vl_append]; omega
theorem getD_lt {l : List Nat} (h : ∀ d ∈ l, d < 10) (i : Nat) : l.getD i 0 < 10 := by
  by_cases hi : i < l.length
  · rw [List.getD_eq_getElem?_getD, List.getElem?_eq_getElem hi]; exact h _ (List.getElem_mem _)
  · rw [List.getD_eq_getElem?_getD, List.getElem?_eq_none (by omega)]; simp
/-- The sum when i digits were gone through. -/
structure Sums (a b : List Nat) (i : Nat) (D : List Nat) (up : Nat) : Prop where
  len : D.length = i
  low : ∀ d ∈ D, d < 10
  up1 : up ≤ 1
  eq : vl 10 D + 10 ^ i * up = vl 10 (a.take i) + vl 10 (b.take i)
  big : i = 0 ∨ 10 ^ (i - 1) ≤ vl 10 a + vl 10 b
theorem Sums.zero (a b : List Nat) : Sums a b 0 [] 0 := ⟨rfl, (fun d h => by cases h), by omega, by simp [vl], Or.inl rfl⟩
theorem Sums.step {a b : List Nat} {i : Nat} {D : List Nat} {up : Nat} (h : Sums a b i D up) (ha : ∀ d ∈ a, d < 10) (hb : ∀ d ∈ b, d < 10) (hbig : 10 ^ i ≤ vl 10 a + vl 10 b) :
    Sums a b (i + 1) (D ++ [(a.getD i 0 + b.getD i 0 + up) % 10]) ((a.getD i 0 + b.getD i 0 + up) / 10) := by
  have h1 := getD_lt ha i
  have h2 := getD_lt hb i
  have h3 := h.up1
  refine ⟨by simp [h.len], ?_, by omega, ?_, Or.inr (by simpa using hbig)⟩
  · intro d hd
    rcases List.mem_append.1 hd with hd | hd
    · exact h.low d hd
    · simp at hd; omega
  · rw [vl_snoc, h.len, vl_take_succ, vl_take_succ]
    have e := h.eq
    have hs : a.getD i 0 + b.getD i 0 + up = (a.getD i 0 + b.getD i 0 + up) % 10 + 10 * ((a.getD i 0 + b.getD i 0 + up) / 10) := (Nat.mod_add_div _ 10).symm
    generalize (a.getD i 0 + b.getD i 0 + up) % 10 = r at *
    generalize (a.getD i 0 + b.getD i 0 + up) / 10 = q at *
    have hs2 : 10 ^ i * (a.getD i 0 + b.getD i 0 + up) = 10 ^ i * (r + 10 * q) := by rw [hs]
    grind
theorem Sums.goes_a {n : Nat} {b : List Nat} {i : Nat} (hi : i < (dg 10 n).length) : 10 ^ i ≤ vl 10 (dg 10 n) + vl 10 b := by
  have := pow_le_of_len (by omega) i n hi
  rw [vl_dg (by omega)]; omega
theorem Sums.goes_b {n : Nat} {a : List Nat} {i : Nat} (hi : i < (dg 10 n).length) : 10 ^ i ≤ vl 10 a + vl 10 (dg 10 n) := by
  have := pow_le_of_len (by omega) i n hi
  rw [vl_dg (by omega)]; omega
theorem Sums.goes_up {a b : List Nat} {i : Nat} {D : List Nat} {up : Nat} (h : Sums a b i D up) (hu : 0 < up) : 10 ^ i ≤ vl 10 a + vl 10 b := by
  have e := h.eq
  have h1 := vl_take_le 10 a i
  have h2 := vl_take_le 10 b i
  have h3 : 10 ^ i * 1 ≤ 10 ^ i * up := Nat.mul_le_mul_left _ hu
  omega
theorem topped_of_big {D : List Nat} (hd : ∀ d ∈ D, d < 10) (h : D.length = 0 ∨ 10 ^ (D.length - 1) ≤ vl 10 D) : Topped D := by
  by_cases h0 : D = []
  · exact Or.inl h0
  · obtain ⟨Q, d, rfl⟩ : ∃ Q d, D = Q ++ [d] := ⟨D.dropLast, D.getLast h0, (List.dropLast_concat_getLast h0).symm⟩
    refine Or.inr ?_
    have hl : (Q ++ [d]).length - 1 = Q.length := by simp
    rcases h with h | h
    · simp at h
    · rw [hl, vl_snoc] at h
      have h1 := vl_lt 10 Q (fun x hx => hd x (by simp [hx]))
      rw [hl]
      simp
      intro e
      subst e
      simp at h
      omega
theorem Sums.done {n m i : Nat} {D : List Nat} (h : Sums (dg 10 n) (dg 10 m) i D 0) (h1 : (dg 10 n).length ≤ i) (h2 : (dg 10 m).length ≤ i) : D = dg 10 (n + m) := by
  have e := h.eq
  rw [List.take_of_length_le h1, List.take_of_length_le h2, vl_dg (by omega), vl_dg (by omega)] at e
  simp only [Nat.mul_zero, Nat.add_zero] at e
  refine dg_of_vl (by omega) D (n + m) h.low e (topped_of_big h.low ?_)
  rw [h.len, e]
  have := h.big
  rw [vl_dg (by omega), vl_dg (by omega)] at this
  exact this

/-- The difference when i digits were gone through. -/
structure Diffs (a b : List Nat) (i : Nat) (D : List Nat) (down : Nat) : Prop where
  len : D.length = i
  low : ∀ d ∈ D, d < 10
  d1 : down ≤ 1
  eq : vl 10 (a.take i) + 10 ^ i * down = vl 10 D + vl 10 (b.take i)
theorem Diffs.zero (a b : List Nat) : Diffs a b 0 [] 0 := ⟨rfl, (fun d h => by cases h), by omega, by simp [vl]⟩
theorem Diffs.step {a b : List Nat} {i : Nat} {D : List Nat} {down : Nat} (h : Diffs a b i D down) (x down' : Nat) (hx : x < 10) (hd : down' ≤ 1) (he : a.getD i 0 + 10 * down' = x + b.getD i 0 + down) : Diffs a b (i + 1) (D ++ [x]) down' := by
  refine ⟨by simp [h.len], ?_, hd, ?_⟩
  · intro d hd
    rcases List.mem_append.1 hd with hd | hd
    · exact h.low d hd
    · simp at hd; omega
  · rw [vl_snoc, h.len, vl_take_succ, vl_take_succ]
    have e := h.eq
    have hs2 : 10 ^ i * (a.getD i 0 + 10 * down') = 10 ^ i * (x + b.getD i 0 + down) := by rw [he]
    grind
theorem Diffs.done {n m : Nat} {D : List Nat} {down : Nat} (hmn : m ≤ n) (h : Diffs (dg 10 n) (dg 10 m) (dg 10 n).length D down) : vl 10 D = n - m := by
  have e := h.eq
  rw [List.take_length, List.take_of_length_le (dg_len_mono (by omega) hmn), vl_dg (by omega), vl_dg (by omega)] at e
  have h1 := vl_lt 10 D h.low
  rw [h.len] at h1
  have h2 := h.d1
  rcases Nat.eq_zero_or_pos down with h0 | h0
  · subst h0; omega
  · have : down = 1 := by omega
    subst this; omega

/-! ### One digit of a list set -/
theorem vl_set (B : Nat) (P : List Nat) (t x : Nat) (h : t < P.length) : vl B (P.set t x) + B ^ t * P[t] = vl B P + B ^ t * x := by
  have e1 : P.set t x = P.take t ++ (x :: P.drop (t + 1)) := by
    rw [List.set_eq_take_append_cons_drop, if_pos h]
  have e2 : P = P.take t ++ (P[t] :: P.drop (t + 1)) := by rw [← List.drop_eq_getElem_cons h, List.take_append_drop]
  have hl : (P.take t).length = t := by rw [List.length_take]; omega
  have h1 : vl B (P.set t x) = vl B (P.take t) + B ^ t * (x + B * vl B (P.drop (t + 1))) := by
    rw [e1, vl_append, hl]; rfl
  have h2 : vl B P = vl B (P.take t) + B ^ t * (P[t] + B * vl B (P.drop (t + 1))) := by
    have := vl_append B (P.take t) (P[t] :: P.drop (t + 1))
    rw [← e2, hl] at this
    rw [this]; rfl
  rw [h1, h2]
  grind
/-- A row of the product: j digits of b times the digit u, laid upon P at i. -/
structure Mulr (b : List Nat) (P0 : List Nat) (i u j : Nat) (P : List Nat) (up : Nat) : Prop where
  len : P.length = P0.length
  low : ∀ d ∈ P, d < 10
  up9 : up ≤ 9
  eq : vl 10 P + 10 ^ (i + j) * up = vl 10 P0 + 10 ^ i * u * vl 10 (b.take j)
  tail : ∀ t, i + b.length ≤ t → P.getD t 0 = P0.getD t 0
theorem Mulr.zero (b P0 : List Nat) (i u : Nat) (h : ∀ d ∈ P0, d < 10) : Mulr b P0 i u 0 P0 0 := ⟨rfl, h, by omega, by simp [vl], fun _ _ => rfl⟩
theorem Mulr.step {b P0 : List Nat} {i u j : Nat} {P : List Nat} {up : Nat} (h : Mulr b P0 i u j P up) (hj : j < b.length) (hP : i + j < P.length) (hu : u < 10) (hb : ∀ d ∈ b, d < 10) :
    Mulr b P0 i u (j + 1) (P.set (i + j) ((P[i + j] + u * b[j] + up) % 10)) ((P[i + j] + u * b[j] + up) / 10) := by
  have hp : P[i + j] < 10 := h.low _ (List.getElem_mem _)
  have hbj : b[j] < 10 := hb _ (List.getElem_mem _)
  have hm : u * b[j] ≤ 9 * 9 := Nat.mul_le_mul (by omega) (by omega)
  have h9 := h.up9
  refine ⟨by simp [h.len], ?_, by omega, ?_, ?_⟩
  · intro d hd
    rcases List.mem_or_eq_of_mem_set hd with hd | hd
    · exact h.low d hd
    · omega
  · have e1 := vl_set 10 P (i + j) ((P[i + j] + u * b[j] + up) % 10) hP
    have e2 := vl_take_succ 10 b j
    rw [List.getD_eq_getElem?_getD, List.getElem?_eq_getElem hj] at e2
    simp only [Option.getD_some] at e2
    have e3 := h.eq
    rw [e2]
    have hs : P[i + j] + u * b[j] + up = (P[i + j] + u * b[j] + up) % 10 + 10 * ((P[i + j] + u * b[j] + up) / 10) := (Nat.mod_add_div _ 10).symm
    generalize (P[i + j] + u * b[j] + up) % 10 = r at *
    generalize (P[i + j] + u * b[j] + up) / 10 = q at *
    generalize vl 10 (P.set (i + j) r) = V at *
    generalize P[i + j] = x at *
    generalize b[j] = y at *
    have hs2 : 10 ^ (i + j) * (x + u * y + up) = 10 ^ (i + j) * (r + 10 * q) := by rw [hs]
    have hp1 : (10 : Nat) ^ (i + (j + 1)) = 10 * 10 ^ (i + j) := by rw [← Nat.add_assoc, Nat.pow_succ, Nat.mul_comm]
    have hp2 : (10 : Nat) ^ (i + j) = 10 ^ i * 10 ^ j := Nat.pow_add _ _ _
    rw [hp1]
    rw [hp2] at *
    grind
  · intro t ht
    have := h.tail t ht
    rw [← this, List.getD_eq_getElem?_getD, List.getD_eq_getElem?_getD, List.getElem?_set_ne (by omega)]
theorem Mulr.done {b P0 : List Nat} {i u : Nat} {P : List Nat} {up x m : Nat} (h : Mulr b P0 i u b.length P up) (hP : i + b.length < P.length) (h0 : ∀ t, i + b.length ≤ t → P0.getD t 0 = 0) (hv : vl 10 P0 = x * m) (hm : vl 10 b = m) :
    vl 10 (P.set (i + b.length) up) = (x + 10 ^ i * u) * m ∧ (∀ d ∈ P.set (i + b.length) up, d < 10) ∧ (P.set (i + b.length) up).length = P0.length ∧ ∀ t, i + 1 + b.length ≤ t → (P.set (i + b.length) up).getD t 0 = 0 := by
  have e1 := vl_set 10 P (i + b.length) up hP
  have hz : P[i + b.length] = 0 := by
    have h1 := h.tail (i + b.length) (Nat.le_refl _)
    rw [h0 _ (Nat.le_refl _), List.getD_eq_getElem?_getD, List.getElem?_eq_getElem hP] at h1
    exact h1
  have e2 := h.eq
  rw [List.take_length, hm, hv] at e2
  rw [hz] at e1
  refine ⟨?_, ?_, by simp [h.len], ?_⟩
  · have : vl 10 (P.set (i + b.length) up) = x * m + 10 ^ i * u * m := by omega
    rw [this]; grind
  · intro d hd
    have := h.up9
    rcases List.mem_or_eq_of_mem_set hd with hd | hd
    · exact h.low d hd
    · omega
  · intro t ht
    rw [List.getD_eq_getElem?_getD, List.getElem?_set_ne (by omega), ← List.getD_eq_getElem?_getD, h.tail t (by omega), h0 t (by omega)]
end Go.Proofs.YtlgcnjinmcgacaaDoor
