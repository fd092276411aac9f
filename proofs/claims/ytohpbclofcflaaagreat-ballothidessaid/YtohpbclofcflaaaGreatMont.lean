/- Montgomery's product, in plain numbers. -/
import Derived.Test.YtohpbclofcflaaaGreatAid
set_option linter.unusedSimpArgs false
set_option linter.unusedVariables false
namespace Go.Proofs.YtohpbclofcflaaaGreat
open Go.RowKit Go.Deep Go.PlainAid

/-- What a word can hold, and one more. -/
def BB : Nat := 18446744073709551616
theorem BB_eq : BB = 18446744073709551616 := rfl
theorem BB_pos : 0 < BB := by rw [BB_eq]; omega
theorem BB_two : 2 ≤ BB := by rw [BB_eq]; omega
theorem BBp (k : Nat) : 0 < BB ^ k := Nat.pow_pos BB_pos
theorem vl_parts (B : Nat) (l : List Nat) (k : Nat) : vl B l = vl B (l.take k) + B ^ (l.take k).length * vl B (l.drop k) := by
  conv => lhs; rw [← List.take_append_drop k l]
  exact vl_append B _ _
/-- What fits into so many words lies in the first ones. -/
theorem vl_take_of_lt {l : List Nat} {k : Nat} (h : vl BB l < BB ^ k) (hk : k ≤ l.length) : vl BB (l.take k) = vl BB l := by
  have e := vl_parts BB l k
  rw [List.length_take, Nat.min_eq_left hk] at e
  have : vl BB (l.drop k) = 0 := by
    rcases Nat.eq_zero_or_pos (vl BB (l.drop k)) with h0 | h0
    · exact h0
    · have : BB ^ k * 1 ≤ BB ^ k * vl BB (l.drop k) := Nat.mul_le_mul_left _ h0
      omega
  rw [this] at e
  omega
/-- The word at a place of a number. -/
def w4 (n i : Nat) : Nat := n / BB ^ i % BB
theorem w4_lt (n i : Nat) : w4 n i < BB := Nat.mod_lt _ BB_pos
def ws4 (n : Nat) : List Nat := [w4 n 0, w4 n 1, w4 n 2, w4 n 3]
theorem ws4_length (n : Nat) : (ws4 n).length = 4 := rfl
theorem ws4_mem (n : Nat) : ∀ d ∈ ws4 n, d < BB := by
  intro d hd
  simp only [ws4, List.mem_cons, List.not_mem_nil, or_false] at hd
  rcases hd with rfl | rfl | rfl | rfl <;> exact w4_lt _ _
theorem ws4_get (n i : Nat) (h : i < (ws4 n).length) : (ws4 n)[i] = w4 n i := by
  rw [ws4_length] at h
  have : i = 0 ∨ i = 1 ∨ i = 2 ∨ i = 3 := by omega
  rcases this with rfl | rfl | rfl | rfl <;> rfl
theorem ws4_getD (n i : Nat) (h : i < 4) : (ws4 n).getD i 0 = w4 n i := by
  rw [List.getD_eq_getElem?_getD, List.getElem?_eq_getElem (by rw [ws4_length]; exact h)]
  exact ws4_get n i _
theorem mod_step (n i : Nat) : n % BB ^ (i + 1) = n % BB ^ i + BB ^ i * w4 n i := by
  rw [Nat.pow_succ, Nat.mod_mul]; rfl
theorem vl_ws4_take (n : Nat) : ∀ k, k ≤ 4 → vl BB ((ws4 n).take k) = n % BB ^ k
  | 0, _ => by simp [vl, Nat.mod_one]
  | k + 1, h => by
    rw [vl_take_succ, vl_ws4_take n k (by omega), ws4_getD n k (by omega), mod_step]
theorem vl_ws4 {n : Nat} (h : n < BB ^ 4) : vl BB (ws4 n) = n := by
  have := vl_ws4_take n 4 (by omega)
  rw [List.take_of_length_le (by rw [ws4_length]; omega), Nat.mod_eq_of_lt h] at this
  exact this
theorem ws4_vl {l : List Nat} (hl : l.length = 4) (hd : ∀ d ∈ l, d < BB) : ws4 (vl BB l) = l := by
  match l, hl with
  | [a, b, c, d], _ =>
    have ha := hd a (by simp)
    have hb := hd b (by simp)
    have hc := hd c (by simp)
    have hd' := hd d (by simp)
    simp only [ws4, w4, vl, Nat.pow_zero, Nat.div_one, Nat.pow_one, Nat.pow_succ, Nat.one_mul, Nat.mul_zero, Nat.add_zero, ← Nat.div_div_eq_div_mul]
    have e1 : (a + BB * (b + BB * (c + BB * d))) / BB = b + BB * (c + BB * d) := by rw [Nat.add_mul_div_left _ _ BB_pos, Nat.div_eq_of_lt ha, Nat.zero_add]
    have e2 : (b + BB * (c + BB * d)) / BB = c + BB * d := by rw [Nat.add_mul_div_left _ _ BB_pos, Nat.div_eq_of_lt hb, Nat.zero_add]
    have e3 : (c + BB * d) / BB = d := by rw [Nat.add_mul_div_left _ _ BB_pos, Nat.div_eq_of_lt hc, Nat.zero_add]
    rw [e1, e2, e3, Nat.add_mul_mod_self_left, Nat.add_mul_mod_self_left, Nat.add_mul_mod_self_left, Nat.mod_eq_of_lt ha, Nat.mod_eq_of_lt hb, Nat.mod_eq_of_lt hc, Nat.mod_eq_of_lt hd']
theorem getD_ltB {l : List Nat} (h : ∀ d ∈ l, d < BB) (i : Nat) : l.getD i 0 < BB := by
  rw [List.getD_eq_getElem?_getD]
  by_cases hi : i < l.length
  · rw [List.getElem?_eq_getElem hi]; exact h _ (List.getElem_mem _)
  · rw [List.getElem?_eq_none (by omega)]; exact BB_pos
theorem mem_setB {l : List Nat} {i x : Nat} (h : ∀ d ∈ l, d < BB) (hx : x < BB) : ∀ d ∈ l.set i x, d < BB := by
  intro d hd
  rcases List.mem_or_eq_of_mem_set hd with h1 | h1
  · exact h d h1
  · rw [h1]; exact hx
/-- A product and two words more stay within two words. -/
theorem chain_hi {x y a b : Nat} (hx : x < BB) (hy : y < BB) (ha : a < BB) (hb : b < BB) : (x * y + a + b) / BB < BB := by
  have h1 : x * y ≤ (BB - 1) * (BB - 1) := Nat.mul_le_mul (by omega) (by omega)
  have h2 : (BB - 1) * (BB - 1) + (BB - 1) + (BB - 1) < BB * BB := by rw [BB_eq]; decide
  exact Nat.div_lt_of_lt_mul (by omega)
/-- Within a round: j words are gone through; l and r are what is carried. -/
structure Mo (b m s0 : List Nat) (x y j : Nat) (s : List Nat) (l r : Nat) : Prop where
  len : s.length = s0.length
  lt : ∀ d ∈ s, d < BB
  l9 : l < BB
  r9 : r < BB
  eq : x * vl BB (b.take j) + y * vl BB (m.take j) + vl BB (s0.take j) = BB * vl BB (s.take (j - 1)) + BB ^ j * (l + r)
  up : ∀ t, j ≤ t + 1 → s.getD t 0 = s0.getD t 0
theorem low_zero {c y m0 low : Nat} (hl : m0 * low % BB = BB - 1) (hy : y = c * low % BB) : (y * m0 + c) % BB = 0 := by
  have e : y * m0 % BB = c * (BB - 1) % BB := by
    rw [hy, Nat.mod_mul_mod, Nat.mul_assoc, Nat.mul_comm low m0, Nat.mul_mod c (m0 * low), hl, Nat.mul_mod c (BB - 1), Nat.mod_eq_of_lt (show BB - 1 < BB by have := BB_pos; omega)]
  rw [Nat.add_mod, e, ← Nat.add_mod]
  have : c * (BB - 1) + c = BB * c := by
    have : BB - 1 + 1 = BB := by have := BB_pos; omega
    rw [← Nat.mul_succ, Nat.succ_eq_add_one, this, Nat.mul_comm]
  rw [this]
  exact Nat.mul_mod_right _ _
theorem take_one {l : List Nat} (h : 0 < l.length) : vl BB (l.take 1) = l.getD 0 0 := by
  cases l with
  | nil => simp at h
  | cons a l => simp [vl]
theorem Mo.start {b m s0 : List Nat} {x y low : Nat} (hb : b.length = 4) (hm : m.length = 4) (hs : s0.length = 4) (bl : ∀ d ∈ b, d < BB) (ml : ∀ d ∈ m, d < BB) (sl : ∀ d ∈ s0, d < BB) (hx : x < BB)
    (hl : m.getD 0 0 * low % BB = BB - 1) (hy : y = (s0.getD 0 0 + x * b.getD 0 0 % BB) % BB * low % BB) :
    Mo b m s0 x y 1 s0 ((x * b.getD 0 0 + s0.getD 0 0 + 0) / BB) ((y * m.getD 0 0 + (x * b.getD 0 0 + s0.getD 0 0 + 0) % BB + 0) / BB) := by
  have b0 := getD_ltB bl 0
  have m0 := getD_ltB ml 0
  have s00 := getD_ltB sl 0
  have y9 : y < BB := by rw [hy]; exact Nat.mod_lt _ BB_pos
  have z : (y * m.getD 0 0 + (x * b.getD 0 0 + s0.getD 0 0) % BB) % BB = 0 := by
    have := low_zero (c := (x * b.getD 0 0 + s0.getD 0 0) % BB) (m0 := m.getD 0 0) (low := low) (y := y) hl (by rw [hy]; congr 2; rw [Nat.add_mod_mod, Nat.add_comm])
    exact this
  refine ⟨rfl, sl, chain_hi hx b0 s00 BB_pos, chain_hi y9 m0 (Nat.mod_lt _ BB_pos) BB_pos, ?_, fun t _ => rfl⟩
  rw [take_one (by omega), take_one (by omega), take_one (by omega)]
  simp only [Nat.sub_self, List.take_zero, vl, Nat.mul_zero, Nat.zero_add, Nat.pow_one, Nat.add_zero, Nat.mul_add]
  have d1 := Nat.div_add_mod (x * b.getD 0 0 + s0.getD 0 0) BB
  have d2 := Nat.div_add_mod (y * m.getD 0 0 + (x * b.getD 0 0 + s0.getD 0 0) % BB) BB
  rw [z] at d2
  generalize BB * ((x * b.getD 0 0 + s0.getD 0 0) / BB) = p at *
  generalize BB * ((y * m.getD 0 0 + (x * b.getD 0 0 + s0.getD 0 0) % BB) / BB) = q at *
  generalize (x * b.getD 0 0 + s0.getD 0 0) % BB = z at *
  generalize x * b.getD 0 0 = u at *
  generalize y * m.getD 0 0 = v at *
  omega
theorem take_set_lt {l : List Nat} {k x : Nat} (h : k < l.length) : (l.set k x).take (k + 1) = l.take k ++ [x] := by
  rw [List.take_succ_eq_append_getElem (by rw [List.length_set]; exact h), List.getElem_set_self, List.take_set, List.set_eq_of_length_le (by rw [List.length_take]; omega)]
theorem Mo.step {b m s0 s : List Nat} {x y j l r : Nat} (h : Mo b m s0 x y j s l r) (hj : 1 ≤ j) (hj4 : j < 4) (hb : b.length = 4) (hm : m.length = 4) (hs : s0.length = 4) (bl : ∀ d ∈ b, d < BB) (ml : ∀ d ∈ m, d < BB) (hx : x < BB) (hy : y < BB) :
    Mo b m s0 x y (j + 1) (s.set (j - 1) ((y * m.getD j 0 + (x * b.getD j 0 + s.getD j 0 + l) % BB + r) % BB)) ((x * b.getD j 0 + s.getD j 0 + l) / BB) ((y * m.getD j 0 + (x * b.getD j 0 + s.getD j 0 + l) % BB + r) / BB) := by
  have sj := getD_ltB h.lt j
  have e0 := h.up j (by omega)
  have bj := getD_ltB bl j
  have mj := getD_ltB ml j
  refine ⟨by rw [List.length_set]; exact h.len, mem_setB h.lt (Nat.mod_lt _ BB_pos), chain_hi hx bj sj h.l9, chain_hi hy mj (Nat.mod_lt _ BB_pos) h.r9, ?_, ?_⟩
  · have eq := h.eq
    have hl := h.len
    rw [vl_take_succ, vl_take_succ, vl_take_succ, Nat.add_sub_cancel]
    have k1 : j - 1 + 1 = j := by omega
    have k2 : (s.set (j - 1) ((y * m.getD j 0 + (x * b.getD j 0 + s.getD j 0 + l) % BB + r) % BB)).take j = s.take (j - 1) ++ [(y * m.getD j 0 + (x * b.getD j 0 + s.getD j 0 + l) % BB + r) % BB] := by
      have := take_set_lt (l := s) (k := j - 1) (x := (y * m.getD j 0 + (x * b.getD j 0 + s.getD j 0 + l) % BB + r) % BB) (by omega)
      rw [k1] at this
      exact this
    rw [k2, vl_snoc, List.length_take, Nat.min_eq_left (by omega), ← e0]
    have d1 := Nat.div_add_mod (x * b.getD j 0 + s.getD j 0 + l) BB
    have d2 := Nat.div_add_mod (y * m.getD j 0 + (x * b.getD j 0 + s.getD j 0 + l) % BB + r) BB
    have p1 : BB * BB ^ (j - 1) = BB ^ j := by rw [Nat.mul_comm, ← Nat.pow_succ, Nat.succ_eq_add_one, k1]
    have p2 : BB ^ (j + 1) = BB ^ j * BB := Nat.pow_succ _ _
    generalize (x * b.getD j 0 + s.getD j 0 + l) / BB = l' at *
    generalize (x * b.getD j 0 + s.getD j 0 + l) % BB = wd at *
    generalize (y * m.getD j 0 + wd + r) / BB = r' at *
    generalize (y * m.getD j 0 + wd + r) % BB = t at *
    clear bj mj sj e0
    generalize b.getD j 0 = bj at *
    generalize m.getD j 0 = mj at *
    generalize s.getD j 0 = sj at *
    rw [Nat.mul_add BB, ← Nat.mul_assoc BB, p1, p2]
    generalize BB ^ j = P at *
    generalize vl BB (s.take (j - 1)) = V at *
    generalize vl BB (b.take j) = vb at *
    generalize vl BB (m.take j) = vm at *
    generalize vl BB (s0.take j) = vs at *
    have E : P * (y * mj + x * bj + sj + l + r) = P * (BB * l' + BB * r' + t) := by congr 1; omega
    have e1 : x * (vb + P * bj) = x * vb + P * (x * bj) := by rw [Nat.mul_add, Nat.mul_left_comm]
    have e2 : y * (vm + P * mj) = y * vm + P * (y * mj) := by rw [Nat.mul_add, Nat.mul_left_comm]
    have e3 : P * (y * mj + x * bj + sj + l + r) = P * (y * mj) + P * (x * bj) + P * sj + P * (l + r) := by simp only [Nat.mul_add]; omega
    have e4 : P * (BB * l' + BB * r' + t) = P * BB * (l' + r') + P * t := by simp only [Nat.mul_add, Nat.mul_assoc]
    rw [e1, e2]
    rw [e3, e4] at E
    generalize P * (x * bj) = q1 at *
    generalize P * (y * mj) = q2 at *
    generalize P * (l + r) = q3 at *
    generalize P * BB * (l' + r') = q4 at *
    omega
  · intro t ht
    rw [← h.up t (by omega)]
    rw [List.getD_eq_getElem?_getD, List.getElem?_set_ne (by omega), ← List.getD_eq_getElem?_getD]
/-- The end of a round. -/
theorem Mo.done {b m s0 s : List Nat} {x y W l r b' M S : Nat} (h : Mo b m s0 x y W s l r) (hW : 1 ≤ W) (hW4 : W ≤ 4) (hb : b.length = 4) (hm : m.length = 4) (hs : s0.length = 4) (sl : ∀ d ∈ s0, d < BB)
    (vb : vl BB b = b') (vm : vl BB m = M) (vs : vl BB s0 = S) (hx : x < BB) (hy : y < BB) (b9 : b' < M) (s9 : S < 2 * M) (m9 : 2 * M ≤ BB ^ W) :
    l + r < BB ∧ (s.set (W - 1) (l + r)).length = 4 ∧ (∀ d ∈ s.set (W - 1) (l + r), d < BB) ∧ BB * vl BB (s.set (W - 1) (l + r)) = x * b' + y * M + S ∧ vl BB (s.set (W - 1) (l + r)) < 2 * M := by
  have eq := h.eq
  rw [vl_take_of_lt (l := b) (by omega) (by omega), vl_take_of_lt (l := m) (by omega) (by omega), vl_take_of_lt (l := s0) (by omega) (by omega), vb, vm, vs] at eq
  have k1 : W - 1 + 1 = W := by omega
  have p1 : BB * BB ^ (W - 1) = BB ^ W := by rw [Nat.mul_comm, ← Nat.pow_succ, Nat.succ_eq_add_one, k1]
  have hlen : s.length = 4 := by rw [h.len, hs]
  have bound : x * b' + y * M + S < BB * (2 * M) := by
    have h1 : x * b' ≤ (BB - 1) * M := Nat.mul_le_mul (by omega) (by omega)
    have h2 : y * M ≤ (BB - 1) * M := Nat.mul_le_mul (by omega) (by omega)
    have h3 : BB * (2 * M) = (BB - 1) * M + (BB - 1) * M + 2 * M := by
      have : BB = BB - 1 + 1 := by have := BB_pos; omega
      conv => lhs; rw [this]
      rw [Nat.add_mul, Nat.mul_left_comm, Nat.two_mul ((BB - 1) * M)]
      omega
    omega
  have e2 : BB * vl BB (s.take (W - 1)) + BB ^ W * (l + r) = BB * (vl BB (s.take (W - 1)) + BB ^ (W - 1) * (l + r)) := by rw [Nat.mul_add BB, ← Nat.mul_assoc BB, p1]
  have lr : l + r < BB := by
    rcases Nat.lt_or_ge (l + r) BB with h0 | h0
    · exact h0
    · exfalso
      have h1 : BB ^ W * BB ≤ BB ^ W * (l + r) := Nat.mul_le_mul_left _ h0
      have h2 : BB * (2 * M) ≤ BB * BB ^ W := Nat.mul_le_mul_left _ m9
      rw [Nat.mul_comm BB (BB ^ W)] at h2
      omega
  have T : (s.set (W - 1) (l + r)).take W = s.take (W - 1) ++ [l + r] := by
    have := take_set_lt (l := s) (k := W - 1) (x := l + r) (by omega)
    rw [k1] at this
    exact this
  have D : vl BB ((s.set (W - 1) (l + r)).drop W) = 0 := by
    have e : (s.set (W - 1) (l + r)).drop W = s0.drop W := by
      apply List.ext_getElem?
      intro i
      rw [List.getElem?_drop, List.getElem?_drop, List.getElem?_set_ne (by omega)]
      have := h.up (W + i) (by omega)
      rw [List.getD_eq_getElem?_getD, List.getD_eq_getElem?_getD] at this
      by_cases hi : W + i < 4
      · rw [List.getElem?_eq_getElem (by omega), List.getElem?_eq_getElem (by omega)] at this ⊢
        simpa using this
      · rw [List.getElem?_eq_none (by omega), List.getElem?_eq_none (by omega)]
    rw [e]
    have a1 := vl_parts BB s0 W
    have a2 := vl_take_of_lt (l := s0) (k := W) (by omega) (by omega)
    rw [a2] at a1
    have a3 : BB ^ (s0.take W).length * vl BB (s0.drop W) = 0 := by omega
    rcases Nat.mul_eq_zero.1 a3 with h0 | h0
    · have := BBp (s0.take W).length; omega
    · exact h0
  have V : vl BB (s.set (W - 1) (l + r)) = vl BB (s.take (W - 1)) + BB ^ (W - 1) * (l + r) := by
    rw [vl_parts BB (s.set (W - 1) (l + r)) W, D, T, vl_snoc, List.length_take, Nat.min_eq_left (by omega)]
    omega
  refine ⟨lr, by rw [List.length_set]; exact hlen, mem_setB h.lt lr, by rw [V, eq, e2], ?_⟩
  rw [V]
  rw [e2] at eq
  rw [eq] at bound
  exact Nat.lt_of_mul_lt_mul_left bound
/-- The rounds. -/
structure Ro (A b M i S : Nat) : Prop where
  lt : S < 2 * M
  eq : ∃ Y, S * BB ^ i = A % BB ^ i * b + Y * M
theorem Ro.zero {A b M : Nat} (hM : 0 < M) : Ro A b M 0 0 := ⟨by omega, 0, by simp [Nat.mod_one]⟩
theorem Ro.step {A b M i S S' y : Nat} (h : Ro A b M i S) (e : BB * S' = w4 A i * b + y * M + S) (l : S' < 2 * M) : Ro A b M (i + 1) S' := by
  obtain ⟨Y, hY⟩ := h.eq
  refine ⟨l, Y + BB ^ i * y, ?_⟩
  rw [mod_step, Nat.pow_succ]
  have : S' * (BB ^ i * BB) = BB ^ i * (BB * S') := by rw [Nat.mul_comm S', Nat.mul_assoc]
  rw [this, e, Nat.mul_add, Nat.mul_add, Nat.mul_comm (BB ^ i) S, hY, Nat.add_mul, Nat.add_mul]
  simp only [Nat.mul_assoc]
  omega
/-- What comes of it. -/
structure Jo (R M a b r : Nat) : Prop where
  lt : r < M
  eq : r * R % M = a * b % M
def belowN (M S : Nat) : Nat := if S < M then S else S - M
theorem Ro.done {A b M W S : Nat} (h : Ro A b M W S) (hA : A < BB ^ W) : Jo (BB ^ W) M A b (belowN M S) := by
  obtain ⟨Y, hY⟩ := h.eq
  have hl := h.lt
  rw [Nat.mod_eq_of_lt hA] at hY
  unfold belowN
  split
  · exact ⟨by omega, by rw [hY, Nat.add_mul_mod_self_right]⟩
  · refine ⟨by omega, ?_⟩
    rw [Nat.sub_mul]
    have h1 : M * BB ^ W ≤ S * BB ^ W := Nat.mul_le_mul_right _ (by omega)
    have h2 : (S * BB ^ W - M * BB ^ W + M * BB ^ W) % M = A * b % M := by
      rw [Nat.sub_add_cancel h1, hY, Nat.add_mul_mod_self_right]
    rw [Nat.add_mul_mod_self_left] at h2
    exact h2
/-- A field: its words, its prime, and what goes with them. -/
structure Fld (W M low one sq Ri : Nat) : Prop where
  w1 : 1 ≤ W
  w4 : W ≤ 4
  m9 : 2 * M ≤ BB ^ W
  m2 : 2 ≤ M
  lo : Go.Proofs.YtohpbclofcflaaaGreat.w4 M 0 * low % BB = BB - 1
  l9 : low < BB
  o : one = BB ^ W % M
  s : sq = BB ^ W * BB ^ W % M
  i : BB ^ W * Ri % M = 1
theorem Fld.same {W M low one sq Ri r t : Nat} (f : Fld W M low one sq Ri) (h : r * BB ^ W % M = t * BB ^ W % M) : r % M = t % M := by
  have e : ∀ x, x * BB ^ W % M * Ri % M = x % M := by
    intro x
    rw [Nat.mod_mul_mod, Nat.mul_assoc, Nat.mul_mod, f.i, Nat.mul_one, Nat.mod_mod]
  rw [← e r, ← e t, h]
theorem Fld.of_one {W M low one sq Ri a r : Nat} (f : Fld W M low one sq Ri) (h : Jo (BB ^ W) M a one r) : r = a % M := by
  rw [← Nat.mod_eq_of_lt h.lt]
  refine f.same ?_
  rw [h.eq, f.o, Nat.mul_mod_mod]
theorem Fld.of_sq {W M low one sq Ri a r : Nat} (f : Fld W M low one sq Ri) (h : Jo (BB ^ W) M a sq r) : r = a * BB ^ W % M := by
  rw [← Nat.mod_eq_of_lt h.lt]
  refine f.same ?_
  rw [h.eq, f.s, Nat.mul_mod_mod, Nat.mul_assoc]
theorem Fld.of_entered {W M low one sq Ri a b r : Nat} (f : Fld W M low one sq Ri) (h : Jo (BB ^ W) M (a * BB ^ W % M) b r) : r = a * b % M := by
  rw [← Nat.mod_eq_of_lt h.lt]
  refine f.same ?_
  rw [h.eq, Nat.mod_mul_mod, Nat.mul_right_comm]
theorem Fld.both {W M low one sq Ri a b r : Nat} (f : Fld W M low one sq Ri) (h : Jo (BB ^ W) M (a * BB ^ W % M) (b * BB ^ W % M) r) : r = a * b * BB ^ W % M := by
  rw [← Nat.mod_eq_of_lt h.lt]
  refine f.same ?_
  rw [h.eq, Nat.mod_mul_mod, Nat.mul_mod_mod, Nat.mul_mul_mul_comm, Nat.mul_assoc (a * b)]
theorem Fld.leave {W M low one sq Ri a r : Nat} (f : Fld W M low one sq Ri) (h : Jo (BB ^ W) M (a * BB ^ W % M) 1 r) : r = a % M := by
  have := f.of_entered h
  rw [Nat.mul_one] at this
  exact this
theorem fs1 : Fld 1 641 28778071877862015 1 1 1 := ⟨by decide, by decide, by decide +kernel, by decide +kernel, by decide +kernel, by decide +kernel, by decide +kernel, by decide +kernel, by decide +kernel⟩
theorem fe1 : Fld 1 1283 690135397925220949 989 475 48 := ⟨by decide, by decide, by decide +kernel, by decide +kernel, by decide +kernel, by decide +kernel, by decide +kernel, by decide +kernel, by decide +kernel⟩
theorem fs2 : Fld 1 576465431670292481 14411523486952456191 576315691930484705 164727685076202836 450363764723817667 := ⟨by decide, by decide, by decide +kernel, by decide +kernel, by decide +kernel, by decide +kernel, by decide +kernel, by decide +kernel, by decide +kernel⟩
theorem fe2 : Fld 1 1152930863340584963 2177741659672237397 1152781123600777171 169519337302233854 136109958580553132 := ⟨by decide, by decide, by decide +kernel, by decide +kernel, by decide +kernel, by decide +kernel, by decide +kernel, by decide +kernel, by decide +kernel⟩
theorem fs3 : Fld 4 7237005577332262213973186563042995786902308146886443998308627866733439352833 18446744073709551615 7237005577332262213973186563042971049735362462343904064828166006911539347441 7237005577332262213973055834329441520127728155767444907515600161428691746049 5880067031582463048853214082472434173487683750925480045240918195860869414465 := ⟨by decide, by decide, by decide +kernel, by decide +kernel, by decide +kernel, by decide +kernel, by decide +kernel, by decide +kernel, by decide +kernel⟩
theorem fe3 : Fld 4 14474011154664524427946373126085991573804616293772887996617255733466878705667 6148914691236517205 14474011154664524427946373126085966836637670609230348063136793873644978700267 14474011154664524427946242397372833101701167255334527841511617785270253517891 11458592164109415172124212058151410038875124957716978240262064368612367837670 := ⟨by decide, by decide, by decide +kernel, by decide +kernel, by decide +kernel, by decide +kernel, by decide +kernel, by decide +kernel, by decide +kernel⟩
end Go.Proofs.YtohpbclofcflaaaGreat
