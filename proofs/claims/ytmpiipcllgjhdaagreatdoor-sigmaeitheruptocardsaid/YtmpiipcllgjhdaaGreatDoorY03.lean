/- Montgomery's product, in plain numbers. -/
import Derived.Test.YtmpiipcllgjhdaaGreatDoorY02
import Derived.Laws.Externs
import Derived.Shelf.Spec.BitsCarry
import Derived.StillTailTactics
import Derived.Shelf.Bits.Mul64
import Derived.Laws.Bits64b
import Derived.Great.BuildSlice
import Derived.Deep.WholeRow
set_option linter.unusedSimpArgs false
set_option linter.unusedVariables false
namespace Go.Proofs.YtmpiipcllgjhdaaGreatDoor
open Go.RowKit Go.Deep Go.PlainAid

/-- What a word can hold, and one more. -/
def BB : Nat := 18446744073709551616
theorem BB_eq : BB = 18446744073709551616 := rfl
theorem BB_pos : 0 < BB := by rw [BB_eq]; omega
theorem BBp (k : Nat) : 0 < BB ^ k := Nat.pow_pos BB_pos
theorem vl_parts (B : Nat) (l : List Nat) (k : Nat) : vl B l = vl B (l.take k) + B ^ (l.take k).length * vl B (l.drop k) := by
  conv => lhs; rw [← List.take_append_drop k l]
  exact vl_append B _ _
/-- What fits into so many words lies in the first ones. -/
theorem vl_take_of_lt {l : List Nat} {k : Nat} (h : vl BB l < BB ^ k) (hk : k ≤ l.length) : vl BB (l.take k) = vl BB l := by
  have e := vl_parts BB l k
  rw [List.length_take, Nat.min_eq_left hk] at e
  have : vl BB (l.drop k) = 0 := by
    rcases Nat.eq_zero_or_pos (vl BB (l.drop k)) with h0 | h0
    · exact h0
    · have : BB ^ k * 1 ≤ BB ^ k * vl BB (l.drop k) := Nat.mul_le_mul_left _ h0
      omega
  rw [this] at e
  omega
/-- The word at a place of a number. -/
def w4 (n i : Nat) : Nat := n / BB ^ i % BB
theorem w4_lt (n i : Nat) : w4 n i < BB := Nat.mod_lt _ BB_pos
def ws4 (n : Nat) : List Nat := [w4 n 0, w4 n 1, w4 n 2, w4 n 3]
theorem ws4_length (n : Nat) : (ws4 n).length = 4 := rfl
theorem ws4_mem (n : Nat) : ∀ d ∈ ws4 n, d < BB := by
  intro d hd
  simp only [ws4, List.mem_cons, List.not_mem_nil, or_false] at hd
  rcases hd with rfl | rfl | rfl | rfl <;> exact w4_lt _ _
theorem ws4_get (n i : Nat) (h : i < (ws4 n).length) : (ws4 n)[i] = w4 n i := by
  rw [ws4_length] at h
  have : i = 0 ∨ i = 1 ∨ i = 2 ∨ i = 3 := by omega
  rcases this with rfl | rfl | rfl | rfl <;> rfl
theorem ws4_getD (n i : Nat) (h : i < 4) : (ws4 n).getD i 0 = w4 n i := by
  rw [List.getD_eq_getElem?_getD, List.getElem?_eq_getElem (by rw [ws4_length]; exact h)]
  exact ws4_get n i _
theorem mod_step (n i : Nat) : n % BB ^ (i + 1) = n % BB ^ i + BB ^ i * w4 n i := by
  rw [Nat.pow_succ, Nat.mod_mul]; rfl
theorem vl_ws4_take (n : Nat) : ∀ k, k ≤ 4 → vl BB ((ws4 n).take k) = n % BB ^ k
  | 0, _ => by simp [vl, Nat.mod_one]
  | k + 1, h => by
    rw [vl_take_succ, vl_ws4_take n k (by omega), ws4_getD n k (by omega), mod_step]
theorem vl_ws4 {n : Nat} (h : n < BB ^ 4) : vl BB (ws4 n) = n := by
  have := vl_ws4_take n 4 (by omega)
  rw [List.take_of_length_le (by rw [ws4_length]; omega), Nat.mod_eq_of_lt h] at this
  exact this
theorem ws4_vl {l : List Nat} (hl : l.length = 4) (hd : ∀ d ∈ l, d < BB) : ws4 (vl BB l) = l := by
  match l, hl with
  | [a, b, c, d], _ =>
    have ha := hd a (by simp)
    have hb := hd b (by simp)
    have hc := hd c (by simp)
    have hd' := hd d (by simp)
    simp only [ws4, w4, vl, Nat.pow_zero, Nat.div_one, Nat.pow_one, Nat.pow_succ, Nat.one_mul, Nat.mul_zero, Nat.add_zero, ← Nat.div_div_eq_div_mul]
    have e1 : (a + BB * (b + BB * (c + BB * d))) / BB = b + BB * (c + BB * d) := by rw [Nat.add_mul_div_left _ _ BB_pos, Nat.div_eq_of_lt ha, Nat.zero_add]
    have e2 : (b + BB * (c + BB * d)) / BB = c + BB * d := by rw [Nat.add_mul_div_left _ _ BB_pos, Nat.div_eq_of_lt hb, Nat.zero_add]
    have e3 : (c + BB * d) / BB = d := by rw [Nat.add_mul_div_left _ _ BB_pos, Nat.div_eq_of_lt hc, Nat.zero_add]
    rw [e1, e2, e3, Nat.add_mul_mod_self_left, Nat.add_mul_mod_self_left, Nat.add_mul_mod_self_left, Nat.mod_eq_of_lt ha, Nat.mod_eq_of_lt hb, Nat.mod_eq_of_lt hc, Nat.mod_eq_of_lt hd']
theorem getD_ltB {l : List Nat} (h : ∀ d ∈ l, d < BB) (i : Nat) : l.getD i 0 < BB := by
  rw [List.getD_eq_getElem?_getD]
  by_cases hi : i < l.length
  · rw [List.getElem?_eq_getElem hi]; exact h _ (List.getElem_mem _)
  · rw [List.getElem?_eq_none (by omega)]; exact BB_pos
theorem mem_setB {l : List Nat} {i x : Nat} (h : ∀ d ∈ l, d < BB) (hx : x < BB) : ∀ d ∈ l.set i x, d < BB := by
  intro d hd
  rcases List.mem_or_eq_of_mem_set hd with h1 | h1
  · exact h d h1
  · rw [h1]; exact hx
/-- A product and two words more stay within two words. -/
theorem chain_hi {x y a b : Nat} (hx : x < BB) (hy : y < BB) (ha : a < BB) (hb : b < BB) : (x * y + a + b) / BB < BB := by
  have h1 : x * y ≤ (BB - 1) * (BB - 1) := Nat.mul_le_mul (by omega) (by omega)
  have h2 : (BB - 1) * (BB - 1) + (BB - 1) + (BB - 1) < BB * BB := by rw [BB_eq]; decide
  exact Nat.div_lt_of_lt_mul (by omega)
/-- Within a round: j words are gone through; l and r are what is carried. -/
structure Mo (b m s0 : List Nat) (x y j : Nat) (s : List Nat) (l r : Nat) : Prop where
  len : s.length = s0.length
  lt : ∀ d ∈ s, d < BB
  l9 : l < BB
  r9 : r < BB
  eq : x * vl BB (b.take j) + y * vl BB (m.take j) + vl BB (s0.take j) = BB * vl BB (s.take (j - 1)) + BB ^ j * (l + r)
  up : ∀ t, j ≤ t + 1 → s.getD t 0 = s0.getD t 0
theorem low_zero {c y m0 low : Nat} (hl : m0 * low % BB = BB - 1) (hy : y = c * low % BB) : (y * m0 + c) % BB = 0 := by
  have e : y * m0 % BB = c * (BB - 1) % BB := by
    rw [hy, Nat.mod_mul_mod, Nat.mul_assoc, Nat.mul_comm low m0, Nat.mul_mod c (m0 * low), hl, Nat.mul_mod c (BB - 1), Nat.mod_eq_of_lt (show BB - 1 < BB by have := BB_pos; omega)]
  rw [Nat.add_mod, e, ← Nat.add_mod]
  have : c * (BB - 1) + c = BB * c := by
    have : BB - 1 + 1 = BB := by have := BB_pos; omega
    rw [← Nat.mul_succ, Nat.succ_eq_add_one, this, Nat.mul_comm]
  rw [this]
  exact Nat.mul_mod_right _ _
theorem take_one {l : List Nat} (h : 0 < l.length) : vl BB (l.take 1) = l.getD 0 0 := by
  cases l with
  | nil => simp at h
  | cons a l => simp [vl]
theorem Mo.start {b m s0 : List Nat} {x y low : Nat} (hb : b.length = 4) (hm : m.length = 4) (hs : s0.length = 4) (bl : ∀ d ∈ b, d < BB) (ml : ∀ d ∈ m, d < BB) (sl : ∀ d ∈ s0, d < BB) (hx : x < BB)
    (hl : m.getD 0 0 * low % BB = BB - 1) (hy : y = (s0.getD 0 0 + x * b.getD 0 0 % BB) % BB * low % BB) :
    Mo b m s0 x y 1 s0 ((x * b.getD 0 0 + s0.getD 0 0 + 0) / BB) ((y * m.getD 0 0 + (x * b.getD 0 0 + s0.getD 0 0 + 0) % BB + 0) / BB) := by
  have b0 := getD_ltB bl 0
  have m0 := getD_ltB ml 0
  have s00 := getD_ltB sl 0
  have y9 : y < BB := by rw [hy]; exact Nat.mod_lt _ BB_pos
  have z : (y * m.getD 0 0 + (x * b.getD 0 0 + s0.getD 0 0) % BB) % BB = 0 := by
    have := low_zero (c := (x * b.getD 0 0 + s0.getD 0 0) % BB) (m0 := m.getD 0 0) (low := low) (y := y) hl (by rw [hy]; congr 2; rw [Nat.add_mod_mod, Nat.add_comm])
    exact this
  refine ⟨rfl, sl, chain_hi hx b0 s00 BB_pos, chain_hi y9 m0 (Nat.mod_lt _ BB_pos) BB_pos, ?_, fun t _ => rfl⟩
  rw [take_one (by omega), take_one (by omega), take_one (by omega)]
  simp only [Nat.sub_self, List.take_zero, vl, Nat.mul_zero, Nat.zero_add, Nat.pow_one, Nat.add_zero, Nat.mul_add]
  have d1 := Nat.div_add_mod (x * b.getD 0 0 + s0.getD 0 0) BB
  have d2 := Nat.div_add_mod (y * m.getD 0 0 + (x * b.getD 0 0 + s0.getD 0 0) % BB) BB
  rw [z] at d2
  generalize BB * ((x * b.getD 0 0 + s0.getD 0 0) / BB) = p at *
  generalize BB * ((y * m.getD 0 0 + (x * b.getD 0 0 + s0.getD 0 0) % BB) / BB) = q at *
  generalize (x * b.getD 0 0 + s0.getD 0 0) % BB = z at *
  generalize x * b.getD 0 0 = u at *
  generalize y * m.getD 0 0 = v at *
  omega
theorem take_set_lt {l : List Nat} {k x : Nat} (h : k < l.length) : (l.set k x).take (k + 1) = l.take k ++ [x] := by
  rw [List.take_succ_eq_append_getElem (by rw [List.length_set]; exact h), List.getElem_set_self, List.take_set, List.set_eq_of_length_le (by rw [List.length_take]; omega)]
theorem Mo.step {b m s0 s : List Nat} {x y j l r : Nat} (h : Mo b m s0 x y j s l r) (hj : 1 ≤ j) (hj4 : j < 4) (hb : b.length = 4) (hm : m.length = 4) (hs : s0.length = 4) (bl : ∀ d ∈ b, d < BB) (ml : ∀ d ∈ m, d < BB) (hx : x < BB) (hy : y < BB) :
    Mo b m s0 x y (j + 1) (s.set (j - 1) ((y * m.getD j 0 + (x * b.getD j 0 + s.getD j 0 + l) % BB + r) % BB)) ((x * b.getD j 0 + s.getD j 0 + l) / BB) ((y * m.getD j 0 + (x * b.getD j 0 + s.getD j 0 + l) % BB + r) / BB) := by
  have sj := getD_ltB h.lt j
  have e0 := h.up j (by omega)
  have bj := getD_ltB bl j
  have mj := getD_ltB ml j
  refine ⟨by rw [List.length_set]; exact h.len, mem_setB h.lt (Nat.mod_lt _ BB_pos), chain_hi hx bj sj h.l9, chain_hi hy mj (Nat.mod_lt _ BB_pos) h.r9, ?_, ?_⟩
  · have eq := h.eq
    have hl := h.len
    rw [vl_take_succ, vl_take_succ, vl_take_succ, Nat.add_sub_cancel]
    have k1 : j - 1 + 1 = j := by omega
    have k2 : (s.set (j - 1) ((y * m.getD j 0 + (x * b.getD j 0 + s.getD j 0 + l) % BB + r) % BB)).take j = s.take (j - 1) ++ [(y * m.getD j 0 + (x * b.getD j 0 + s.getD j 0 + l) % BB + r) % BB] := by
      have := take_set_lt (l := s) (k := j - 1) (x := (y * m.getD j 0 + (x * b.getD j 0 + s.getD j 0 + l) % BB + r) % BB) (by omega)
      rw [k1] at this
      exact this
    rw [k2, vl_snoc, List.length_take, Nat.min_eq_left (by omega), ← e0]
    have d1 := Nat.div_add_mod (x * b.getD j 0 + s.getD j 0 + l) BB
    have d2 := Nat.div_add_mod (y * m.getD j 0 + (x * b.getD j 0 + s.getD j 0 + l) % BB + r) BB
    have p1 : BB * BB ^ (j - 1) = BB ^ j := by rw [Nat.mul_comm, ← Nat.pow_succ, Nat.succ_eq_add_one, k1]
    have p2 : BB ^ (j + 1) = BB ^ j * BB := Nat.pow_succ _ _
    generalize (x * b.getD j 0 + s.getD j 0 + l) / BB = l' at *
    generalize (x * b.getD j 0 + s.getD j 0 + l) % BB = wd at *
    generalize (y * m.getD j 0 + wd + r) / BB = r' at *
    generalize (y * m.getD j 0 + wd + r) % BB = t at *
    clear bj mj sj e0
    generalize b.getD j 0 = bj at *
    generalize m.getD j 0 = mj at *
    generalize s.getD j 0 = sj at *
    rw [Nat.mul_add BB, ← Nat.mul_assoc BB, p1, p2]
    generalize BB ^ j = P at *
    generalize vl BB (s.take (j - 1)) = V at *
    generalize vl BB (b.take j) = vb at *
    generalize vl BB (m.take j) = vm at *
    generalize vl BB (s0.take j) = vs at *
    have E : P * (y * mj + x * bj + sj + l + r) = P * (BB * l' + BB * r' + t) := by congr 1; omega
    have e1 : x * (vb + P * bj) = x * vb + P * (x * bj) := by rw [Nat.mul_add, Nat.mul_left_comm]
    have e2 : y * (vm + P * mj) = y * vm + P * (y * mj) := by rw [Nat.mul_add, Nat.mul_left_comm]
    have e3 : P * (y * mj + x * bj + sj + l + r) = P * (y * mj) + P * (x * bj) + P * sj + P * (l + r) := by simp only [Nat.mul_add]; omega
    have e4 : P * (BB * l' + BB * r' + t) = P * BB * (l' + r') + P * t := by simp only [Nat.mul_add, Nat.mul_assoc]
    rw [e1, e2]
    rw [e3, e4] at E
    generalize P * (x * bj) = q1 at *
    generalize P * (y * mj) = q2 at *
    generalize P * (l + r) = q3 at *
    generalize P * BB * (l' + r') = q4 at *
    omega
  · intro t ht
    rw [← h.up t (by omega)]
    rw [List.getD_eq_getElem?_getD, List.getElem?_set_ne (by omega), ← List.getD_eq_getElem?_getD]
/-- The end of a round. -/
theorem Mo.done {b m s0 s : List Nat} {x y W l r b' M S : Nat} (h : Mo b m s0 x y W s l r) (hW : 1 ≤ W) (hW4 : W ≤ 4) (hb : b.length = 4) (hm : m.length = 4) (hs : s0.length = 4) (sl : ∀ d ∈ s0, d < BB)
    (vb : vl BB b = b') (vm : vl BB m = M) (vs : vl BB s0 = S) (hx : x < BB) (hy : y < BB) (b9 : b' < M) (s9 : S < 2 * M) (m9 : 2 * M ≤ BB ^ W) :
    l + r < BB ∧ (s.set (W - 1) (l + r)).length = 4 ∧ (∀ d ∈ s.set (W - 1) (l + r), d < BB) ∧ BB * vl BB (s.set (W - 1) (l + r)) = x * b' + y * M + S ∧ vl BB (s.set (W - 1) (l + r)) < 2 * M := by
  have eq := h.eq
  rw [vl_take_of_lt (l := b) (by omega) (by omega), vl_take_of_lt (l := m) (by omega) (by omega), vl_take_of_lt (l := s0) (by omega) (by omega), vb, vm, vs] at eq
  have k1 : W - 1 + 1 = W := by omega
  have p1 : BB * BB ^ (W - 1) = BB ^ W := by rw [Nat.mul_comm, ← Nat.pow_succ, Nat.succ_eq_add_one, k1]
  have hlen : s.length = 4 := by rw [h.len, hs]
  have bound : x * b' + y * M + S < BB * (2 * M) := by
    have h1 : x * b' ≤ (BB - 1) * M := Nat.mul_le_mul (by omega) (by omega)
    have h2 : y * M ≤ (BB - 1) * M := Nat.mul_le_mul (by omega) (by omega)
    have h3 : BB * (2 * M) = (BB - 1) * M + (BB - 1) * M + 2 * M := by
      have : BB = BB - 1 + 1 := by have := BB_pos; omega
      conv => lhs; rw [this]
      rw [Nat.add_mul, Nat.mul_left_comm, Nat.two_mul ((BB - 1) * M)]
      omega
    omega
  have e2 : BB * vl BB (s.take (W - 1)) + BB ^ W * (l + r) = BB * (vl BB (s.take (W - 1)) + BB ^ (W - 1) * (l + r)) := by rw [Nat.mul_add BB, ← Nat.mul_assoc BB, p1]
  have lr : l + r < BB := by
    rcases Nat.lt_or_ge (l + r) BB with h0 | h0
    · exact h0
    · exfalso
      have h1 : BB ^ W * BB ≤ BB ^ W * (l + r) := Nat.mul_le_mul_left _ h0
      have h2 : BB * (2 * M) ≤ BB * BB ^ W := Nat.mul_le_mul_left _ m9
      rw [Nat.mul_comm BB (BB ^ W)] at h2
      omega
  have T : (s.set (W - 1) (l + r)).take W = s.take (W - 1) ++ [l + r] := by
    have := take_set_lt (l := s) (k := W - 1) (x := l + r) (by omega)
    rw [k1] at this
    exact this
  have D : vl BB ((s.set (W - 1) (l + r)).drop W) = 0 := by
    have e : (s.set (W - 1) (l + r)).drop W = s0.drop W := by
      apply List.ext_getElem?
      intro i
      rw [List.getElem?_drop, List.getElem?_drop, List.getElem?_set_ne (by omega)]
      have := h.up (W + i) (by omega)
      rw [List.getD_eq_getElem?_getD, List.getD_eq_getElem?_getD] at this
      by_cases hi : W + i < 4
      · rw [List.getElem?_eq_getElem (by omega), List.getElem?_eq_getElem (by omega)] at this ⊢
        simpa using this
      · rw [List.getElem?_eq_none (by omega), List.getElem?_eq_none (by omega)]
    rw [e]
    have a1 := vl_parts BB s0 W
    have a2 := vl_take_of_lt (l := s0) (k := W) (by omega) (by omega)
    rw [a2] at a1
    have a3 : BB ^ (s0.take W).length * vl BB (s0.drop W) = 0 := by omega
    rcases Nat.mul_eq_zero.1 a3 with h0 | h0
    · have := BBp (s0.take W).length; omega
    · exact h0
  have V : vl BB (s.set (W - 1) (l + r)) = vl BB (s.take (W - 1)) + BB ^ (W - 1) * (l + r) := by
    rw [vl_parts BB (s.set (W - 1) (l + r)) W, D, T, vl_snoc, List.length_take, Nat.min_eq_left (by omega)]
    omega
  refine ⟨lr, by rw [List.length_set]; exact hlen, mem_setB h.lt lr, by rw [V, eq, e2], ?_⟩
  rw [V]
  rw [e2] at eq
  rw [eq] at bound
  exact Nat.lt_of_mul_lt_mul_left bound
/-- The rounds. -/
structure Ro (A b M i S : Nat) : Prop where
  lt : S < 2 * M
  eq : ∃ Y, S * BB ^ i = A % BB ^ i * b + Y * M
theorem Ro.zero {A b M : Nat} (hM : 0 < M) : Ro A b M 0 0 := ⟨by omega, 0, by simp [Nat.mod_one]⟩
theorem Ro.step {A b M i S S' y : Nat} (h : Ro A b M i S) (e : BB * S' = w4 A i * b + y * M + S) (l : S' < 2 * M) : Ro A b M (i + 1) S' := by
  obtain ⟨Y, hY⟩ := h.eq
  refine ⟨l, Y + BB ^ i * y, ?_⟩
  rw [mod_step, Nat.pow_succ]
  have : S' * (BB ^ i * BB) = BB ^ i * (BB * S') := by rw [Nat.mul_comm S', Nat.mul_assoc]
  rw [this, e, Nat.mul_add, Nat.mul_add, Nat.mul_comm (BB ^ i) S, hY, Nat.add_mul, Nat.add_mul]
  simp only [Nat.mul_assoc]
  omega
/-- What comes of it. -/
structure Jo (R M a b r : Nat) : Prop where
  lt : r < M
  eq : r * R % M = a * b % M
def belowN (M S : Nat) : Nat := if S < M then S else S - M
theorem Ro.done {A b M W S : Nat} (h : Ro A b M W S) (hA : A < BB ^ W) : Jo (BB ^ W) M A b (belowN M S) := by
  obtain ⟨Y, hY⟩ := h.eq
  have hl := h.lt
  rw [Nat.mod_eq_of_lt hA] at hY
  unfold belowN
  split
  · exact ⟨by omega, by rw [hY, Nat.add_mul_mod_self_right]⟩
  · refine ⟨by omega, ?_⟩
    rw [Nat.sub_mul]
    have h1 : M * BB ^ W ≤ S * BB ^ W := Nat.mul_le_mul_right _ (by omega)
    have h2 : (S * BB ^ W - M * BB ^ W + M * BB ^ W) % M = A * b % M := by
      rw [Nat.sub_add_cancel h1, hY, Nat.add_mul_mod_self_right]
    rw [Nat.add_mul_mod_self_left] at h2
    exact h2
/-- A field: its words, its prime, and what goes with them. -/
structure Fld (W M low one sq Ri : Nat) : Prop where
  w1 : 1 ≤ W
  w4 : W ≤ 4
  m9 : 2 * M ≤ BB ^ W
  m2 : 2 ≤ M
  lo : Go.Proofs.YtmpiipcllgjhdaaGreatDoor.w4 M 0 * low % BB = BB - 1
  l9 : low < BB
  o : one = BB ^ W % M
  s : sq = BB ^ W * BB ^ W % M
  i : BB ^ W * Ri % M = 1
theorem Fld.same {W M low one sq Ri r t : Nat} (f : Fld W M low one sq Ri) (h : r * BB ^ W % M = t * BB ^ W % M) : r % M = t % M := by
  have e : ∀ x, x * BB ^ W % M * Ri % M = x % M := by
    intro x
    rw [Nat.mod_mul_mod, Nat.mul_assoc, Nat.mul_mod, f.i, Nat.mul_one, Nat.mod_mod]
  rw [← e r, ← e t, h]
theorem Fld.of_one {W M low one sq Ri a r : Nat} (f : Fld W M low one sq Ri) (h : Jo (BB ^ W) M a one r) : r = a % M := by
  rw [← Nat.mod_eq_of_lt h.lt]
  refine f.same ?_
  rw [h.eq, f.o, Nat.mul_mod_mod]
theorem Fld.of_sq {W M low one sq Ri a r : Nat} (f : Fld W M low one sq Ri) (h : Jo (BB ^ W) M a sq r) : r = a * BB ^ W % M := by
  rw [← Nat.mod_eq_of_lt h.lt]
  refine f.same ?_
  rw [h.eq, f.s, Nat.mul_mod_mod, Nat.mul_assoc]
theorem Fld.of_entered {W M low one sq Ri a b r : Nat} (f : Fld W M low one sq Ri) (h : Jo (BB ^ W) M (a * BB ^ W % M) b r) : r = a * b % M := by
  rw [← Nat.mod_eq_of_lt h.lt]
  refine f.same ?_
  rw [h.eq, Nat.mod_mul_mod, Nat.mul_right_comm]
theorem Fld.both {W M low one sq Ri a b r : Nat} (f : Fld W M low one sq Ri) (h : Jo (BB ^ W) M (a * BB ^ W % M) (b * BB ^ W % M) r) : r = a * b * BB ^ W % M := by
  rw [← Nat.mod_eq_of_lt h.lt]
  refine f.same ?_
  rw [h.eq, Nat.mod_mul_mod, Nat.mul_mod_mod, Nat.mul_mul_mul_comm, Nat.mul_assoc (a * b)]
theorem Fld.leave {W M low one sq Ri a r : Nat} (f : Fld W M low one sq Ri) (h : Jo (BB ^ W) M (a * BB ^ W % M) 1 r) : r = a % M := by
  have := f.of_entered h
  rw [Nat.mul_one] at this
  exact this
theorem fs1 : Fld 1 641 28778071877862015 1 1 1 := ⟨by decide, by decide, by decide +kernel, by decide +kernel, by decide +kernel, by decide +kernel, by decide +kernel, by decide +kernel, by decide +kernel⟩
theorem fe1 : Fld 1 1283 690135397925220949 989 475 48 := ⟨by decide, by decide, by decide +kernel, by decide +kernel, by decide +kernel, by decide +kernel, by decide +kernel, by decide +kernel, by decide +kernel⟩
theorem fs2 : Fld 1 576465431670292481 14411523486952456191 576315691930484705 164727685076202836 450363764723817667 := ⟨by decide, by decide, by decide +kernel, by decide +kernel, by decide +kernel, by decide +kernel, by decide +kernel, by decide +kernel, by decide +kernel⟩
theorem fe2 : Fld 1 1152930863340584963 2177741659672237397 1152781123600777171 169519337302233854 136109958580553132 := ⟨by decide, by decide, by decide +kernel, by decide +kernel, by decide +kernel, by decide +kernel, by decide +kernel, by decide +kernel, by decide +kernel⟩
theorem fs3 : Fld 4 7237005577332262213973186563042995786902308146886443998308627866733439352833 18446744073709551615 7237005577332262213973186563042971049735362462343904064828166006911539347441 7237005577332262213973055834329441520127728155767444907515600161428691746049 5880067031582463048853214082472434173487683750925480045240918195860869414465 := ⟨by decide, by decide, by decide +kernel, by decide +kernel, by decide +kernel, by decide +kernel, by decide +kernel, by decide +kernel, by decide +kernel⟩
theorem fe3 : Fld 4 14474011154664524427946373126085991573804616293772887996617255733466878705667 6148914691236517205 14474011154664524427946373126085966836637670609230348063136793873644978700267 14474011154664524427946242397372833101701167255334527841511617785270253517891 11458592164109415172124212058151410038875124957716978240262064368612367837670 := ⟨by decide, by decide, by decide +kernel, by decide +kernel, by decide +kernel, by decide +kernel, by decide +kernel, by decide +kernel, by decide +kernel⟩
end Go.Proofs.YtmpiipcllgjhdaaGreatDoor

/- Bytes as a number, the highest first. -/
namespace Go.Proofs.YtmpiipcllgjhdaaGreatDoor
open Go.RowKit Go.Deep Go.PlainAid

def beV : List UInt8 → Nat
  | [] => 0
  | c :: l => c.toNat * 256 ^ l.length + beV l
theorem beV_append : ∀ l r : List UInt8, beV (l ++ r) = beV l * 256 ^ r.length + beV r
  | [], r => by simp [beV]
  | c :: l, r => by
    have := beV_append l r
    simp only [List.cons_append, beV, this, List.length_append, Nat.pow_add, Nat.add_mul, Nat.mul_assoc, Nat.add_assoc]
theorem beV_lt : ∀ l : List UInt8, beV l < 256 ^ l.length
  | [] => by simp [beV]
  | c :: l => by
    have h := beV_lt l
    have hc : c.toNat ≤ 255 := by have := c.toNat_lt; omega
    have : c.toNat * 256 ^ l.length ≤ 255 * 256 ^ l.length := Nat.mul_le_mul_right _ hc
    simp only [beV, List.length_cons, Nat.pow_succ]
    omega
theorem beV_snoc (l : List UInt8) (c : UInt8) : beV (l ++ [c]) = beV l * 256 + c.toNat := by
  rw [beV_append]; simp [beV]
theorem beV_drop (l : List UInt8) (i : Nat) (h : i < l.length) : beV (l.drop i) = l[i].toNat * 256 ^ (l.length - 1 - i) + beV (l.drop (i + 1)) := by
  rw [List.drop_eq_getElem_cons h, beV, List.length_drop]
  congr 3
  omega
theorem beV_take (l : List UInt8) (i : Nat) (h : i < l.length) : beV (l.take (i + 1)) = beV (l.take i) * 256 + l[i].toNat := by
  rw [List.take_succ_eq_append_getElem h, beV_snoc]
/-- The number of a text. -/
def numS (s : ByteArray) : Nat := beV s.data.toList
theorem numS_lt (s : ByteArray) : numS s < 256 ^ s.size := beV_lt _
/-- Reading by two bytes a digit, the lowest first. -/
structure Rd (l : List UInt8) (i : Nat) (P : List Nat) : Prop where
  len : P.length = (l.length + 1) / 2
  low : ∀ d ∈ P, d < 65536
  eq : vl 65536 P = beV (l.drop (l.length - i))
  zero : ∀ t, i ≤ 2 * t → P.getD t 0 = 0
  half : ∀ t, i = 2 * t + 1 → P.getD t 0 < 256
theorem Rd.start (l : List UInt8) : Rd l 0 (List.replicate ((l.length + 1) / 2) 0) := by
  refine ⟨by simp, ?_, by rw [vl_zeros]; simp [beV], ?_, fun t ht => by omega⟩
  · intro d hd; rw [List.mem_replicate] at hd; omega
  · intro t _
    rw [List.getD_eq_getElem?_getD, List.getElem?_replicate]; split <;> rfl
theorem pow2 (k : Nat) : 65536 ^ k = 256 ^ (2 * k) := by rw [show (65536 : Nat) = 256 ^ 2 from rfl, ← Nat.pow_mul]
theorem Rd.step {l : List UInt8} {i : Nat} {P : List Nat} (h : Rd l i P) (hi : i < l.length) (c : Nat) (hc : c = (l[l.length - 1 - i]'(by omega)).toNat) (j x : Nat) (hj : j = i / 2) (hx : x = P.getD j 0 + (if i % 2 = 1 then c * 256 else c)) :
    x < 65536 ∧ Rd l (i + 1) (P.set j x) := by
  have hl := h.len
  have jl : j < P.length := by omega
  have c9 : c < 256 := by rw [hc]; exact UInt8.toNat_lt _
  have hz := h.zero j
  have hh := h.half j
  have x9 : x < 65536 := by
    by_cases ho : i % 2 = 1
    · rw [if_pos ho] at hx
      have := hh (by omega)
      omega
    · rw [if_neg ho] at hx
      have := hz (by omega)
      omega
  have hg : P.getD j 0 = P[j] := by rw [List.getD_eq_getElem?_getD, List.getElem?_eq_getElem jl]; rfl
  refine ⟨x9, by rw [List.length_set]; exact hl, ?_, ?_, ?_, ?_⟩
  · intro d hd
    rcases List.mem_or_eq_of_mem_set hd with h1 | h1
    · exact h.low d h1
    · rw [h1]; exact x9
  · have e := vl_set 65536 P j x jl
    have d := beV_drop l (l.length - 1 - i) (by omega)
    rw [show l.length - (i + 1) = l.length - 1 - i by omega, d, ← hc, show l.length - 1 - i + 1 = l.length - i by omega, ← h.eq, show l.length - 1 - (l.length - 1 - i) = i by omega]
    rw [hx, hg, Nat.mul_add] at e
    have k : 65536 ^ j * (if i % 2 = 1 then c * 256 else c) = c * 256 ^ i := by
      rw [pow2]
      by_cases ho : i % 2 = 1
      · rw [if_pos ho, show i = 2 * j + 1 by omega, Nat.pow_succ, Nat.mul_left_comm, Nat.mul_comm (256 ^ (2 * j))]
      · rw [if_neg ho, show i = 2 * j by omega, Nat.mul_comm]
    rw [k, ← hg, ← hx] at e
    omega
  · intro t ht
    rw [List.getD_eq_getElem?_getD, List.getElem?_set_ne (by omega), ← List.getD_eq_getElem?_getD]
    exact h.zero t (by omega)
  · intro t ht
    have : j = t := by omega
    subst this
    rw [List.getD_eq_getElem?_getD, List.getElem?_set_self (by omega)]
    show x < 256
    rw [if_neg (by omega)] at hx
    have := hz (by omega)
    omega
/-- The words of a number that gets one byte more at its low end. -/
theorem or_add {a b k : Nat} (ha : a % 2 ^ k = 0) (hb : b < 2 ^ k) : a ||| b = a + b := by
  have e : a = (a / 2 ^ k) <<< k := by
    rw [Nat.shiftLeft_eq]
    have := Nat.div_add_mod a (2 ^ k)
    rw [ha, Nat.mul_comm] at this
    omega
  rw [e, Nat.shiftLeft_add_eq_or_of_lt hb]
theorem BB_256 : BB = 256 ^ 8 := rfl
/-- What is laid when the bytes of i places are there: V, moved up by p + 1 bytes; then the byte c at the place p. -/
theorem word_or {V c p : Nat} (hc : c < 256) : w4 (V * 256 ^ (p + 1) + c * 256 ^ p) (p / 8) = w4 (V * 256 ^ (p + 1)) (p / 8) ||| (c * 2 ^ (p % 8 * 8)) ∧ c * 2 ^ (p % 8 * 8) < BB ∧
    ∀ q, q ≠ p / 8 → w4 (V * 256 ^ (p + 1) + c * 256 ^ p) q = w4 (V * 256 ^ (p + 1)) q := by
  have hp : p = 8 * (p / 8) + p % 8 := by omega
  have hr : p % 8 < 8 := Nat.mod_lt _ (by omega)
  generalize p / 8 = q at *
  generalize p % 8 = r at *
  subst hp
  have e2 : 2 ^ (r * 8) = 256 ^ r := by rw [Nat.mul_comm, Nat.pow_mul]
  have eB : BB ^ q = 256 ^ (8 * q) := by rw [BB_256, ← Nat.pow_mul]
  have eN : V * 256 ^ (8 * q + r + 1) = BB ^ q * (V * 256 ^ (r + 1)) := by rw [eB, Nat.add_assoc, Nat.pow_add, Nat.mul_left_comm]
  have ec : c * 256 ^ (8 * q + r) = BB ^ q * (c * 256 ^ r) := by rw [eB, Nat.pow_add, Nat.mul_left_comm]
  have hB : BB = 256 ^ (r + 1) * 256 ^ (7 - r) := by rw [BB_256, ← Nat.pow_add]; congr 1; omega
  have c9 : c * 256 ^ r < 256 ^ (r + 1) := by
    rw [Nat.pow_succ, Nat.mul_comm]
    exact Nat.mul_lt_mul_of_pos_left hc (Nat.pow_pos (by omega))
  have c8 : c * 256 ^ r < BB := by
    have : 256 ^ (r + 1) * 1 ≤ 256 ^ (r + 1) * 256 ^ (7 - r) := Nat.mul_le_mul_left _ (Nat.pow_pos (by omega))
    omega
  have m0 : V * 256 ^ (r + 1) % BB % 256 ^ (r + 1) = 0 := by
    rw [hB, Nat.mod_mul_right_mod, Nat.mul_mod_left]
  have m1 : (V * 256 ^ (r + 1) + c * 256 ^ r) % BB = V * 256 ^ (r + 1) % BB + c * 256 ^ r := by
    have h1 : V * 256 ^ (r + 1) % BB + c * 256 ^ r < BB := by
      have e : V * 256 ^ (r + 1) % BB = 256 ^ (r + 1) * (V % 256 ^ (7 - r)) := by
        rw [hB, Nat.mul_comm V, Nat.mul_mod_mul_left]
      have h2 : V % 256 ^ (7 - r) + 1 ≤ 256 ^ (7 - r) := Nat.mod_lt _ (Nat.pow_pos (by omega))
      have h3 : 256 ^ (r + 1) * (V % 256 ^ (7 - r) + 1) ≤ 256 ^ (r + 1) * 256 ^ (7 - r) := Nat.mul_le_mul_left _ h2
      rw [Nat.mul_add, Nat.mul_one] at h3
      omega
    rw [← Nat.mod_add_mod, Nat.mod_eq_of_lt h1]
  rw [e2, eN, ec, ← Nat.mul_add]
  refine ⟨?_, c8, ?_⟩
  · unfold w4
    rw [Nat.mul_div_cancel_left _ (BBp q), Nat.mul_div_cancel_left _ (BBp q), m1]
    have e3 : 256 ^ (r + 1) = 2 ^ (8 * (r + 1)) := by rw [Nat.pow_mul]
    rw [or_add (k := 8 * (r + 1)) (by rw [← e3]; exact m0) (by rw [← e3]; exact c9)]
  · intro t ht
    unfold w4
    rcases Nat.lt_or_gt_of_ne ht with h | h
    · have e : BB ^ q = BB ^ t * (BB * BB ^ (q - t - 1)) := by rw [← Nat.mul_assoc, ← Nat.pow_succ, ← Nat.pow_add]; congr 1; omega
      have z : ∀ y, BB ^ q * y / BB ^ t % BB = 0 := by
        intro y
        rw [e, Nat.mul_assoc, Nat.mul_div_cancel_left _ (BBp t), Nat.mul_assoc, Nat.mul_mod_right]
      rw [z, z]
    · have e : BB ^ t = BB ^ q * (BB * BB ^ (t - q - 1)) := by rw [← Nat.mul_assoc, ← Nat.pow_succ, ← Nat.pow_add]; congr 1; omega
      rw [e, Nat.mul_div_mul_left _ _ (BBp q), Nat.mul_div_mul_left _ _ (BBp q), ← Nat.div_div_eq_div_mul, ← Nat.div_div_eq_div_mul]
      congr 2
      rw [hB, ← Nat.div_div_eq_div_mul, ← Nat.div_div_eq_div_mul]
      congr 1
      rw [Nat.mul_comm V, Nat.mul_add_div (Nat.pow_pos (by omega)), Nat.div_eq_of_lt c9, Nat.add_zero, Nat.mul_div_cancel_left _ (Nat.pow_pos (by omega))]
end Go.Proofs.YtmpiipcllgjhdaaGreatDoor

/- Words: the library's sums, differences and products; the program's chain. -/
namespace Go.Proofs.YtmpiipcllgjhdaaGreatDoor
open Go.RowKit Go.Deep Go.PlainAid

/-- What is borrowed. -/
def bor (x y b : Nat) : Nat := if x < y + b then 1 else 0
theorem add64 (x y c : Nat) (hc : c ≤ 1) (w : World) :
    (callFunc 151 #[U x, U y, U c]).run Tryz.prog w = .ok (.value (.tuple #[U ((x + y + c) % 18446744073709551616), U ((x + y + c) / 18446744073709551616)])) w := by
  rw [run_callFunc_extern Tryz.func151 (by kernel_rfl) (by kernel_rfl) (by kernel_rfl) (e := add64Entry) (by kernel_rfl), run_add64 x y c (by omega) (by omega) (by omega) (by omega)]
  simp only [Result.andThen]
  congr 5 <;> omega
theorem add64_0 (x y : Nat) (w : World) :
    (callFunc 151 #[U x, U y, .int .u64 0]).run Tryz.prog w = .ok (.value (.tuple #[U ((x + y) % 18446744073709551616), U ((x + y) / 18446744073709551616)])) w := by
  have := add64 x y 0 (by omega) w
  rw [Nat.add_zero] at this
  exact this
theorem sub64 (x y b : Nat) (hb : b ≤ 1) (w : World) :
    (callFunc 134 #[U x, U y, U b]).run Tryz.prog w = .ok (.value (.tuple #[U ((x + 18446744073709551616 - y - b) % 18446744073709551616), U (bor x y b)])) w := by
  rw [run_callFunc_extern Tryz.func134 (by kernel_rfl) (by kernel_rfl) (by kernel_rfl) (e := sub64Entry) (by kernel_rfl), run_sub64 x y b hb]
  rfl
set_option maxRecDepth 100000 in
set_option maxHeartbeats 1000000 in
theorem mul64_any (x y : Nat) (hx : x < 18446744073709551616) (hy : y < 18446744073709551616) (w : World) :
    Calls Tryz.prog 150 #[U x, U y] w fun e w' => e = .returned (.tuple #[U (x * y / 18446744073709551616), U (x * y % 18446744073709551616)]) ∧ w' = w := by
  obtain ⟨bd, bt, bw, hhi⟩ := Lib.mul64_hi x y hx hy
  have ba := Lib.half_mul_le (a := x / 4294967296) (b := y / 4294967296) (by omega) (by omega)
  have bb := Lib.half_mul_le (a := x / 4294967296) (b := y % 4294967296) (by omega) (by omega)
  have bc := Lib.half_mul_le (a := x % 4294967296) (b := y / 4294967296) (by omega) (by omega)
  have ba' : x / 4294967296 * (y / 4294967296) < 18446744073709551616 := by omega
  have bb' : x / 4294967296 * (y % 4294967296) < 18446744073709551616 := by omega
  have bc' : x % 4294967296 * (y / 4294967296) < 18446744073709551616 := by omega
  go_enter Tryz.func150, Tryz.ntmps150
  have bh1 : x / 4294967296 * (y / 4294967296) + (x / 4294967296 * (y % 4294967296) + x % 4294967296 * (y % 4294967296) / 4294967296) / 4294967296 < 18446744073709551616 := by omega
  have bh : x / 4294967296 * (y / 4294967296) + (x / 4294967296 * (y % 4294967296) + x % 4294967296 * (y % 4294967296) / 4294967296) / 4294967296 + ((x / 4294967296 * (y % 4294967296) + x % 4294967296 * (y % 4294967296) / 4294967296) % 4294967296 + x % 4294967296 * (y / 4294967296)) / 4294967296 < 18446744073709551616 := by omega
  go_wp2
  simp only [Mul64.maskN x hx, Mul64.maskN y hy, Mul64.divN, Mul64.mulN, Mul64.addN, Mul64.wrapN _ bd, Mul64.wrapN _ bb', Mul64.wrapN _ bt, Mul64.maskN _ bt, Mul64.wrapN _ bc', Mul64.wrapN _ bw, Mul64.wrapN _ ba', Mul64.wrapN _ bh1, Mul64.wrapN _ bh, Mul64.wrapM (x * y)]
  rw [hhi]
  go_ret2
  exact ⟨rfl, rfl⟩
/-- A product and two words more, in two words. -/
theorem chain_eq {h l a b : Nat} (hl : l < 18446744073709551616) (ha : a < 18446744073709551616) (hb : b < 18446744073709551616) : (h * 18446744073709551616 + l + a + b) / 18446744073709551616 = h + (l + a) / 18446744073709551616 + ((l + a) % 18446744073709551616 + b) / 18446744073709551616 ∧ (h * 18446744073709551616 + l + a + b) % 18446744073709551616 = ((l + a) % 18446744073709551616 + b) % 18446744073709551616 := by
  omega
set_option maxRecDepth 100000 in
set_option maxHeartbeats 1000000 in
theorem chain_any (x y a b : Nat) (hx : x < 18446744073709551616) (hy : y < 18446744073709551616) (ha : a < 18446744073709551616) (hb : b < 18446744073709551616) (w : World) :
    Calls Tryz.prog 136 #[U x, U y, U a, U b] w fun e w' => e = .returned (.tuple #[U ((x * y + a + b) / 18446744073709551616), U ((x * y + a + b) % 18446744073709551616)]) ∧ w' = w := by
  have C := mul64_any x y hx hy
  have hi9 := chain_hi (x := x) (y := y) (a := a) (b := b) hx hy ha hb
  rw [BB_eq] at hi9
  obtain ⟨h, hh⟩ : ∃ h, h = x * y / 18446744073709551616 := ⟨_, rfl⟩
  obtain ⟨l, hl⟩ : ∃ l, l = x * y % 18446744073709551616 := ⟨_, rfl⟩
  have l9 : l < 18446744073709551616 := by omega
  have e : x * y = h * 18446744073709551616 + l := by omega
  obtain ⟨e1, e2⟩ := chain_eq (h := h) l9 ha hb
  rw [← hh, ← hl] at C
  rw [e] at hi9 ⊢
  rw [e1] at hi9
  rw [e1, e2]
  obtain ⟨c1, hc1⟩ : ∃ c, c = (l + a) / 18446744073709551616 := ⟨_, rfl⟩
  obtain ⟨l1, hl1⟩ : ∃ c, c = (l + a) % 18446744073709551616 := ⟨_, rfl⟩
  obtain ⟨c2, hc2⟩ : ∃ c, c = (l1 + b) / 18446744073709551616 := ⟨_, rfl⟩
  obtain ⟨l2, hl2⟩ : ∃ c, c = (l1 + b) % 18446744073709551616 := ⟨_, rfl⟩
  rw [← hc1, ← hl1, ← hc2] at hi9
  rw [← hc1, ← hl1, ← hc2, ← hl2]
  have A1 := add64_0 l a
  have A2 := add64_0 l1 b
  rw [← hc1, ← hl1] at A1
  rw [← hc2, ← hl2] at A2
  obtain ⟨h1, hh1⟩ : ∃ c, c = h + c1 := ⟨_, rfl⟩
  obtain ⟨h2, hh2⟩ : ∃ c, c = h1 + c2 := ⟨_, rfl⟩
  have k1 : (h : Int) + (c1 : Int) = (h1 : Int) := by omega
  have k2 : (h1 : Int) + (c2 : Int) = (h2 : Int) := by omega
  rw [← hh1] at hi9 ⊢
  rw [← hh2] at hi9 ⊢
  have h19 : h1 < 18446744073709551616 := by omega
  clear hh hl e e1 e2 hc1 hl1 hc2 hl2 hh1 hh2
  have C' : Hid (∀ w, Calls Tryz.prog 150 #[U x, U y] w fun e w' => e = .returned (.tuple #[U h, U l]) ∧ w' = w) := C
  clear C
  go_enter Tryz.func136, Tryz.ntmps136
  go_wp2_with fail
  refine (C'.out w).mono ?_
  rintro e w' ⟨rfl, rfl⟩
  go_wp2_with (first | simp only [A1] | simp only [A2])
  go_ret2
  exact ⟨rfl, rfl⟩
end Go.Proofs.YtmpiipcllgjhdaaGreatDoor

/- How a number is told. -/
namespace Go.Proofs.YtmpiipcllgjhdaaGreatDoor
open Go.RowKit Go.Deep Go.PlainAid

abbrev NB (x0 x1 x2 x3 : Nat) : Nat := vl 18446744073709551616 [x0, x1, x2, x3]
set_option maxRecDepth 100000 in
set_option maxHeartbeats 2000000 in
theorem told_any {w : World} {g x0 x1 x2 x3 S : Nat} (hg : w.cell? ⟨g, 0, none⟩ = some (.int .i64 (S : Int))) (h0 : x0 < 18446744073709551616) (h1 : x1 < 18446744073709551616) (h2 : x2 < 18446744073709551616) (h3 : x3 < 18446744073709551616) (hS : S ≤ 32) :
    Calls Tryz.prog 65 #[.pointer (some ⟨g, 0, none⟩), .agg #[U x0, U x1, U x2, U x3]] w fun e w' => e = .returned (.tuple #[.string ⟨(beB S (NB x0 x1 x2 x3)).toArray⟩, .int .i64 0]) ∧ Below w.heap.size w w' := by
  have C : Hid (∀ W, Calls Tryz.prog 103 #[.agg #[U x0, U x1, U x2, U x3], .int .i64 (S : Int)] W fun e w' => e = .returned (.string ⟨(beB S (NB x0 x1 x2 x3)).toArray⟩) ∧ Below W.heap.size W w') := fun W => text_any W x0 x1 x2 x3 S h0 h1 h2 h3 hS
  generalize (⟨(beB S (NB x0 x1 x2 x3)).toArray⟩ : ByteArray) = T at *
  have hlt : g < w.heap.size := World.block_lt_of_cell? w ⟨g, 0, none⟩ hg
  have B : Hid (Below w.heap.size w (w.alloc (.cells #[U x0, U x1, U x2, U x3] 73)).drew) := aB (aB (b := w) (Below.refl _ _) (nB w (.cells #[U x0, U x1, U x2, U x3] 73))) (dB _)
  have J : Hid (IHolds (w.alloc (.cells #[U x0, U x1, U x2, U x3] 73)).drew w.heap.size 73 (us [x0, x1, x2, x3])) := aJ (show Hid (IHolds (w.alloc (.cells #[U x0, U x1, U x2, U x3] 73)) w.heap.size 73 (us [x0, x1, x2, x3])) from IHolds.new w 73 _) (dB _)
  have G : Hid (∀ W, Below w.heap.size w W → W.cell? ⟨g, 0, none⟩ = some (.int .i64 (S : Int))) := fun W hW => by rw [hW.cell hlt]; exact hg
  clear hg hlt h0 h1 h2 h3 hS
  go_enter Tryz.func65, Tryz.ntmps65
  go_wp2_with fail
  refine wp_region_held_drew (S := fun W => IHolds W w.heap.size 73 (us [x0, x1, x2, x3]) ∧ W.cell? ⟨g, 0, none⟩ = some (.int .i64 (S : Int))) (by kernel_rfl) ⟨J.out, G.out _ B.out⟩ (fun hH => ?_)
  generalize (w.alloc (.cells #[U x0, U x1, U x2, U x3] 73)).drew = W0 at *
  refine tk (i := 0) (v := .agg #[U x0, U x1, U x2, U x3]) rfl (by kernel_rfl) (fun _ _ _ h => h) rfl ?_ hH ?_
  · intro W hS
    have c0 : W.cell? ⟨w.heap.size, 0, none⟩ = some (U x0) := hS.1.cell 0 (by simp [us])
    have c1 : W.cell? ⟨w.heap.size, 1, none⟩ = some (U x1) := hS.1.cell 1 (by simp [us])
    have c2 : W.cell? ⟨w.heap.size, 2, none⟩ = some (U x2) := hS.1.cell 2 (by simp [us])
    have c3 : W.cell? ⟨w.heap.size, 3, none⟩ = some (U x3) := hS.1.cell 3 (by simp [us])
    go_simp
  simp only [Act.put, y1, y2, y3, y4, y5, y6, y7]
  refine tk (i := 1) (v := .pointer (some ⟨g, 0, none⟩)) rfl (by kernel_rfl) (fun _ _ _ h => h) rfl ?_ hH ?_
  · intro W hS; go_simp
  simp only [Act.put, y1, y2, y3, y4, y5, y6, y7]
  refine tk (i := 2) (v := .pointer (some ⟨g, 0, none⟩)) rfl (by kernel_rfl) (fun _ _ _ h => h) rfl ?_ hH ?_
  · intro W hS; go_simp
  simp only [Act.put, y1, y2, y3, y4, y5, y6, y7]
  refine tk (i := 3) (v := .pointer (some ⟨g, 0, none⟩)) rfl (by kernel_rfl) (fun _ _ _ h => h) rfl ?_ hH ?_
  · intro W hS; go_simp
  simp only [Act.put, y1, y2, y3, y4, y5, y6, y7]
  refine tk (i := 4) (v := .int .i64 (S : Int)) rfl (by kernel_rfl) (fun _ _ _ h => h) rfl ?_ hH ?_
  · intro W hS; have c := hS.2; go_simp
  simp only [Act.put, y1, y2, y3, y4, y5, y6, y7]
  refine wpAnyH_ready (rs := [5]) (by kernel_rfl) (by simp) ?_
  refine AllReadyH.cons rfl (fun K hK => ?_) AllReadyH.nil
  clear hH
  go_simp
  refine (C.out W0).mono ?_
  rintro e U1 ⟨rfl, hb⟩
  replace B := aB B hb
  replace J := aJ J hb
  clear hb
  go_wp2_with fail
  refine hK.out _ _ ⟨J.out, G.out _ B.out⟩ (fun hH2 => ?_)
  clear hK K
  try simp only [Act.put, y1, y2, y3, y4, y5, y6, y7]
  refine tk (i := 6) (v := .string T) rfl (by kernel_rfl) (fun _ _ _ h => h) rfl ?_ hH2 ?_
  · intro W hS; go_simp
  simp only [Act.put, y1, y2, y3, y4, y5, y6, y7]
  refine tk (i := 7) (v := .int .i64 0) rfl (by kernel_rfl) (fun _ _ _ h => h) rfl ?_ hH2 ?_
  · intro W hS; go_simp
  simp only [Act.put, y1, y2, y3, y4, y5, y6, y7]
  refine wpAnyH_done (by kernel_rfl) ?_ _
  clear hH2
  go_wp2_with fail
  go_ret2
  exact ⟨rfl, B.out⟩
end Go.Proofs.YtmpiipcllgjhdaaGreatDoor

/- What a kind stands on. -/
namespace Go.Proofs.YtmpiipcllgjhdaaGreatDoor
open Go.RowKit Go.Deep Go.PlainAid

def gz : Array Value := #[.int .i64 0, .int .i64 0, U 0, U 0, U 0, U 0, U 0, U 0, U 0, U 0, U 0, U 0, U 0, U 0, U 0, .int .i64 0, U 0, U 0, U 0, U 0, U 0, U 0, U 0, U 0, U 0, U 0, U 0, U 0, U 0]
def gr1 : Array Value := #[.int .i64 2, .int .i64 1, U 641, U 0, U 0, U 0, U 28778071877862015, U 1, U 0, U 0, U 0, U 1, U 0, U 0, U 0, .int .i64 1, U 1283, U 0, U 0, U 0, U 690135397925220949, U 989, U 0, U 0, U 0, U 475, U 0, U 0, U 0]
theorem size70 : (Tryz.prog.info? 111).map (·.size) = some 29 := by kernel_rfl
theorem IHolds.range {w : World} {b : Nat} {t : TypeId} {l : List Value} (h : IHolds w b t l) : w.rangeAt b 0 l := by
  intro j v hv
  rw [Nat.zero_add]
  obtain ⟨hj, e⟩ := List.getElem?_eq_some_iff.1 hv
  rw [h.cell j hj, e]
theorem results_cell2 {P : Program} {fn : Func} {p q : Tmp} {ty : TypeId} (h : fn.results = #[.cell p ty, .tmp q]) (tmps : Array Value) (w : World) (b o : Nat) (cs : List Value) (d : TypeDesc)
    (hp : tmps.getD p undef = .pointer (some ⟨b, o, none⟩)) (hc : w.rangeAt b o cs) (hu : P.underlying ty = some d) (hd : d.isRow = true) (hi : (P.info? ty).map (·.size) = some cs.length) :
    (results fn tmps).run P w = .ok (.tuple #[.agg cs.toArray, tmps.getD q undef]) w := by
  have := run_loadVar_mid w b o ty cs d hc hu hd hi
  rw [Array.getD_eq_getD_getElem?] at hp
  simp only [results, h]
  simp [Sem.run_bind, hp, asAddr, this]
def gr2 : Array Value := #[.int .i64 8, .int .i64 1, U 576465431670292481, U 0, U 0, U 0, U 14411523486952456191, U 576315691930484705, U 0, U 0, U 0, U 164727685076202836, U 0, U 0, U 0, .int .i64 1, U 1152930863340584963, U 0, U 0, U 0, U 2177741659672237397, U 1152781123600777171, U 0, U 0, U 0, U 169519337302233854, U 0, U 0, U 0]
def gr3 : Array Value := #[.int .i64 32, .int .i64 4, U 1, U 9223372036854775808, U 4543, U 1152921504606846976, U 18446744073709551615, U 18446744073709551601, U 9223372036854775807, U 18446744073709483463, U 1152921504606846975, U 18446743989154217217, U 9223372036854775807, U 18446359896548872895, U 1152921504606846975, .int .i64 4, U 3, U 0, U 9087, U 2305843009213693952, U 6148914691236517205, U 18446744073709551595, U 18446744073709551615, U 18446744073709488006, U 2305843009213693951, U 18446743946876550211, U 18446744073709551615, U 18446359896550040574, U 2305843009213693951]
set_option maxRecDepth 100000 in
set_option maxHeartbeats 4000000 in
theorem ground1 (w : World) : Calls Tryz.prog 62 #[.int .i64 1] w fun e w' => e = .returned (.tuple #[.agg gr1, .bool true]) ∧ Below w.heap.size w w' := by
  have hg : (w.alloc (.cells gz 111)).heap[w.heap.size]? = some (.cells gz 111 (0, 0)) := by
    have h := IHolds.new w 111 gz.toList
    unfold IHolds at h
    rw [Array.toArray_toList] at h
    exact h
  have hi : (Tryz.prog.info? 111).map (·.size) = some gr1.size := size70
  have ho : gz.size = gr1.size := rfl
  have h1 : gr1.all (·.oneCell') = true := by kernel_rfl
  go_enter Tryz.func62, Tryz.ntmps62
  go_wp2_with (first
    | (refine wpList_buildTo rfl 111 _ rfl (some 15) rfl gr1 (by as_aux_lemma => kernel_rfl) ?_)
    | (refine wpList_store_row rfl 111 (.tmp 2) (.tmp 15) rfl w.heap.size gr1 rfl rfl 111 gz hg hi ho h1 ?_))
  rw [World.setRow_alloc_new]
  have J : IHolds (w.alloc (.cells gr1 111)) w.heap.size 111 gr1.toList := by
    have h := IHolds.new w 111 gr1.toList
    rw [Array.toArray_toList] at h
    exact h
  exact bodyPost_ret (v := .tuple #[.agg gr1.toList.toArray, .bool true]) (results_cell2 Tryz.results62 _ _ w.heap.size 0 gr1.toList _ rfl J.range Tryz.underlying111 rfl size70) rfl ⟨by rw [Array.toArray_toList], nB _ _⟩
set_option maxRecDepth 100000 in
set_option maxHeartbeats 4000000 in
theorem ground2 (w : World) : Calls Tryz.prog 62 #[.int .i64 2] w fun e w' => e = .returned (.tuple #[.agg gr2, .bool true]) ∧ Below w.heap.size w w' := by
  have hg : (w.alloc (.cells gz 111)).heap[w.heap.size]? = some (.cells gz 111 (0, 0)) := by
    have h := IHolds.new w 111 gz.toList
    unfold IHolds at h
    rw [Array.toArray_toList] at h
    exact h
  have hi : (Tryz.prog.info? 111).map (·.size) = some gr2.size := size70
  have ho : gz.size = gr2.size := rfl
  have h1 : gr2.all (·.oneCell') = true := by kernel_rfl
  go_enter Tryz.func62, Tryz.ntmps62
  go_wp2_with (first
    | (refine wpList_buildTo rfl 111 _ rfl (some 26) rfl gr2 (by as_aux_lemma => kernel_rfl) ?_)
    | (refine wpList_store_row rfl 111 (.tmp 2) (.tmp 26) rfl w.heap.size gr2 rfl rfl 111 gz hg hi ho h1 ?_))
  rw [World.setRow_alloc_new]
  have J : IHolds (w.alloc (.cells gr2 111)) w.heap.size 111 gr2.toList := by
    have h := IHolds.new w 111 gr2.toList
    rw [Array.toArray_toList] at h
    exact h
  exact bodyPost_ret (v := .tuple #[.agg gr2.toList.toArray, .bool true]) (results_cell2 Tryz.results62 _ _ w.heap.size 0 gr2.toList _ rfl J.range Tryz.underlying111 rfl size70) rfl ⟨by rw [Array.toArray_toList], nB _ _⟩
set_option maxRecDepth 100000 in
set_option maxHeartbeats 4000000 in
theorem ground3 (w : World) : Calls Tryz.prog 62 #[.int .i64 3] w fun e w' => e = .returned (.tuple #[.agg gr3, .bool true]) ∧ Below w.heap.size w w' := by
  have hg : (w.alloc (.cells gz 111)).heap[w.heap.size]? = some (.cells gz 111 (0, 0)) := by
    have h := IHolds.new w 111 gz.toList
    unfold IHolds at h
    rw [Array.toArray_toList] at h
    exact h
  have hi : (Tryz.prog.info? 111).map (·.size) = some gr3.size := size70
  have ho : gz.size = gr3.size := rfl
  have h1 : gr3.all (·.oneCell') = true := by kernel_rfl
  go_enter Tryz.func62, Tryz.ntmps62
  go_wp2_with (first
    | (refine wpList_buildTo rfl 111 _ rfl (some 37) rfl gr3 (by as_aux_lemma => kernel_rfl) ?_)
    | (refine wpList_store_row rfl 111 (.tmp 2) (.tmp 37) rfl w.heap.size gr3 rfl rfl 111 gz hg hi ho h1 ?_))
  rw [World.setRow_alloc_new]
  have J : IHolds (w.alloc (.cells gr3 111)) w.heap.size 111 gr3.toList := by
    have h := IHolds.new w 111 gr3.toList
    rw [Array.toArray_toList] at h
    exact h
  exact bodyPost_ret (v := .tuple #[.agg gr3.toList.toArray, .bool true]) (results_cell2 Tryz.results62 _ _ w.heap.size 0 gr3.toList _ rfl J.range Tryz.underlying111 rfl size70) rfl ⟨by rw [Array.toArray_toList], nB _ _⟩
end Go.Proofs.YtmpiipcllgjhdaaGreatDoor
