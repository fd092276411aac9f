/- Plain: bits of values put together to bytes, as the document does; what FromLetters tells; rows of bytes that are written. -/
import Derived.Test.YtlogilmeefcipaaTextOf
set_option linter.unusedSimpArgs false
set_option linter.unusedVariables false
set_option maxRecDepth 100000
namespace Go.Proofs.Ytlogilmeefcipaa
open Go.RowKit Go.Deep Go.PlainAid

/-- The number that the first j bits of values make. -/
def pre (l : List Nat) (j : Nat) : Nat := V 32 l / 2 ^ (5 * l.length - j)
/-- A bit of values. -/
def vbit (l : List Nat) (j : Nat) : Nat := l.getD (j / 5) 0 / 2 ^ (4 - j % 5) % 2
theorem low_bit5 (Z t : Nat) (h : t < 5) : Z % 32 / 2 ^ t % 2 = Z / 2 ^ t % 2 := by
  have e : 32 = 2 ^ t * (2 * 2 ^ (4 - t)) := by
    rw [← Nat.pow_succ', ← Nat.pow_add, show t + (4 - t + 1) = 5 by omega]
  rw [e, Nat.mod_mul_right_div_self, Nat.mod_mul_right_mod]
theorem vbit_pre {l : List Nat} (hl : ∀ d ∈ l, d < 32) {j : Nat} (hj : j < 5 * l.length) : vbit l j = V 32 l / 2 ^ (5 * l.length - 1 - j) % 2 := by
  have e := V_inj (B := 32) (by omega) l.length l rfl hl
  have hq : j / 5 < l.length := by omega
  have hq' : j / 5 < (dgs 32 l.length (V 32 l)).length := by rw [dgs_length]; exact hq
  have g : l[j / 5] = V 32 l / 32 ^ (l.length - 1 - j / 5) % 32 := by
    rw [← dgs_get 32 l.length (V 32 l) (j / 5) hq']
    congr 1
  unfold vbit
  rw [List.getD_eq_getElem?_getD, List.getElem?_eq_getElem hq, Option.getD_some, g, low_bit5 _ _ (by omega), Nat.div_div_eq_div_mul]
  congr 2
  rw [show (32 : Nat) = 2 ^ 5 by rfl, ← Nat.pow_mul, ← Nat.pow_add]
  congr 1
  omega
theorem pre_succ {l : List Nat} (hl : ∀ d ∈ l, d < 32) {j : Nat} (hj : j < 5 * l.length) : pre l (j + 1) = 2 * pre l j + vbit l j := by
  rw [vbit_pre hl hj]
  unfold pre
  rw [show 5 * l.length - j = (5 * l.length - 1 - j) + 1 by omega, show 5 * l.length - (j + 1) = 5 * l.length - 1 - j by omega, Nat.pow_succ, ← Nat.div_div_eq_div_mul]
  omega
/-- A byte, when j bits were gone through. -/
def ob (l : List Nat) (j q : Nat) : Nat := pre l (min j (8 * q + 8)) % 2 ^ (min j (8 * q + 8) - 8 * q)
theorem mod_two_step (x b e : Nat) (hb : b < 2) : (2 * x + b) % 2 ^ (e + 1) = 2 * (x % 2 ^ e) + b := by
  rw [Nat.pow_succ', Nat.mod_mul, show (2 * x + b) % 2 = b by omega, show (2 * x + b) / 2 = x by omega]
  omega
theorem vbit_lt (l : List Nat) (j : Nat) : vbit l j < 2 := Nat.mod_lt _ (by omega)
theorem ob_here {l : List Nat} (hl : ∀ d ∈ l, d < 32) {j : Nat} (hj : j < 5 * l.length) : ob l (j + 1) (j / 8) = 2 * ob l j (j / 8) + vbit l j := by
  unfold ob
  rw [Nat.min_eq_left (by omega : j + 1 ≤ 8 * (j / 8) + 8), Nat.min_eq_left (by omega : j ≤ 8 * (j / 8) + 8), pre_succ hl hj, show j + 1 - 8 * (j / 8) = (j - 8 * (j / 8)) + 1 by omega, mod_two_step _ _ _ (vbit_lt l j)]
theorem ob_other {l : List Nat} {j q : Nat} (hq : q ≠ j / 8) : ob l (j + 1) q = ob l j q := by
  unfold ob
  by_cases h : q < j / 8
  · rw [Nat.min_eq_right (by omega), Nat.min_eq_right (by omega)]
  · rw [show min (j + 1) (8 * q + 8) - 8 * q = 0 by omega, show min j (8 * q + 8) - 8 * q = 0 by omega]
    simp [Nat.mod_one]
theorem ob_zero (l : List Nat) (q : Nat) : ob l 0 q = 0 := by simp [ob, Nat.mod_one]
theorem ob_lt {l : List Nat} (j : Nat) : ob l j (j / 8) < 128 := by
  unfold ob
  rw [Nat.min_eq_left (by omega)]
  exact Nat.lt_of_lt_of_le (Nat.mod_lt _ (Nat.pow_pos (by omega))) (show 2 ^ (j - 8 * (j / 8)) ≤ 2 ^ 7 from Nat.pow_le_pow_right (by omega) (by omega))
/-- The bytes, when j bits were gone through. -/
def obs (l : List Nat) (n j : Nat) : List Nat := (List.range n).map (ob l j)
theorem obs_length (l : List Nat) (n j : Nat) : (obs l n j).length = n := by simp [obs]
theorem obs_zero (l : List Nat) (n : Nat) : obs l n 0 = List.replicate n 0 := by
  apply List.ext_getElem (by simp [obs])
  intro i h1 h2
  simp [obs, ob_zero]
theorem obs_get (l : List Nat) (n j q : Nat) (h : q < (obs l n j).length) : (obs l n j)[q] = ob l j q := by simp [obs]
theorem obs_succ {l : List Nat} (hl : ∀ d ∈ l, d < 32) {n j : Nat} (hj : j < 5 * l.length) (hn : j / 8 < n) : obs l n (j + 1) = (obs l n j).set (j / 8) (2 * ob l j (j / 8) + vbit l j) := by
  apply List.ext_getElem (by simp [obs])
  intro i h1 h2
  rw [obs_get, List.getElem_set]
  by_cases e : j / 8 = i
  · subst e; rw [if_pos rfl, ob_here hl hj]
  · rw [if_neg e, obs_get, ob_other (fun h => e h.symm)]
theorem obs_stay {l : List Nat} {n j : Nat} (hn : ¬ j / 8 < n) : obs l n (j + 1) = obs l n j := by
  apply List.ext_getElem (by simp [obs])
  intro i h1 h2
  rw [obs_get, obs_get, ob_other (by rw [obs_length] at h1; omega)]
theorem obs_all {l : List Nat} : obs l (5 * l.length / 8) (5 * l.length) = dgs 256 (5 * l.length / 8) (V 32 l / 2 ^ (5 * l.length % 8)) := by
  apply List.ext_getElem (by rw [obs_length, dgs_length])
  intro q h1 h2
  rw [obs_get, dgs_get]
  rw [obs_length] at h1
  unfold ob pre
  rw [Nat.min_eq_right (by omega), show 8 * q + 8 - 8 * q = 8 by omega, Nat.div_div_eq_div_mul]
  congr 2
  rw [show (256 : Nat) = 2 ^ 8 by rfl, ← Nat.pow_mul, ← Nat.pow_add]
  congr 1
  omega
/-- The bits behind the last byte, as far as j, are zeros. -/
def tailZ (l : List Nat) (j : Nat) : Prop := j ≤ 8 * (5 * l.length / 8) ∨ pre l j % 2 ^ (j - 8 * (5 * l.length / 8)) = 0
theorem tail_next {l : List Nat} (hl : ∀ d ∈ l, d < 32) {j : Nat} (hj : j < 5 * l.length) (h : tailZ l j) (hb : ¬ j / 8 < 5 * l.length / 8) (h0 : vbit l j = 0) : tailZ l (j + 1) := by
  right
  rw [pre_succ hl hj, show j + 1 - 8 * (5 * l.length / 8) = (j - 8 * (5 * l.length / 8)) + 1 by omega, mod_two_step _ _ _ (vbit_lt l j), h0]
  rcases h with h | h
  · rw [show j - 8 * (5 * l.length / 8) = 0 by omega]; simp [Nat.mod_one]
  · rw [h]
theorem tail_early {l : List Nat} {j : Nat} (hb : j / 8 < 5 * l.length / 8) : tailZ l (j + 1) := Or.inl (by omega)
theorem tail_done {l : List Nat} (h : tailZ l (5 * l.length)) : V 32 l % 2 ^ (5 * l.length % 8) = 0 := by
  rcases h with h | h
  · rw [show 5 * l.length % 8 = 0 by omega]; simp [Nat.mod_one]
  · unfold pre at h
    rw [Nat.sub_self, Nat.pow_zero, Nat.div_one, show 5 * l.length - 8 * (5 * l.length / 8) = 5 * l.length % 8 by omega] at h
    exact h
theorem tail_bad {l : List Nat} (hl : ∀ d ∈ l, d < 32) {j : Nat} (hj : j < 5 * l.length) (hb : ¬ j / 8 < 5 * l.length / 8) (h1 : vbit l j = 1) : V 32 l % 2 ^ (5 * l.length % 8) ≠ 0 := by
  intro h
  have e : 2 ^ (5 * l.length % 8) = 2 ^ (5 * l.length - (j + 1)) * 2 ^ (j + 1 - 8 * (5 * l.length / 8)) := by rw [← Nat.pow_add]; congr 1; omega
  have h2 : pre l (j + 1) % 2 ^ (j + 1 - 8 * (5 * l.length / 8)) = 0 := by
    unfold pre
    rw [← Nat.mod_mul_right_div_self, ← e, h, Nat.zero_div]
  rw [pre_succ hl hj, show j + 1 - 8 * (5 * l.length / 8) = (j - 8 * (5 * l.length / 8)) + 1 by omega, mod_two_step _ _ _ (vbit_lt l j), h1] at h2
  omega
theorem txtV_ok {l : List Nat} (h : tailZ l (5 * l.length)) : txtV l = (strN (obs l (5 * l.length / 8) (5 * l.length)), 0) := by
  unfold txtV
  rw [if_pos (tail_done h), obs_all]
theorem txtV_bad {l : List Nat} (h : V 32 l % 2 ^ (5 * l.length % 8) ≠ 0) : txtV l = (⟨#[]⟩, 2) := by
  unfold txtV
  rw [if_neg h]
/-- What FromLetters tells of a text. -/
def fromS (s : ByteArray) : ByteArray × Nat := if okB (sls (bs s)) = true ∧ sls (bs s) ≠ [] then fromV (((sls (bs s)).map Int.toNat).dropLast) (((sls (bs s)).map Int.toNat).getLastD 0) else (⟨#[]⟩, 2)
theorem fromS_bad {s : ByteArray} (h : okB (sls (bs s)) = false ∨ sls (bs s) = []) : fromS s = (⟨#[]⟩, 2) := by
  unfold fromS
  rw [if_neg]
  rintro ⟨h1, h2⟩
  rcases h with h | h
  · rw [h1] at h; cases h
  · exact h2 h
theorem fromS_good {s : ByteArray} {i : List Nat} {c : Nat} (h : okB (sls (bs s)) = true) (hl : (sls (bs s)).map Int.toNat = i ++ [c]) : fromS s = fromV i c := by
  unfold fromS
  rw [if_pos ⟨h, fun e => by rw [e] at hl; simp at hl⟩, hl]
  simp
theorem sls_range (s : ByteArray) : ∀ x ∈ sls (bs s), -1 ≤ x ∧ x ≤ 36 := by
  intro x hx
  obtain ⟨c, hc, rfl⟩ := List.mem_map.1 hx
  exact sv_range (bs_lt s c (List.mem_filter.1 hc).1)
theorem okB_iff (m : List Int) : okB m = true ↔ ∀ j (h : j < m.length), 0 ≤ m[j] ∧ (j < m.length - 1 → m[j] < 32) := by
  simp only [okB, Bool.and_eq_true, List.all_eq_true, decide_eq_true_eq]
  constructor
  · intro h j hj
    refine ⟨h.1 _ (List.getElem_mem _), fun hj2 => h.2 _ ?_⟩
    have : m.dropLast[j]'(by simp; omega) = m[j] := by simp
    rw [← this]
    exact List.getElem_mem _
  · intro h
    refine ⟨fun x hx => ?_, fun x hx => ?_⟩
    · obtain ⟨j, hj, rfl⟩ := List.getElem_of_mem hx
      exact (h j hj).1
    · obtain ⟨j, hj, rfl⟩ := List.getElem_of_mem hx
      have hj' : j < m.length - 1 := by simpa using hj
      have e : m.dropLast[j] = m[j]'(by omega) := by simp
      rw [e]
      exact (h j (by omega)).2 hj'
theorem JZ {x : Int} (h : 0 ≤ x) : J x = Z x.toNat := by
  show Value.int .i64 x = Value.int .i64 (x.toNat : Int)
  rw [Int.toNat_of_nonneg h]
/-- The good ones, taken apart. -/
theorem good_parts {s : ByteArray} (h : okB (sls (bs s)) = true) (hne : sls (bs s) ≠ []) : ∃ i c, (sls (bs s)).map Int.toNat = i ++ [c] ∧ (∀ d ∈ i, d < 32) ∧ c < 37 ∧ (sls (bs s)).map J = i.map Z ++ [Z c] := by
  have hr := sls_range s
  generalize sls (bs s) = m at *
  rcases List.eq_nil_or_concat m with e | ⟨i, c, e⟩
  · exact absurd e hne
  · rw [List.concat_eq_append] at e
    subst e
    simp only [okB, List.dropLast_concat, Bool.and_eq_true, List.all_eq_true, decide_eq_true_eq] at h
    refine ⟨i.map Int.toNat, c.toNat, by simp, ?_, ?_, ?_⟩
    · intro d hd
      obtain ⟨x, hx, rfl⟩ := List.mem_map.1 hd
      have h1 := h.2 x hx
      have h2 := h.1 x (by simp [hx])
      omega
    · have h1 := hr c (by simp)
      omega
    · rw [List.map_append, List.map_map]
      congr 1
      · apply List.map_congr_left
        intro x hx
        have h2 := h.1 x (by simp [hx])
        exact JZ h2
      · have h2 := h.1 c (by simp)
        simp only [List.map_cons, List.map_nil]
        rw [JZ h2]
theorem from_any (w : World) (s : ByteArray) (hs : s.size ≤ 1100000) :
    Calls Try.prog 12 #[.string s] w fun e w' => e = .returned (.tuple #[.string (fromS s).1, .int .i64 ((fromS s).2 : Int)]) ∧ Below w.heap.size w w' := by
  by_cases h : okB (sls (bs s)) = false ∨ sls (bs s) = []
  · rw [fromS_bad h]; exact from_bad w s hs h
  · have h1 : okB (sls (bs s)) = true := by
      cases hq : okB (sls (bs s)) with
      | true => rfl
      | false => exact absurd (Or.inl hq) h
    obtain ⟨i, c, e1, e2, e3, _⟩ := good_parts h1 (fun e => h (Or.inr e))
    rw [fromS_good h1 e1]
    exact from_good w s hs i c h1 e1 e2 e3
end Go.Proofs.Ytlogilmeefcipaa
