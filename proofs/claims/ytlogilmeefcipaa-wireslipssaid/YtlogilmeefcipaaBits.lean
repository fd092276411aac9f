/- Plain: digits to a base, the highest first, of a fixed length; bits regrouped. No Go text is named here. -/
import Derived.WalkKit
set_option linter.unusedSimpArgs false
set_option linter.unusedVariables false
namespace Go.Proofs.Ytlogilmeefcipaa

/-- The number that digits to a base make, the highest first. -/
def V (B : Nat) (l : List Nat) : Nat := l.foldl (fun a d => a * B + d) 0
theorem V_nil (B : Nat) : V B [] = 0 := rfl
theorem V_snoc (B : Nat) (l : List Nat) (d : Nat) : V B (l ++ [d]) = V B l * B + d := by simp [V]
/-- m digits of a number. -/
def dgs (B : Nat) : Nat → Nat → List Nat
  | 0, _ => []
  | m + 1, X => dgs B m (X / B) ++ [X % B]
theorem dgs_length (B : Nat) : ∀ m X, (dgs B m X).length = m
  | 0, _ => rfl
  | m + 1, X => by simp [dgs, dgs_length B m]
theorem dgs_lt {B : Nat} (hB : 0 < B) : ∀ m X, ∀ d ∈ dgs B m X, d < B
  | 0, _, d, h => by simp [dgs] at h
  | m + 1, X, d, h => by
    simp only [dgs, List.mem_append, List.mem_singleton] at h
    rcases h with h | rfl
    · exact dgs_lt hB m _ d h
    · exact Nat.mod_lt _ hB
theorem snoc_of_length {l : List Nat} {m : Nat} (h : l.length = m + 1) : ∃ i d, l = i ++ [d] ∧ i.length = m := by
  have hne : l ≠ [] := by intro e; simp [e] at h
  exact ⟨l.dropLast, l.getLast hne, (List.dropLast_concat_getLast hne).symm, by simp [h]⟩
/-- Digits are told by their number. -/
theorem V_inj {B : Nat} (hB : 0 < B) : ∀ (m : Nat) (l : List Nat), l.length = m → (∀ d ∈ l, d < B) → l = dgs B m (V B l)
  | 0, l, h, _ => by rw [List.length_eq_zero_iff.1 h]; rfl
  | m + 1, l, h, hl => by
    obtain ⟨i, d, rfl, hi⟩ := snoc_of_length h
    have hd : d < B := hl d (by simp)
    rw [V_snoc, dgs, show (V B i * B + d) % B = d by rw [Nat.mul_comm, Nat.mul_add_mod, Nat.mod_eq_of_lt hd]]
    rw [show (V B i * B + d) / B = V B i by
      rw [Nat.mul_comm, Nat.mul_add_div hB, Nat.div_eq_of_lt hd, Nat.add_zero]]
    rw [← V_inj hB m i hi (fun x hx => hl x (by simp [hx]))]
theorem V_lt {B : Nat} : ∀ (m : Nat) (l : List Nat), l.length = m → (∀ d ∈ l, d < B) → V B l < B ^ m
  | 0, l, h, _ => by rw [List.length_eq_zero_iff.1 h]; simp [V]
  | m + 1, l, h, hl => by
    obtain ⟨i, d, rfl, hi⟩ := snoc_of_length h
    have hd : d < B := hl d (by simp)
    have := V_lt m i hi (fun x hx => hl x (by simp [hx]))
    rw [V_snoc, Nat.pow_succ]
    calc V B i * B + d < V B i * B + B := by omega
      _ = (V B i + 1) * B := by rw [Nat.add_mul, Nat.one_mul]
      _ ≤ B ^ m * B := Nat.mul_le_mul_right _ (by omega)
theorem V_take_succ (B : Nat) (l : List Nat) (k : Nat) (h : k < l.length) : V B (l.take (k + 1)) = V B (l.take k) * B + l[k] := by
  rw [List.take_succ_eq_append_getElem h, V_snoc]

/-! ### Groups of f bits taken as groups of t bits -/
/-- How far it has come: P of f*r bits is out (in groups of t bits) and held, of left bits. -/
structure RG (f t : Nat) (l : List Nat) (r : Nat) (out : List Nat) (held left : Nat) : Prop where
  le : r ≤ l.length
  val : V (2 ^ f) (l.take r) = V (2 ^ t) out * 2 ^ left + held
  hlt : held < 2 ^ left
  bits : f * r = t * out.length + left
  each : ∀ d ∈ out, d < 2 ^ t
theorem RG.start (f t : Nat) (l : List Nat) : RG f t l 0 [] 0 0 := ⟨Nat.zero_le _, by simp [V], by simp, by simp, by simp⟩
/-- A group more. -/
theorem RG.group {f t : Nat} {l : List Nat} {r : Nat} {out : List Nat} {held left : Nat} (h : RG f t l r out held left) (hr : r < l.length) (hg : l[r] < 2 ^ f) : RG f t l (r + 1) out (held * 2 ^ f + l[r]) (left + f) := by
  refine ⟨hr, ?_, ?_, by rw [Nat.mul_add, h.bits]; omega, h.each⟩
  · rw [V_take_succ _ _ _ hr, h.val, Nat.pow_add, Nat.add_mul, Nat.mul_assoc]; omega
  · rw [Nat.pow_add]
    have := h.hlt
    calc held * 2 ^ f + l[r] < held * 2 ^ f + 2 ^ f := by omega
      _ = (held + 1) * 2 ^ f := by rw [Nat.add_mul, Nat.one_mul]
      _ ≤ 2 ^ left * 2 ^ f := Nat.mul_le_mul_right _ (by omega)
/-- A group out. -/
theorem RG.out {f t : Nat} {l : List Nat} {r : Nat} {out : List Nat} {held left : Nat} (h : RG f t l r out held left) (ht : t ≤ left) : RG f t l r (out ++ [held / 2 ^ (left - t)]) (held % 2 ^ (left - t)) (left - t) := by
  have e : 2 ^ left = 2 ^ t * 2 ^ (left - t) := by rw [← Nat.pow_add]; congr 1; omega
  have hp : 0 < 2 ^ (left - t) := Nat.pow_pos (by omega)
  have hd : held / 2 ^ (left - t) < 2 ^ t := by
    rw [Nat.div_lt_iff_lt_mul hp, ← e]; exact h.hlt
  refine ⟨h.le, ?_, Nat.mod_lt _ hp, ?_, ?_⟩
  · rw [V_snoc, h.val, e, Nat.add_mul, Nat.mul_assoc, Nat.add_assoc]
    congr 1
    rw [Nat.mul_comm (held / _)]
    exact (Nat.div_add_mod held _).symm
  · rw [List.length_append, List.length_singleton, Nat.mul_add]; have := h.bits; omega
  · intro d hd'
    rcases List.mem_append.1 hd' with h1 | h1
    · exact h.each d h1
    · rw [List.mem_singleton.1 h1]; exact hd
/-- What it comes to. -/
theorem RG.done {f t : Nat} {l : List Nat} {out : List Nat} {held left : Nat} (h : RG f t l l.length out held left) (ht : left < t) :
    out.length = f * l.length / t ∧ left = f * l.length % t ∧ held = V (2 ^ f) l % 2 ^ left ∧ V (2 ^ t) out = V (2 ^ f) l / 2 ^ left ∧ out = dgs (2 ^ t) out.length (V (2 ^ f) l / 2 ^ left) := by
  have v := h.val
  rw [List.take_length] at v
  have hp : 0 < 2 ^ left := Nat.pow_pos (by omega)
  have e1 : V (2 ^ f) l % 2 ^ left = held := by rw [v, Nat.mul_comm, Nat.mul_add_mod]; exact Nat.mod_eq_of_lt h.hlt
  have e2 : V (2 ^ f) l / 2 ^ left = V (2 ^ t) out := by rw [v, Nat.mul_comm, Nat.mul_add_div hp, Nat.div_eq_of_lt h.hlt, Nat.add_zero]
  refine ⟨?_, ?_, e1.symm, e2.symm, ?_⟩
  · rw [h.bits, Nat.mul_add_div (by omega), Nat.div_eq_of_lt ht, Nat.add_zero]
  · rw [h.bits, Nat.mul_add_mod, Nat.mod_eq_of_lt ht]
  · rw [e2]; exact V_inj (Nat.pow_pos (by omega)) _ _ rfl h.each
end Go.Proofs.Ytlogilmeefcipaa
