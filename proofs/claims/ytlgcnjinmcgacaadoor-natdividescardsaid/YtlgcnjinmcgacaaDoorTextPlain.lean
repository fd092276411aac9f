/- Plain: the digits of limbs, one behind the other; zeros ahead of a text left out. -/
import Derived.Test.YtlgcnjinmcgacaaDoorPutPlain
set_option linter.unusedSimpArgs false
set_option linter.unusedVariables false
namespace Go.Proofs.YtlgcnjinmcgacaaDoor

theorem chars_snoc (l : List Nat) (d : Nat) : chars (l ++ [d]) = UInt8.ofNat (d + 48) :: chars l := by simp [chars]
theorem chars_length (l : List Nat) : (chars l).length = l.length := by simp [chars]
/-- Zeros ahead of a text left out. -/
theorem drop_zeros (k : Nat) : ∀ P : List Nat, P.length = k → (∀ d ∈ P, d < 10) → (chars P).dropWhile (· == 48) = chars (dg 10 (vl 10 P)) := by
  induction k with
  | zero =>
    intro P hl _
    have := List.length_eq_zero_iff.1 hl
    subst this
    simp [vl, dg_zero, chars]
  | succ k ih =>
    intro P hl hd
    have hne : P ≠ [] := fun h => by subst h; simp at hl
    obtain ⟨Q, d, rfl⟩ : ∃ Q d, P = Q ++ [d] := ⟨P.dropLast, P.getLast hne, (List.dropLast_concat_getLast hne).symm⟩
    have hq : Q.length = k := by simpa using hl
    have hdd : d < 10 := hd d (by simp)
    rw [chars_snoc, vl_snoc]
    by_cases h0 : d = 0
    · subst h0
      have : (UInt8.ofNat (0 + 48) :: chars Q).dropWhile (· == 48) = (chars Q).dropWhile (· == 48) := by simp
      rw [this, ih Q hq (fun x hx => hd x (by simp [hx]))]
      simp
    · have h48 : (UInt8.ofNat (d + 48) == 48) = false := by
        rw [beq_eq_false_iff_ne]
        intro h
        have := congrArg UInt8.toNat h
        rw [UInt8.toNat_ofNat'] at this
        have e : (48 : UInt8).toNat = 48 := rfl
        omega
      rw [List.dropWhile_cons, h48]
      simp only [Bool.false_eq_true, if_false]
      rw [← vl_snoc, dg_vl (by omega) (Q ++ [d]) hd (Or.inr (by simp; omega)), chars_snoc]
/-- One digit more of a limb. -/
structure Digs (N T : Nat) (D : List Nat) (cur j : Nat) : Prop where
  low : ∀ d ∈ D, d < 10
  val : vl 10 D + 10 ^ D.length * cur = T
  left : cur < 10 ^ (9 - j)
theorem Digs.step {N T : Nat} {D : List Nat} {cur j : Nat} (h : Digs N T D cur j) (hj : j < 9) : Digs N T (D ++ [cur % 10]) (cur / 10) (j + 1) := by
  refine ⟨?_, ?_, ?_⟩
  · intro d hd
    rcases List.mem_append.1 hd with hd | hd
    · exact h.low d hd
    · simp at hd; omega
  · rw [vl_snoc, List.length_append, List.length_singleton, ← h.val]
    have e : cur = cur % 10 + 10 * (cur / 10) := (Nat.mod_add_div cur 10).symm
    have : 10 ^ D.length * cur = 10 ^ D.length * (cur % 10 + 10 * (cur / 10)) := by rw [← e]
    grind
  · rw [Nat.div_lt_iff_lt_mul (by omega)]
    have := h.left
    have e : (10 : Nat) ^ (9 - j) = 10 ^ (9 - (j + 1)) * 10 := by rw [← Nat.pow_succ]; congr 1; omega
    omega
theorem Digs.done {N T : Nat} {D : List Nat} {cur : Nat} (h : Digs N T D cur 9) : vl 10 D = T := by
  have := h.left
  have h0 : cur = 0 := by simpa using this
  have := h.val
  rw [h0] at this
  simpa using this
theorem limb_more (l : List Nat) (i : Nat) (hi : i < l.length) (D : List Nat) (hD : D.length = 9 * i) (hv : vl 10 D = vl 1000000000 (l.take i)) : vl 10 D + 10 ^ D.length * l[i] = vl 1000000000 (l.take (i + 1)) := by
  have e := vl_take_succ 1000000000 l i
  rw [List.getD_eq_getElem?_getD, List.getElem?_eq_getElem hi] at e
  simp only [Option.getD_some] at e
  rw [e, hv, hD, Nat.pow_mul]
end Go.Proofs.YtlgcnjinmcgacaaDoor
