/- How often a modulus is taken off at once. -/
import Derived.Test.YtmpiipcllgjhdaaGreatDoorY03
import Derived.Test.YtmpiipcllgjhdaaGreatDoorY02
import Derived.Test.YtmpiipcllgjhdaaGreatDoorY04
set_option linter.unusedSimpArgs false
set_option linter.unusedVariables false
namespace Go.Proofs.YtmpiipcllgjhdaaGreatDoor
open Go.RowKit Go.Deep Go.PlainAid

theorem P6 (k : Nat) : 0 < 65536 ^ k := Nat.pow_pos (by omega)
theorem fits {a m n t e k : Nat} (h : n * (m / 65536 ^ t + 1) ≤ a / 65536 ^ e) (hk : t + k = e) : n * m * 65536 ^ k ≤ a := by
  have h1 : m ≤ (m / 65536 ^ t + 1) * 65536 ^ t := by
    rw [Nat.mul_comm]
    exact Nat.le_of_lt (Nat.lt_mul_div_succ m (P6 t))
  have g1 : n * m * 65536 ^ k ≤ n * ((m / 65536 ^ t + 1) * 65536 ^ t) * 65536 ^ k := Nat.mul_le_mul_right _ (Nat.mul_le_mul_left _ h1)
  have g2 : n * ((m / 65536 ^ t + 1) * 65536 ^ t) * 65536 ^ k = n * (m / 65536 ^ t + 1) * 65536 ^ e := by rw [← Nat.mul_assoc, Nat.mul_assoc, ← Nat.pow_add, hk]
  have g3 : n * (m / 65536 ^ t + 1) * 65536 ^ e ≤ a / 65536 ^ e * 65536 ^ e := Nat.mul_le_mul_right _ h
  have g4 : a / 65536 ^ e * 65536 ^ e ≤ a := Nat.div_mul_le_self _ _
  omega
/-- What is taken off, moved up. -/
def moved (k : Nat) (l : List Nat) : List Nat := List.replicate k 0 ++ l
end Go.Proofs.YtmpiipcllgjhdaaGreatDoor

/- The reference's Compare. -/
namespace Go.Proofs.YtmpiipcllgjhdaaGreatDoor
open Go.RowKit Go.Deep Go.PlainAid

end Go.Proofs.YtmpiipcllgjhdaaGreatDoor

/- The reference's take. -/
namespace Go.Proofs.YtmpiipcllgjhdaaGreatDoor
open Go.RowKit Go.Deep Go.PlainAid

end Go.Proofs.YtmpiipcllgjhdaaGreatDoor

/- The reference's Minus and Mod. -/
namespace Go.Proofs.YtmpiipcllgjhdaaGreatDoor
open Go.RowKit Go.Deep Go.PlainAid

end Go.Proofs.YtmpiipcllgjhdaaGreatDoor

/- The reference: is it a scalar, is it an element; differences and numbers modulo the order. -/
namespace Go.Proofs.YtmpiipcllgjhdaaGreatDoor
open Go.RowKit Go.Deep Go.PlainAid

theorem tkU {P : Program} {md : Region.Mode} {ops : Array Oper} {Q : Exit → Act → World → Prop} {S : World → Prop} {i : Nat} {oi : Oper} {fuel : Nat} {listed : Array Bool} {a : Act} {w : World} (hi : ops[i]? = some oi)
    (hs : (Region.noSelect ops && (Region.free md ops listed i && (Region.ready md ops listed).contains i)) = true)
    (hQ : ∀ c a w, Q (.panic c) (a.put oi.dst undef) w → Q (.panic c) a w) (hw : Region.wanted oi (yielded ops a.tmps) = false) (hS : S w)
    (h : wpAnyH P md ops Q S fuel (listed.setIfInBounds i true) (a.put oi.dst undef) w) : wpAnyH P md ops Q S (fuel + 1) listed a w := by
  simp only [Bool.and_eq_true] at hs
  exact wpAnyH_take hi hs.1 hs.2.1 hs.2.2 hQ (Or.inr ⟨hw, rfl⟩) hS h
theorem NumV.len {W : World} {n L c : Nat} {a : Option Addr} (h : Hid (NumV W 65536 n (.slice a L c))) : L = (dg 65536 n).length := by
  obtain ⟨a', c', e, _⟩ := h.out
  simp only [Value.slice.injEq] at e
  exact e.2.1
end Go.Proofs.YtmpiipcllgjhdaaGreatDoor
