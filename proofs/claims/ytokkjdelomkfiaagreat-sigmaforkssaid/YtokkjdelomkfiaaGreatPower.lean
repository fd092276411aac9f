/- The reference: powers modulo. -/
import Derived.Test.YtokkjdelomkfiaaGreatBits
set_option linter.unusedSimpArgs false
set_option linter.unusedVariables false
namespace Go.Proofs.YtokkjdelomkfiaaGreat
open Go.RowKit Go.Deep Go.PlainAid

theorem dg_one : dg 65536 1 = [1] := by
  unfold dg
  rw [dif_neg (by omega)]
  unfold dg
  simp
theorem dg_is_one {x : Nat} (h : (dg 65536 x).length = 1) (h0 : (dg 65536 x).getD 0 0 = 1) : x = 1 := by
  have e := vl_dg b16 x
  match hd : dg 65536 x, h with
  | [d], _ =>
    rw [hd] at e h0
    simp [vl] at e h0
    omega
theorem bval_take (L : List Nat) (i : Nat) (h : i < L.length) : bval (L.take (i + 1)) = 2 * bval (L.take i) + L.getD i 0 := by
  rw [List.take_add_one, List.getElem?_eq_getElem h, Option.toList_some, bval_snoc, List.getD_eq_getElem?_getD, List.getElem?_eq_getElem h]
  rfl
theorem pow_two_mod (a k m : Nat) : a ^ k % m * (a ^ k % m) % m = a ^ (2 * k) % m := by
  rw [← Nat.mul_mod, ← Nat.pow_add]
  congr 2
  omega
theorem pow_next_mod (a k m : Nat) : a ^ k % m * a % m = a ^ (k + 1) % m := by
  rw [Nat.mod_mul_mod, ← Nat.pow_succ]
end Go.Proofs.YtokkjdelomkfiaaGreat
