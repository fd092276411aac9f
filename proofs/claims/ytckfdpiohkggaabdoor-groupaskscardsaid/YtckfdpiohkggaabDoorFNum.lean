/- The field's numbers, and what is reduced. -/
import Derived.Test.YtckfdpiohkggaabDoorJoin
set_option linter.unusedSimpArgs false
set_option linter.unusedVariables false
namespace Go.Proofs.YtckfdpiohkggaabDoor
open Go.RowKit Go.Deep Go.PlainAid

theorem A4_small {k : Nat} (h : k < BB) : Value.agg #[U k, .int .u64 0, .int .u64 0, .int .u64 0] = A4 k := by
  refine A4_of (a := k) (b := 0) (c := 0) (d := 0) ?_ (by simp [vl])
  intro x hx
  simp only [List.mem_cons, List.not_mem_nil, or_false] at hx
  have := BB_pos
  omega
theorem joined_one {w : World} {g o Wd M low one sq Ri a : Nat} (F : FH w g o Wd M low one sq) (fl : Fld Wd M low one sq Ri) (ha : a < BB ^ Wd) :
    Calls Tryd.prog 37 #[.pointer (some ⟨g, o, none⟩), A4 a, A4 one] w fun e w' => e = .returned (A4 (a % M)) ∧ Below w.heap.size w w' := by
  have hm := fl.m2
  refine (joined_any F fl ha (by rw [fl.o]; exact Nat.mod_lt _ (by omega))).mono ?_
  rintro e w' ⟨⟨r, rfl, h⟩, hb⟩
  rw [fl.of_one h]
  exact ⟨rfl, hb⟩
theorem joined_sq {w : World} {g o Wd M low one sq Ri a : Nat} (F : FH w g o Wd M low one sq) (fl : Fld Wd M low one sq Ri) (ha : a < BB ^ Wd) :
    Calls Tryd.prog 37 #[.pointer (some ⟨g, o, none⟩), A4 a, A4 sq] w fun e w' => e = .returned (A4 (a * BB ^ Wd % M)) ∧ Below w.heap.size w w' := by
  have hm := fl.m2
  refine (joined_any F fl ha (by rw [fl.s]; exact Nat.mod_lt _ (by omega))).mono ?_
  rintro e w' ⟨⟨r, rfl, h⟩, hb⟩
  rw [fl.of_sq h]
  exact ⟨rfl, hb⟩
/-- A number of the field. -/
def numF (M : Nat) (z : Int) : Nat := if z < 0 then subF M 0 ((-z).toNat % M) else z.toNat % M
theorem Fld.big {Wd M low one sq Ri : Nat} (fl : Fld Wd M low one sq Ri) : 2 * M ≤ BB ^ 4 := Nat.le_trans fl.m9 (Nat.pow_le_pow_right BB_pos fl.w4)
theorem Fld.word {Wd M low one sq Ri k : Nat} (fl : Fld Wd M low one sq Ri) (hk : k < BB) : k < BB ^ Wd := Nat.lt_of_lt_of_le hk (by
  have := Nat.pow_le_pow_right BB_pos fl.w1
  rwa [Nat.pow_one] at this)
end Go.Proofs.YtckfdpiohkggaabDoor
