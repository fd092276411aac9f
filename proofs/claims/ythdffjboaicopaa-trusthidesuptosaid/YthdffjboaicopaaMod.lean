/- The reference's Minus and Mod. -/
import Derived.Test.YthdffjboaicopaaTake
set_option linter.unusedSimpArgs false
set_option linter.unusedVariables false
namespace Go.Proofs.Ythdffjboaicopaa
open Go.RowKit Go.Deep Go.PlainAid

theorem NumV.cellAt {w : World} {n : Nat} {a : Option Addr} (h : Row w a (dg 65536 n)) {i : Nat} (hi : i < (dg 65536 n).length) : ∃ b o, a = some ⟨b, o, none⟩ ∧ w.cell? ⟨b, o + i, none⟩ = some (I ((dg 65536 n).getD i 0)) := by
  obtain ⟨b, o, e, c⟩ := h i hi
  exact ⟨b, o, e, by rw [c, List.getD_eq_getElem?_getD, List.getElem?_eq_getElem hi]; rfl⟩
end Go.Proofs.Ythdffjboaicopaa
