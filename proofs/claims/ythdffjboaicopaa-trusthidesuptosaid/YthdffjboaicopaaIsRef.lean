/- The reference: is it a scalar, is it an element; differences and numbers modulo the order. -/
import Derived.Test.YthdffjboaicopaaMod
import Derived.Test.YthdffjboaicopaaRead
set_option linter.unusedSimpArgs false
set_option linter.unusedVariables false
namespace Go.Proofs.Ythdffjboaicopaa
open Go.RowKit Go.Deep Go.PlainAid

theorem tkU {P : Program} {md : Region.Mode} {ops : Array Oper} {Q : Exit → Act → World → Prop} {S : World → Prop} {i : Nat} {oi : Oper} {fuel : Nat} {listed : Array Bool} {a : Act} {w : World} (hi : ops[i]? = some oi)
    (hs : (Region.noSelect ops && (Region.free md ops listed i && (Region.ready md ops listed).contains i)) = true)
    (hQ : ∀ c a w, Q (.panic c) (a.put oi.dst undef) w → Q (.panic c) a w) (hw : Region.wanted oi (yielded ops a.tmps) = false) (hS : S w)
    (h : wpAnyH P md ops Q S fuel (listed.setIfInBounds i true) (a.put oi.dst undef) w) : wpAnyH P md ops Q S (fuel + 1) listed a w := by
  simp only [Bool.and_eq_true] at hs
  exact wpAnyH_take hi hs.1 hs.2.1 hs.2.2 hQ (Or.inr ⟨hw, rfl⟩) hS h
theorem NumV.len {W : World} {n L c : Nat} {a : Option Addr} (h : Hid (NumV W 65536 n (.slice a L c))) : L = (dg 65536 n).length := by
  obtain ⟨a', c', e, _⟩ := h.out
  simp only [Value.slice.injEq] at e
  exact e.2.1
end Go.Proofs.Ythdffjboaicopaa
