/- The reference's fractions reckoned with: regions that draw their order. Small words for long walks. -/
import Derived.Test.YtflabehlaiocaaaDoorBaseE
import Derived.Test.YtflabehlaiocaaaDoorSure
set_option linter.unusedSimpArgs false
set_option linter.unusedVariables false
namespace Go.Proofs.YtflabehlaiocaaaDoor
open Go.RowKit Go.Deep Go.PlainAid

theorem IHolds.two0 {W : World} {b : Nat} {t : TypeId} {x y : Value} (h : IHolds W b t [x, y]) : W.cell? ⟨b, 0, none⟩ = some x := h.cell 0 (by simp)
theorem IHolds.two1 {W : World} {b : Nat} {t : TypeId} {x y : Value} (h : IHolds W b t [x, y]) : W.cell? ⟨b, 1, none⟩ = some y := h.cell 1 (by simp)

end Go.Proofs.YtflabehlaiocaaaDoor
namespace Go.Proofs.YtflabehlaiocaaaDoor
open Go.RowKit Go.Deep Go.PlainAid

theorem aB {b w w' : World} (h : Hid (Below b.heap.size b w)) (hb : Below w.heap.size w w') : Hid (Below b.heap.size b w') := h.out.trans (hb.mono h.out.size)
theorem aJ {w w' : World} {b : Nat} {t : TypeId} {l : List Value} (h : Hid (IHolds w b t l)) (hb : Below w.heap.size w w') : Hid (IHolds w' b t l) := h.out.of_below hb
theorem aN {w w' : World} {B n : Nat} {v : Value} (h : Hid (NumV w B n v)) (hb : Below w.heap.size w w') : Hid (NumV w' B n v) := h.out.of_below hb
theorem tJ {w w' : World} {b k : Nat} {t : TypeId} {l : List Value} (h : Hid (IHolds w k t l)) (hb : But b w w') (hne : k ≠ b) : Hid (IHolds w' k t l) := h.out.of_but hb hne
theorem tN {w w' : World} {b B n : Nat} {v : Value} {t : TypeId} {l : List Value} (h : Hid (NumV w B n v)) (hI : Hid (IHolds w b t l)) (hl : ∀ x ∈ l, ∀ k, x ≠ I k) (hb : But b w w') : Hid (NumV w' B n v) := h.out.apart hI.out hl hb
theorem nJ {w : World} {k : Nat} {t : TypeId} {l : List Value} (h : Hid (IHolds w k t l)) : Hid (k ≠ w.heap.size) := by
  have := h.out.lt; show _ ≠ _; omega
theorem sN {w : World} {B n : Nat} {v : Value} (h : Hid (NumV w B n v)) : ∃ a L c, v = .slice a L c := by
  obtain ⟨a, cap, h, _⟩ := h.out; exact ⟨_, _, _, h⟩
theorem dB (w : World) : Below w.heap.size w w.drew := (Below.refl _ _).drew
theorem nB (w : World) (o : Obj) : Below w.heap.size w (w.alloc o) := (Below.refl _ _).alloc (Nat.le_refl _) _
theorem fJ {w : World} {b : Nat} {t : TypeId} {l : List Value} (h : Hid (IHolds w b t l)) : ∀ i, w.frozen? ⟨b, i, none⟩ = false := fun i => h.out.frozen i
theorem cJ {w : World} {b : Nat} {t : TypeId} {x y : Value} (h : Hid (IHolds w b t [x, y])) : w.cell? ⟨b, 0, none⟩ = some x ∧ w.cell? ⟨b, 1, none⟩ = some y := ⟨h.out.two0, h.out.two1⟩
theorem c2 {w : World} {b : Nat} {t : TypeId} {x y : Value} (h : IHolds w b t [x, y]) : w.cell? ⟨b, 0, none⟩ = some x ∧ w.cell? ⟨b, 1, none⟩ = some y := ⟨h.two0, h.two1⟩
theorem y1 {α : Type} {xs : List α} {i : Nat} (h : i < xs.toArray.size) : xs.toArray[i] = xs[i]'(by simpa using h) := List.getElem_toArray h
theorem y2 {α : Type} (a : α) (l : List α) (i : Nat) (h : i + 1 < (a :: l).length) : (a :: l)[i + 1] = l[i]'(by simpa using h) := List.getElem_cons_succ a l i h
theorem y3 {α : Type} (a : α) (l : List α) (h : 0 < (a :: l).length) : (a :: l)[0] = a := List.getElem_cons_zero a l h
theorem y4 {α : Type} {l : List α} {i : Nat} {a : α} : l.toArray.setIfInBounds i a = (l.set i a).toArray := List.setIfInBounds_toArray _ _ _
theorem y5 {α : Type} {x : α} {l : List α} {a : α} : (x :: l).set 0 a = a :: l := List.set_cons_zero
theorem y6 {α : Type} {x : α} {l : List α} {n : Nat} {a : α} : (x :: l).set (n + 1) a = x :: l.set n a := List.set_cons_succ
theorem y7 {α : Type} {xs : Array α} : xs.toList.toArray = xs := Array.toArray_toList
theorem tk {P : Program} {md : Region.Mode} {ops : Array Oper} {Q : Exit → Act → World → Prop} {S : World → Prop} {i : Nat} {oi : Oper} {v : Value} {fuel : Nat} {listed : Array Bool} {a : Act} {w : World} (hi : ops[i]? = some oi)
    (hs : (Region.noSelect ops && (Region.free md ops listed i && (Region.ready md ops listed).contains i)) = true)
    (hQ : ∀ c a w, Q (.panic c) (a.put oi.dst v) w → Q (.panic c) a w) (hw : Region.wanted oi (yielded ops a.tmps) = true) (hy : ∀ w, S w → (execOp a.eval oi).run P w = .ok (.value v) w) (hS : S w)
    (h : wpAnyH P md ops Q S fuel (listed.setIfInBounds i true) (a.put oi.dst v) w) : wpAnyH P md ops Q S (fuel + 1) listed a w := by
  simp only [Bool.and_eq_true] at hs
  exact wpAnyH_take hi hs.1 hs.2.1 hs.2.2 hQ (Or.inl ⟨hw, hy⟩) hS h
end Go.Proofs.YtflabehlaiocaaaDoor
