/- How gatesOn stands. -/
import Derived.Test.YtelfcapjegncfaaUa
import Derived.Test.YtelfcapjegncfaaCa
import Derived.OneCell
import Derived.OwnWalk
import Derived.Deep.CutBlock
import Derived.Deep.DeepCutAuto
set_option linter.unusedSimpArgs false
set_option linter.unusedVariables false
set_option maxRecDepth 100000
namespace Go.Proofs.Ytelfcapjegncfaa
open Go.RowKit Go.Deep Go.PlainAid

theorem y1 {α : Type} {xs : List α} {i : Nat} (h : i < xs.toArray.size) : xs.toArray[i] = xs[i]'(by simpa using h) := List.getElem_toArray h
theorem y2 {α : Type} (a : α) (l : List α) (i : Nat) (h : i + 1 < (a :: l).length) : (a :: l)[i + 1] = l[i]'(by simpa using h) := List.getElem_cons_succ a l i h
theorem y3 {α : Type} (a : α) (l : List α) (h : 0 < (a :: l).length) : (a :: l)[0] = a := List.getElem_cons_zero a l h
theorem y4 {α : Type} {l : List α} {i : Nat} {a : α} : l.toArray.setIfInBounds i a = (l.set i a).toArray := List.setIfInBounds_toArray _ _ _
theorem y5 {α : Type} {x : α} {l : List α} {a : α} : (x :: l).set 0 a = a :: l := List.set_cons_zero
theorem y6 {α : Type} {x : α} {l : List α} {n : Nat} {a : α} : (x :: l).set (n + 1) a = x :: l.set n a := List.set_cons_succ
theorem y7 {α : Type} {xs : Array α} : xs.toList.toArray = xs := Array.toArray_toList
theorem tk {P : Program} {md : Region.Mode} {ops : Array Oper} {Q : Exit → Act → World → Prop} {S : World → Prop} {i : Nat} {oi : Oper} {v : Value} {fuel : Nat} {listed : Array Bool} {a : Act} {w : World} (hi : ops[i]? = some oi)
    (hs : (Region.noSelect ops && (Region.free md ops listed i && (Region.ready md ops listed).contains i)) = true)
    (hQ : ∀ c a w, Q (.panic c) (a.put oi.dst v) w → Q (.panic c) a w) (hw : Region.wanted oi (yielded ops a.tmps) = true) (hy : ∀ w, S w → (execOp a.eval oi).run P w = .ok (.value v) w) (hS : S w)
    (h : wpAnyH P md ops Q S fuel (listed.setIfInBounds i true) (a.put oi.dst v) w) : wpAnyH P md ops Q S (fuel + 1) listed a w := by
  simp only [Bool.and_eq_true] at hs
  exact wpAnyH_take hi hs.1 hs.2.1 hs.2.2 hQ (Or.inl ⟨hw, hy⟩) hS h

theorem wrapN {n : Nat} (h : n ≤ 4294967296) : IntKind.i64.wrap (n : Int) = (n : Int) := by
  rw [IntKind.wrap_i64]
  omega
theorem own_mono {w : World} {b b' e k n : Nat} {v : Value} {xs : List Value} (h : w.ownsRow b e k v n xs) (hb : b' ≤ b) : w.ownsRow b' e k v n xs := by
  obtain ⟨hl, ⟨rfl, h0⟩ | ⟨g, cap, cur, rfl, h1, h2⟩⟩ := h
  · exact ⟨hl, .inl ⟨rfl, h0⟩⟩
  · exact ⟨hl, .inr ⟨g, cap, cur, rfl, Nat.le_trans hb h1, h2⟩⟩
theorem own_ne {w : World} {b b' e e' k k' n n' : Nat} {v v' : Value} {xs xs' : List Value} (h : w.ownsRow b e k v n xs) (h' : w.ownsRow b' e' k' v' n' xs') (hne : e ≠ e') : v.ownBlock = none ∨ v.ownBlock ≠ v'.ownBlock := by
  obtain ⟨_, ⟨rfl, _⟩ | ⟨g, cap, cur, rfl, _, hg, _⟩⟩ := h
  · exact .inl rfl
  · obtain ⟨_, ⟨rfl, _⟩ | ⟨g', cap', cur', rfl, _, hg', _⟩⟩ := h'
    · exact .inr (by simp [Value.ownBlock])
    · right
      intro q
      simp only [Value.ownBlock, Option.some.injEq] at q
      subst q
      rw [hg] at hg'
      cases hg'
      exact hne rfl
/-- How gatesOn stands: its gates, its two lists of wires in their box. -/
structure GS (w wr : World) (nf : Nat) (XF : List Value) (n0 : Nat) (X0 : List Value) (n1 : Nat) (X1 : List Value) (v3 v0 v1 : Value) : Prop where
  rf : wr.ownsRow w.heap.size 28 2 v3 nf XF
  box : IHolds wr w.heap.size 49 [v0, v1]
  r0 : wr.ownsRow w.heap.size 3 1 v0 n0 X0
  r1 : wr.ownsRow w.heap.size 3 1 v1 n1 X1
  dj : ∀ g, v0.ownBlock = some g → v1.ownBlock ≠ some g
  bl : Below w.heap.size w wr
section
variable {w wr : World} {nf n0 n1 : Nat} {XF X0 X1 : List Value} {v3 v0 v1 : Value}
theorem GS.drew (h : GS w wr nf XF n0 X0 n1 X1 v3 v0 v1) : GS w wr.drew nf XF n0 X0 n1 X1 v3 v0 v1 := ⟨h.rf.drew, h.box, h.r0.drew, h.r1.drew, h.dj, h.bl.drew⟩
theorem GS.alloc (h : GS w wr nf XF n0 X0 n1 X1 v3 v0 v1) (o : Obj) : GS w (wr.alloc o) nf XF n0 X0 n1 X1 v3 v0 v1 := ⟨h.rf.alloc o, h.box.of_below ((Below.refl _ _).alloc (Nat.le_refl _) o), h.r0.alloc o, h.r1.alloc o, h.dj, h.bl.alloc h.bl.size o⟩
theorem GS.appF (h : GS w wr nf XF n0 X0 n1 X1 v3 v0 v1) {w8 : World} {v' : Value} {XF' : List Value} (ho : w8.ownsRow w.heap.size 28 2 v' (nf + 1) XF') (hg : wr.grownBy w8 v3.ownBlock) : GS w w8 (nf + 1) XF' n0 X0 n1 X1 v' v0 v1 :=
  ⟨ho, h.box.far hg (h.box.not_row (by decide) h.rf), h.r0.kept hg (own_ne h.r0 h.rf (by decide)), h.r1.kept hg (own_ne h.r1 h.rf (by decide)), h.dj, h.bl.grown hg h.bl.size (fun k hk => (h.rf.lt k hk).1)⟩
theorem GS.app0 (h : GS w wr nf XF n0 X0 n1 X1 v3 v0 v1) {w8 : World} {g n cap : Nat} {X' : List Value} (ho : w8.ownsRow w.heap.size 3 1 (.slice (some ⟨g, 0, none⟩) n cap) n X') (hg : wr.grownBy w8 v0.ownBlock) (hat : v0.ownBlock = some g ∨ g = wr.heap.size) :
    IHolds w8 w.heap.size 49 [v0, v1] ∧ GS w (w8.setCell ⟨w.heap.size, 0, none⟩ (.slice (some ⟨g, 0, none⟩) n cap)) nf XF n X' n1 X1 v3 (.slice (some ⟨g, 0, none⟩) n cap) v1 := by
  have b8 := h.box.far hg (h.box.not_row (by decide) h.r0)
  have f8 := h.rf.kept hg (own_ne h.rf h.r0 (by decide))
  have hne : v1.ownBlock = none ∨ v1.ownBlock ≠ v0.ownBlock := by
    cases q : v1.ownBlock with
    | none => exact .inl rfl
    | some y => exact .inr (fun e => h.dj y e.symm q)
  have r8 := h.r1.kept hg hne
  refine ⟨b8, ?_, b8.set 0 _, ?_, ?_, ?_, ?_⟩
  · exact ownsRow_setCell_other f8 (a := ⟨w.heap.size, 0, none⟩) (fun e => b8.not_row (by decide) f8 e.symm) _
  · exact ownsRow_setCell_other ho (a := ⟨w.heap.size, 0, none⟩) (fun e => b8.not_row (by decide) ho e.symm) _
  · exact ownsRow_setCell_other r8 (a := ⟨w.heap.size, 0, none⟩) (fun e => b8.not_row (by decide) r8 e.symm) _
  · intro y hy q
    simp only [Value.ownBlock, Option.some.injEq] at hy
    subst hy
    rcases hat with e | e
    · exact h.dj _ e q
    · have := (h.r1.lt _ q).2
      omega
  · exact (h.bl.grown hg h.bl.size (fun k hk => (h.r0.lt k hk).1)).setCell (p := ⟨w.heap.size, 0, none⟩) (Nat.le_refl _) _
theorem GS.app1 (h : GS w wr nf XF n0 X0 n1 X1 v3 v0 v1) {w8 : World} {g n cap : Nat} {X' : List Value} (ho : w8.ownsRow w.heap.size 3 1 (.slice (some ⟨g, 0, none⟩) n cap) n X') (hg : wr.grownBy w8 v1.ownBlock) (hat : v1.ownBlock = some g ∨ g = wr.heap.size) :
    IHolds w8 w.heap.size 49 [v0, v1] ∧ GS w (w8.setCell ⟨w.heap.size, 1, none⟩ (.slice (some ⟨g, 0, none⟩) n cap)) nf XF n0 X0 n X' v3 v0 (.slice (some ⟨g, 0, none⟩) n cap) := by
  have b8 := h.box.far hg (h.box.not_row (by decide) h.r1)
  have f8 := h.rf.kept hg (own_ne h.rf h.r1 (by decide))
  have hne : v0.ownBlock = none ∨ v0.ownBlock ≠ v1.ownBlock := by
    cases q : v0.ownBlock with
    | none => exact .inl rfl
    | some y => exact .inr (fun e => h.dj y q e.symm)
  have r8 := h.r0.kept hg hne
  refine ⟨b8, ?_, b8.set 1 _, ?_, ?_, ?_, ?_⟩
  · exact ownsRow_setCell_other f8 (a := ⟨w.heap.size, 1, none⟩) (fun e => b8.not_row (by decide) f8 e.symm) _
  · exact ownsRow_setCell_other r8 (a := ⟨w.heap.size, 1, none⟩) (fun e => b8.not_row (by decide) r8 e.symm) _
  · exact ownsRow_setCell_other ho (a := ⟨w.heap.size, 1, none⟩) (fun e => b8.not_row (by decide) ho e.symm) _
  · intro y hy q
    simp only [Value.ownBlock, Option.some.injEq] at q
    subst q
    rcases hat with e | e
    · exact h.dj _ hy e
    · have := (h.r0.lt _ hy).2
      omega
  · exact (h.bl.grown hg h.bl.size (fun k hk => (h.r1.lt k hk).1)).setCell (p := ⟨w.heap.size, 1, none⟩) (Nat.le_refl _) _
end
end Go.Proofs.Ytelfcapjegncfaa
