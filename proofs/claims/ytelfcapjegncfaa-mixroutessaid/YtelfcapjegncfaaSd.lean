/- Who goes second: how it stands. -/
import Derived.Test.YtelfcapjegncfaaSc
import Derived.Test.YtelfcapjegncfaaQb
set_option linter.unusedSimpArgs false
set_option linter.unusedVariables false
set_option maxRecDepth 100000
namespace Go.Proofs.Ytelfcapjegncfaa
open Go.RowKit Go.Shelf Go.PlainAid

attribute [local go_sem] Oper.semAt_some

/-- How goingSecond stands: the order in its box, on which wire each row ends, the two lists. -/
structure SS (w V : World) (L : List Nat) (a : Option Addr) (c B1 B3 B2 B6 B7 Bs Bp B8 : Nat) (p s : Nat → Bool) : Prop where
  x1 : IHolds V B1 29 [.slice a L.length c]
  x3 : IHolds V B3 29 [.slice (some ⟨B2, 0, none⟩) L.length L.length]
  x2 : IHolds V B2 3 (ivs ((List.range L.length).map (wo L)))
  x6 : IHolds V B6 22 [.slice (some ⟨Bs, 0, none⟩) L.length L.length]
  x7 : IHolds V B7 22 [.slice (some ⟨Bp, 0, none⟩) L.length L.length]
  xs : IHolds V Bs 4 (tf s L.length)
  xp : IHolds V Bp 4 (tf p L.length)
  x8 : IHolds V B8 29 [.slice a L.length c]
  ne : Bs ≠ Bp
  ls : w.heap.size ≤ Bs
  lp : w.heap.size ≤ Bp
  av : ∀ b o, a = some ⟨b, o, none⟩ → b < w.heap.size
  vl : VL V a (ivs L)
  bl : Below w.heap.size w V
theorem IHolds.turn {V : World} {b : Nat} {t : TypeId} {l : List Value} (h : IHolds V b t l) {k : Nat} {o o' : Obj} (hk : V.heap[k]? = some o) (ho : o.isCells = false) : IHolds (V.putObj k o') b t l := by
  unfold IHolds at *
  have hne : k ≠ b := fun e => by
    subst e
    rw [h] at hk
    cases hk
    cases ho
  rw [World.putObj_heap_other (Ne.symm hne)]
  exact h
section
variable {w V : World} {L : List Nat} {a : Option Addr} {c B1 B3 B2 B6 B7 Bs Bp B8 : Nat} {p s : Nat → Bool}
theorem SS.lay (h : SS w V L a c B1 B3 B2 B6 B7 Bs Bp B8 p s) (o : Obj) : SS w (V.alloc o) L a c B1 B3 B2 B6 B7 Bs Bp B8 p s :=
  ⟨h.x1.of_below (nB _ _), h.x3.of_below (nB _ _), h.x2.of_below (nB _ _), h.x6.of_below (nB _ _), h.x7.of_below (nB _ _), h.xs.of_below (nB _ _), h.xp.of_below (nB _ _), h.x8.of_below (nB _ _), h.ne, h.ls, h.lp, h.av, h.vl.of_below (nB _ _), h.bl.alloc h.bl.size _⟩
theorem SS.drew (h : SS w V L a c B1 B3 B2 B6 B7 Bs Bp B8 p s) : SS w V.drew L a c B1 B3 B2 B6 B7 Bs Bp B8 p s :=
  ⟨h.x1, h.x3, h.x2, h.x6, h.x7, h.xs, h.xp, h.x8, h.ne, h.ls, h.lp, h.av, h.vl, h.bl.drew⟩
theorem SS.turn (h : SS w V L a c B1 B3 B2 B6 B7 Bs Bp B8 p s) {k B : Nat} {o o' : Obj} (hB : w.heap.size ≤ B) (hl : B ≤ k) (hk : V.heap[k]? = some o) (ho : o.isCells = false) : SS w (V.putObj k o') L a c B1 B3 B2 B6 B7 Bs Bp B8 p s := by
  refine ⟨h.x1.turn hk ho, h.x3.turn hk ho, h.x2.turn hk ho, h.x6.turn hk ho, h.x7.turn hk ho, h.xs.turn hk ho, h.xp.turn hk ho, h.x8.turn hk ho, h.ne, h.ls, h.lp, h.av, fun j u hj => ?_, ?_⟩
  · obtain ⟨b, o2, rfl, hc⟩ := h.vl j u hj
    refine ⟨b, o2, rfl, ?_⟩
    have hne : k ≠ b := fun e => by
      subst e
      unfold World.cell? at hc
      simp only [hk] at hc
      cases o <;> simp_all [Obj.isCells]
    exact (World.cell?_of_block (a := ⟨b, o2 + j, none⟩) (World.putObj_heap_other (Ne.symm hne))).trans hc
  · exact h.bl.trans ((Below.refl _ V).grown (grownBy_putObj' V k o') (by have := (Array.getElem?_eq_some_iff.1 hk).1; omega) (fun j e => by cases e; omega))
theorem SS.setS (h : SS w V L a c B1 B3 B2 B6 B7 Bs Bp B8 p s) (r : Nat) : SS w (V.setCell ⟨Bs, r, none⟩ (.bool true)) L a c B1 B3 B2 B6 B7 Bs Bp B8 p (upd s r) := by
  refine ⟨h.x1.set_far (ne_ty h.x1 h.xs (by decide)) _, h.x3.set_far (ne_ty h.x3 h.xs (by decide)) _, h.x2.set_far (ne_ty h.x2 h.xs (by decide)) _, h.x6.set_far (ne_ty h.x6 h.xs (by decide)) _, h.x7.set_far (ne_ty h.x7 h.xs (by decide)) _, ?_, h.xp.set_far h.ne.symm _, h.x8.set_far (ne_ty h.x8 h.xs (by decide)) _, h.ne, h.ls, h.lp, h.av, fun j u hj => ?_, h.bl.setCell (p := ⟨Bs, r, none⟩) h.ls _⟩
  · have := h.xs.set r (.bool true)
    rw [tf_set] at this
    exact this
  · obtain ⟨b, o2, e, hc⟩ := h.vl j u hj
    refine ⟨b, o2, e, ?_⟩
    have := h.av b o2 e
    have hls := h.ls
    exact (World.cell?_of_block (a := ⟨b, o2 + j, none⟩) (Below.heap_setCell _ _ _ _ (by show b ≠ Bs; omega))).trans hc
theorem SS.setP (h : SS w V L a c B1 B3 B2 B6 B7 Bs Bp B8 p s) (r : Nat) : SS w (V.setCell ⟨Bp, r, none⟩ (.bool true)) L a c B1 B3 B2 B6 B7 Bs Bp B8 (upd p r) s := by
  refine ⟨h.x1.set_far (ne_ty h.x1 h.xp (by decide)) _, h.x3.set_far (ne_ty h.x3 h.xp (by decide)) _, h.x2.set_far (ne_ty h.x2 h.xp (by decide)) _, h.x6.set_far (ne_ty h.x6 h.xp (by decide)) _, h.x7.set_far (ne_ty h.x7 h.xp (by decide)) _, h.xs.set_far h.ne _, ?_, h.x8.set_far (ne_ty h.x8 h.xp (by decide)) _, h.ne, h.ls, h.lp, h.av, fun j u hj => ?_, h.bl.setCell (p := ⟨Bp, r, none⟩) h.lp _⟩
  · have := h.xp.set r (.bool true)
    rw [tf_set] at this
    exact this
  · obtain ⟨b, o2, e, hc⟩ := h.vl j u hj
    refine ⟨b, o2, e, ?_⟩
    have := h.av b o2 e
    have hls := h.lp
    exact (World.cell?_of_block (a := ⟨b, o2 + j, none⟩) (Below.heap_setCell _ _ _ _ (by show b ≠ Bp; omega))).trans hc
end
/-- How many are not placed yet. -/
def openN (p : Nat → Bool) (n : Nat) : Nat := (List.range n).countP fun i => !p i
def openV (B : Nat) (V : World) : Nat := match V.heap[B]? with
  | some (.cells cs _) => cs.toList.countP fun v => match v with | .bool false => true | _ => false
  | _ => 0
theorem openV_eq {V : World} {B n : Nat} {p : Nat → Bool} (h : IHolds V B 4 (tf p n)) : openV B V = openN p n := by
  unfold openV openN
  unfold IHolds at h
  rw [h]
  simp only [tf, bvs, List.map_map, List.countP_map]
  congr 1
  funext i
  simp only [Function.comp]
  cases p i <;> rfl
theorem openN_upd_le (p : Nat → Bool) (n r : Nat) : openN (upd p r) n ≤ openN p n := by
  unfold openN
  apply List.countP_mono_left
  intro i _ h
  unfold upd at h
  split at h
  · cases h
  · exact h
theorem openN_upd_lt {p : Nat → Bool} {n r : Nat} (hr : r < n) (hp : p r = false) : openN (upd p r) n < openN p n := by
  induction n with
  | zero => omega
  | succ n ih =>
    unfold openN at *
    rw [List.range_succ, List.countP_append, List.countP_append]
    by_cases e : r = n
    · subst e
      have h1 : List.countP (fun i => !upd p r i) (List.range r) ≤ List.countP (fun i => !p i) (List.range r) := openN_upd_le p r r
      simp [upd_same, hp]
      omega
    · have := ih (by omega)
      have e2 : upd p r n = p n := upd_other (fun q => e q.symm)
      simp [e2]
      omega
end Go.Proofs.Ytelfcapjegncfaa
