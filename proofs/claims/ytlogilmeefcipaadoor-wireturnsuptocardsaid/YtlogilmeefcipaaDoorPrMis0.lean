/- misshapen: how it stands. -/
import Derived.Test.YtlogilmeefcipaaDoorPrMap
import Derived.Test.YtlogilmeefcipaaDoorPrNode
import Derived.Maps.AppendAt
set_option linter.unusedSimpArgs false
set_option linter.unusedVariables false
set_option maxRecDepth 100000
namespace Go.Proofs.YtlogilmeefcipaaDoor
open Go.RowKit Go.Deep Go.PlainAid

theorem add_zero_off' (g j : Nat) : (⟨g, 0, none⟩ : Addr).add j = ⟨g, j, none⟩ := by
  unfold Addr.add
  split
  · rename_i h; subst h; rfl
  · simp
/-- The lists of a node that came in may be written, and are no longer than their room. -/
inductive GFz (w : World) : Gn → Value → Prop where
  | mk (lf : Bool) (t : List UInt8) (l : List Gn) (adr : Option Addr) (cap : Nat) (c3 : Nat → Value) (hcap : l.length ≤ cap)
      (hz : l ≠ [] → ∃ b o, adr = some ⟨b, o, none⟩ ∧ w.frozen? ⟨b, o, none⟩ = false)
      (hc : ∀ i, i < l.length → ∃ b o, adr = some ⟨b, o, none⟩ ∧ w.cell? ⟨b, o + 3 * i + 2, none⟩ = some (c3 i))
      (hn : ∀ i (h : i < l.length), GFz w l[i] (c3 i)) : GFz w (.mk lf t l) (.slice adr l.length cap)
/-- A list on the stack. -/
structure It where
  b : Nat
  o : Nat
  cap : Nat
  l : List Gn
def It.val (x : It) : Value := .slice (some ⟨x.b, x.o, none⟩) x.l.length x.cap
/-- The blocks in which lists lie. -/
def Sb (w : World) (q : Nat) (b : Nat) : Prop := b < w.heap.size ∨ b = q
structure ItOk (w0 w : World) (q : Nat) (wr : World) (x : It) : Prop where
  ne : x.l ≠ []
  cap : x.l.length ≤ x.cap
  key : PKey (Sb w q) wr (.pointer (some ⟨x.b, x.o, none⟩))
  cells : ∀ i (h : i < x.l.length), ∃ a b c, wr.cell? ⟨x.b, x.o + 3 * i, none⟩ = some a ∧ wr.cell? ⟨x.b, x.o + 3 * i + 1, none⟩ = some b ∧ wr.cell? ⟨x.b, x.o + 3 * i + 2, none⟩ = some c ∧ GAt w0 x.l[i] a b c ∧ GFz w0 x.l[i] c
theorem ItOk.keep {w0 w : World} {q : Nat} {wr wr' : World} {x : It} (h : ItOk w0 w q wr x) (hb : ∀ b, Sb w q b → wr'.heap[b]? = wr.heap[b]?) : ItOk w0 w q wr' x := by
  have hS : Sb w q x.b := by
    obtain ⟨b, o, cs, t, fr, e, hS, _⟩ := h.key
    simp only [Value.pointer.injEq, Option.some.injEq, Addr.mk.injEq] at e
    rw [e.1]; exact hS
  have e := hb _ hS
  refine ⟨h.ne, h.cap, h.key.keep hb, fun i hi => ?_⟩
  obtain ⟨a, b, c, h1, h2, h3, h4, h5⟩ := h.cells i hi
  exact ⟨a, b, c, (World.cell?_of_block (a := ⟨x.b, _, none⟩) e).trans h1, (World.cell?_of_block (a := ⟨x.b, _, none⟩) e).trans h2, (World.cell?_of_block (a := ⟨x.b, _, none⟩) e).trans h3, h4, h5⟩
/-- How much lies on the stack. -/
def mu : List It → Nat
  | [] => 0
  | x :: r => 1 + bk x.l + mu r
theorem mu_snoc (st : List It) (x : It) : mu (st ++ [x]) = mu st + 1 + bk x.l := by
  induction st with
  | nil => simp [mu]
  | cons y r ih => simp only [List.cons_append, mu, ih]; omega
structure MW (w0 w : World) (m q : Nat) (v : Value) (st : List It) (wr : World) : Prop where
  bel : Below w.heap.size w wr
  lt : q < wr.heap.size
  map : MapOk (Sb w q) wr m
  own : wr.ownsRow (q + 1) 22 1 v st.length (st.map It.val)
  items : ∀ x ∈ st, ItOk w0 w q wr x
theorem MW.draw {w0 w : World} {m q : Nat} {v : Value} {st : List It} {wr : World} (h : MW w0 w m q v st wr) (j : Nat) : MW w0 w m q v st (wr.drewN j) :=
  ⟨h.bel.trans ⟨rfl, rfl, rfl, Nat.le_refl _, fun _ _ => rfl⟩, h.lt, h.map.keep (fun _ _ => rfl) rfl, h.own, fun x hx => (h.items x hx).keep (fun _ _ => rfl)⟩
/-- What turns is behind q, or is new. -/
theorem MW.keep {w0 w : World} {m q : Nat} {v : Value} {st : List It} {wr wr' : World} (h : MW w0 w m q v st wr) (hm : m < q) (hwm : w.heap.size ≤ m) (hb : ∀ b, b ≤ q → wr'.heap[b]? = wr.heap[b]?) (hs : wr.heap.size ≤ wr'.heap.size) (hos : wr'.os = wr.os) (htp : wr'.tape = wr.tape) (hou : wr'.output = wr.output)
    {v' : Value} {st' : List It} (ho : wr'.ownsRow (q + 1) 22 1 v' st'.length (st'.map It.val)) (hst : ∀ x ∈ st', x ∈ st ∨ ItOk w0 w q wr' x) : MW w0 w m q v' st' wr' := by
  have hS : ∀ b, Sb w q b → wr'.heap[b]? = wr.heap[b]? := fun b hb' => hb b (by rcases hb' with h | h <;> omega)
  have hl := h.lt
  refine ⟨h.bel.trans ⟨hos, htp, hou, hs, fun b h1 => hb b (by omega)⟩, by omega, h.map.keep hS (hb m (by omega)), ho, fun x hx => ?_⟩
  rcases hst x hx with hx | hx
  · exact (h.items x hx).keep hS
  · exact hx
theorem MW.below {w0 w : World} {m q : Nat} {v : Value} {st : List It} {wr wr' : World} (h : MW w0 w m q v st wr) (hm : m < q) (hwm : w.heap.size ≤ m) (hb : Below wr.heap.size wr wr') : MW w0 w m q v st wr' := by
  refine h.keep hm hwm (fun b hq => hb.block b (by have := h.lt; omega)) hb.size hb.os hb.tape hb.output ?_ (fun x hx => Or.inl hx)
  have hown := h.own
  refine ⟨hown.1, ?_⟩
  rcases hown.2 with h | ⟨g, cap, cur, h1, h2, h3, h4⟩
  · exact Or.inl h
  · have hq : g < wr.heap.size := (Array.getElem?_eq_some_iff.1 h3).1
    exact Or.inr ⟨g, cap, cur, h1, h2, by rw [hb.block g hq]; exact h3, h4⟩
/-- The map is told of a list. -/
theorem MW.told {w0 w : World} {m q : Nat} {v : Value} {st : List It} {wr wr' : World} (h : MW w0 w m q v st wr) (hm : m < q) (hwm : w.heap.size ≤ m) (hmap : MapOk (Sb w q) wr' m) (hb : But m wr wr') : MW w0 w m q v st wr' := by
  have hl := h.lt
  have hS : ∀ b, Sb w q b → wr'.heap[b]? = wr.heap[b]? := fun b hb' => hb.block b (by rcases hb' with h1 | h1
                                                                                      · have := h.bel.size; omega
                                                                                      · omega) (by rcases hb' with h | h <;> omega)
  refine ⟨h.bel.trans ⟨hb.os, hb.tape, hb.output, hb.size, fun b h1 => hb.block b (by have := h.bel.size; omega) (by omega)⟩, by have := hb.size; omega, hmap, ?_, fun x hx => (h.items x hx).keep hS⟩
  have hown := h.own
  refine ⟨hown.1, ?_⟩
  rcases hown.2 with h | ⟨g, cap, cur, h1, h2, h3, h4⟩
  · exact Or.inl h
  · have hq : g < wr.heap.size := (Array.getElem?_eq_some_iff.1 h3).1
    exact Or.inr ⟨g, cap, cur, h1, h2, by rw [hb.block g hq (by omega)]; exact h3, h4⟩
/-- The last list is taken off. -/
theorem MW.pop {w0 w : World} {m q : Nat} {v : Value} {st : List It} {x : It} {wr : World} (h : MW w0 w m q v (st ++ [x]) wr) :
    ∃ g cap, v = .slice (some ⟨g, 0, none⟩) (st.length + 1) cap ∧ st.length + 1 ≤ cap ∧ cap ≤ maxLen ∧ wr.cell? ⟨g, st.length, none⟩ = some x.val ∧ MW w0 w m q (.slice (some ⟨g, 0, none⟩) st.length cap) st wr := by
  have ho := h.own
  have hc := fun g => ho.cells (g := g)
  rw [List.length_append, List.length_singleton, List.map_append, List.map_singleton] at ho
  rcases ho.2 with ⟨_, h0⟩ | ⟨g, cap, cur, hv, hB, hg, hle, hmx, hsz, htk⟩
  · omega
  · refine ⟨g, cap, hv, hle, hmx, ?_, h.bel, h.lt, h.map, ⟨by simp, Or.inr ⟨g, cap, cur, rfl, hB, hg, by omega, hmx, hsz, ?_⟩⟩, fun y hy => h.items y (by simp [hy])⟩
    · have := hc g (by rw [hv]; rfl) st.length x.val (by simp)
      rw [add_zero_off'] at this
      exact this
    · have e : cur.toList.take (st.length * 1) = (cur.toList.take ((st.length + 1) * 1)).take st.length := by rw [List.take_take]; congr 1; omega
      rw [e, htk]
      simp
end Go.Proofs.YtlogilmeefcipaaDoor
