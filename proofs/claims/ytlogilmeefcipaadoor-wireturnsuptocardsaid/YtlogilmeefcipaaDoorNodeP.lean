/- Nodes: plain, and in memory. -/
import Derived.Test.YtlogilmeefcipaaDoorRd
import Derived.Maps.AppendAt
set_option linter.unusedSimpArgs false
set_option linter.unusedVariables false
set_option maxRecDepth 100000
namespace Go.Proofs.YtlogilmeefcipaaDoor
open Go.RowKit Go.Deep Go.PlainAid Go.Shelf

/-- A node. -/
inductive Nd where
  | leaf (t : List UInt8)
  | list (l : List Nd)
/-- Nodes one behind the other, up to the sign that closes. -/
def listP (f : List UInt8 → Option (Nd × List UInt8)) : Nat → List UInt8 → Option (List Nd × List UInt8)
  | 0, _ => none
  | k + 1, l => if l.head? = some 41 then some ([], l.tail) else match f l with
    | none => none
    | some (n, r) => match listP f k r with
      | none => none
      | some (ns, r') => some (n :: ns, r')
def leafN (l : List UInt8) : Option (Nd × List UInt8) := match leafP l with
  | none => none
  | some (t, r) => some (.leaf t, r)
/-- The node at the beginning, with so many lists one within the other at most, and what is left. -/
def nodeP : Nat → List UInt8 → Option (Nd × List UInt8)
  | 0, l => if l.head? = some 40 then none else leafN l
  | d + 1, l => if l.head? = some 40 then (match listP (nodeP d) (l.length + 1) l.tail with
      | none => none
      | some (ns, r) => some (.list ns, r)) else leafN l
theorem leafP_len {l t r : List UInt8} (h : leafP l = some (t, r)) : r.length < l.length := by
  cases hc : colon l with
  | none => simp [leafP, hc] at h
  | some i =>
    have := colon_lt hc
    simp only [leafP, hc] at h
    split at h
    · simp only [Option.some.injEq, Prod.mk.injEq] at h
      rw [← h.2]
      simp
      omega
    · cases h
theorem leafN_len {l r : List UInt8} {n : Nd} (h : leafN l = some (n, r)) : r.length < l.length := by
  cases hc : leafP l with
  | none => simp [leafN, hc] at h
  | some p =>
    obtain ⟨t, r'⟩ := p
    simp only [leafN, hc, Option.some.injEq, Prod.mk.injEq] at h
    rw [← h.2]
    exact leafP_len hc
theorem listP_len {f : List UInt8 → Option (Nd × List UInt8)} (hf : ∀ l n r, f l = some (n, r) → r.length < l.length) : ∀ k l ns r, listP f k l = some (ns, r) → r.length < l.length
  | 0, l, ns, r, h => by simp [listP] at h
  | k + 1, l, ns, r, h => by
    rw [listP] at h
    split at h
    · rename_i h1
      simp only [Option.some.injEq, Prod.mk.injEq] at h
      rw [← h.2]
      cases l with
      | nil => simp at h1
      | cons x l => simp
    · cases h2 : f l with
      | none => simp [h2] at h
      | some p =>
        obtain ⟨n, r1⟩ := p
        simp only [h2] at h
        cases h3 : listP f k r1 with
        | none => simp [h3] at h
        | some q =>
          obtain ⟨ns', r2⟩ := q
          simp only [h3, Option.some.injEq, Prod.mk.injEq] at h
          have := hf _ _ _ h2
          have := listP_len hf k _ _ _ h3
          rw [← h.2]
          omega
theorem nodeP_len : ∀ d l n r, nodeP d l = some (n, r) → r.length < l.length
  | 0, l, n, r, h => by
    rw [nodeP] at h
    split at h
    · cases h
    · exact leafN_len h
  | d + 1, l, n, r, h => by
    rw [nodeP] at h
    split at h
    · rename_i h1
      cases h2 : listP (nodeP d) (l.length + 1) l.tail with
      | none => simp [h2] at h
      | some q =>
        obtain ⟨ns', r2⟩ := q
        simp only [h2, Option.some.injEq, Prod.mk.injEq] at h
        have := listP_len (nodeP_len d) _ _ _ _ h2
        simp at this
        rw [← h.2]
        omega
    · exact leafN_len h

/-! ### In memory -/
/-- A node's three parts lie so, and what it is made of lies in blocks of F. -/
inductive NAt (w : World) (F : Nat → Prop) : Nd → Value → Value → Value → Prop where
  | leaf (t : List UInt8) : NAt w F (.leaf t) (.bool true) (S t) (.slice none 0 0)
  | list (l : List Nd) (adr : Option Addr) (cap : Nat) (c1 c2 c3 : Nat → Value)
      (hc : ∀ i, i < l.length → ∃ b, adr = some ⟨b, 0, none⟩ ∧ F b ∧ b < w.heap.size ∧ w.cell? ⟨b, 3 * i, none⟩ = some (c1 i) ∧ w.cell? ⟨b, 3 * i + 1, none⟩ = some (c2 i) ∧ w.cell? ⟨b, 3 * i + 2, none⟩ = some (c3 i))
      (hn : ∀ i (h : i < l.length), NAt w F l[i] (c1 i) (c2 i) (c3 i)) : NAt w F (.list l) (.bool false) (S []) (.slice adr l.length cap)
theorem NAt.keep {w w' : World} {F G : Nat → Prop} {n : Nd} {a b c : Value} (h : NAt w F n a b c) (hs : w.heap.size ≤ w'.heap.size) (hFG : ∀ k, F k → k < w.heap.size → G k) (hk : ∀ k, F k → k < w.heap.size → w'.heap[k]? = w.heap[k]?) : NAt w' G n a b c := by
  induction h with
  | leaf t => exact .leaf t
  | list l adr cap c1 c2 c3 hc hn ih =>
    refine .list l adr cap c1 c2 c3 ?_ ih
    intro i hi
    obtain ⟨b, h1, h2, h3, h4, h5, h6⟩ := hc i hi
    have e := hk b h2 h3
    exact ⟨b, h1, hFG b h2 h3, by omega, (World.cell?_of_block (a := ⟨b, _, none⟩) e).trans h4, (World.cell?_of_block (a := ⟨b, _, none⟩) e).trans h5, (World.cell?_of_block (a := ⟨b, _, none⟩) e).trans h6⟩
/-- The cells of nodes side by side. -/
def flat (T : List (Value × Value × Value)) : List Value := T.flatMap fun x => [x.1, x.2.1, x.2.2]
theorem flat_length (T : List (Value × Value × Value)) : (flat T).length = T.length * 3 := by
  induction T with
  | nil => rfl
  | cons x T ih =>
    have e : flat (x :: T) = [x.1, x.2.1, x.2.2] ++ flat T := rfl
    rw [e, List.length_append, ih, List.length_cons]
    simp
    omega
theorem flat_snoc (T : List (Value × Value × Value)) (x : Value × Value × Value) : flat (T ++ [x]) = flat T ++ [x.1, x.2.1, x.2.2] := by simp [flat]
theorem flat_get : ∀ (T : List (Value × Value × Value)) (i : Nat) (h : i < T.length), (flat T)[3 * i]? = some T[i].1 ∧ (flat T)[3 * i + 1]? = some T[i].2.1 ∧ (flat T)[3 * i + 2]? = some T[i].2.2
  | [], i, h => by simp at h
  | x :: T, 0, h => ⟨rfl, rfl, rfl⟩
  | x :: T, i + 1, h => by
    have e : flat (x :: T) = x.1 :: x.2.1 :: x.2.2 :: flat T := rfl
    have := flat_get T i (by simpa using h)
    rw [e, show 3 * (i + 1) = 3 * i + 1 + 1 + 1 by omega]
    simpa using this
/-- Nodes, and their parts. -/
structure LAt (w : World) (F : Nat → Prop) (l : List Nd) (T : List (Value × Value × Value)) : Prop where
  len : l.length = T.length
  at_ : ∀ i (h : i < l.length) (h' : i < T.length), NAt w F l[i] T[i].1 T[i].2.1 T[i].2.2
theorem LAt.nil (w : World) (F : Nat → Prop) : LAt w F [] [] := ⟨rfl, fun i h => by simp at h⟩
theorem LAt.keep {w w' : World} {F G : Nat → Prop} {l : List Nd} {T : List (Value × Value × Value)} (h : LAt w F l T) (hs : w.heap.size ≤ w'.heap.size) (hFG : ∀ k, F k → k < w.heap.size → G k) (hk : ∀ k, F k → k < w.heap.size → w'.heap[k]? = w.heap[k]?) : LAt w' G l T :=
  ⟨h.len, fun i h1 h2 => (h.at_ i h1 h2).keep hs hFG hk⟩
theorem LAt.snoc {w : World} {F : Nat → Prop} {l : List Nd} {T : List (Value × Value × Value)} (h : LAt w F l T) {n : Nd} {a b c : Value} (hn : NAt w F n a b c) : LAt w F (l ++ [n]) (T ++ [(a, b, c)]) := by
  refine ⟨by simp [h.len], fun i h1 h2 => ?_⟩
  by_cases hi : i < l.length
  · rw [List.getElem_append_left hi, List.getElem_append_left (by rw [← h.len]; exact hi)]
    exact h.at_ i hi _
  · have e : i = l.length := by simp at h1; omega
    subst e
    have e2 := h.len
    simp only [List.getElem_append_right (Nat.le_refl _), Nat.sub_self, List.getElem_singleton]
    rw [List.getElem_append_right (by omega)]
    simpa using hn
theorem add_zero_off (g j : Nat) : (⟨g, 0, none⟩ : Addr).add j = ⟨g, j, none⟩ := by
  unfold Addr.add
  split
  · rename_i h; subst h; rfl
  · simp
theorem NAt.of_row {w : World} {F : Nat → Prop} {base : Nat} {v : Value} {l : List Nd} {T : List (Value × Value × Value)} (ho : w.ownsRow base 24 3 v T.length (flat T)) (hl : LAt w F l T) (hF : ∀ k, v.ownBlock = some k → F k) : NAt w F (.list l) (.bool false) (S []) v := by
  have hlen := hl.len
  rcases ho.2 with ⟨hv, h0⟩ | ⟨g, cap, cur, hv, hb, hg, hc, hcm, hcs, ht⟩
  · have e : l = [] := List.eq_nil_of_length_eq_zero (by omega)
    subst e
    rw [hv]
    exact .list [] none 0 (fun _ => .bool false) (fun _ => .bool false) (fun _ => .bool false) (fun i h => by simp at h) (fun i h => by simp at h)
  · rw [hv, ← hlen]
    have hcell := ho.cells (g := g) (by rw [hv]; rfl)
    refine .list l (some ⟨g, 0, none⟩) cap (fun i => ((T[i]?).getD (.bool false, .bool false, .bool false)).1) (fun i => ((T[i]?).getD (.bool false, .bool false, .bool false)).2.1) (fun i => ((T[i]?).getD (.bool false, .bool false, .bool false)).2.2) ?_ ?_
    · intro i hi
      obtain ⟨f1, f2, f3⟩ := flat_get T i (by omega)
      have c1 := hcell _ _ f1
      have c2 := hcell _ _ f2
      have c3 := hcell _ _ f3
      rw [add_zero_off] at c1 c2 c3
      have e : T[i]? = some T[i] := List.getElem?_eq_getElem _
      simp only [e, Option.getD_some]
      exact ⟨g, rfl, hF g (by rw [hv]; rfl), (ho.lt g (by rw [hv]; rfl)).2, c1, c2, c3⟩
    · intro i hi
      have e : T[i]? = some T[i] := List.getElem?_eq_getElem (by omega)
      simp only [e, Option.getD_some]
      exact hl.at_ i hi _
end Go.Proofs.YtlogilmeefcipaaDoor
