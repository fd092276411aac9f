/- The state of the law FoldTalks: the talks, what each holds, and what the reference holds beside. -/
import Derived.Test.YtalagjmjpoacmabDoorTalk
import Derived.Laws.OwnMore
import Derived.Maps.AppendAt
import Derived.Deep.AppendLies
set_option linter.unusedSimpArgs false
set_option linter.unusedVariables false
namespace Go.Proofs.YtalagjmjpoacmabDoor
open Go.RowKit

/-- A pointer to a talk. -/
abbrev PT (b : Nat) : Value := .pointer (some ⟨b, 0, none⟩)
abbrev noB : ByteArray := ⟨#[]⟩
/-- Talks in blocks bs with states S, in a slice in block g1; the reference's states R in a slice in block g2. -/
structure TS (w : World) (B g1 c1 g2 c2 : Nat) (S R : List ByteArray) (bs : List Nat) : Prop where
  len : bs.length = S.length
  rlen : R.length = S.length
  pos : 0 < S.length
  t : w.ownsRow B 27 1 (.slice (some ⟨g1, 0, none⟩) S.length c1) S.length (bs.map PT)
  r : w.ownsRow B 31 1 (.slice (some ⟨g2, 0, none⟩) S.length c2) S.length (R.map Value.string)
  at_ : ∀ i, i < S.length → TAt w (bs.getD i 0) (S.getD i noB)
  ge : ∀ i, i < S.length → B ≤ bs.getD i 0 ∧ bs.getD i 0 ≠ g1 ∧ bs.getD i 0 ≠ g2
  inj : ∀ i j, i < S.length → j < S.length → bs.getD i 0 = bs.getD j 0 → i = j
  ne : g1 ≠ g2
  sz : ∀ i, i < S.length → (S.getD i noB).size = 32
theorem getD_setL {α : Type} (l : List α) (i j : Nat) (x d : α) (hi : i < l.length) : (l.set i x).getD j d = if i = j then x else l.getD j d := by
  simp only [List.getD_eq_getElem?_getD, List.getElem?_set]
  by_cases h : i = j
  · subst h; simp [hi]
  · simp [h]
theorem TS.g1lt {w : World} {B g1 c1 g2 c2 : Nat} {S R : List ByteArray} {bs : List Nat} (h : TS w B g1 c1 g2 c2 S R bs) : B ≤ g1 ∧ g1 < w.heap.size := h.t.lt g1 rfl
theorem TS.g2lt {w : World} {B g1 c1 g2 c2 : Nat} {S R : List ByteArray} {bs : List Nat} (h : TS w B g1 c1 g2 c2 S R bs) : B ≤ g2 ∧ g2 < w.heap.size := h.r.lt g2 rfl
theorem TS.ptr {w : World} {B g1 c1 g2 c2 : Nat} {S R : List ByteArray} {bs : List Nat} (h : TS w B g1 c1 g2 c2 S R bs) (i : Nat) (hi : i < S.length) : w.cell? ⟨g1, i, none⟩ = some (PT (bs.getD i 0)) := by
  have := h.len
  rw [h.t.cellAt i (by omega)]
  simp [show i < bs.length by omega]
theorem TS.want {w : World} {B g1 c1 g2 c2 : Nat} {S R : List ByteArray} {bs : List Nat} (h : TS w B g1 c1 g2 c2 S R bs) (i : Nat) (hi : i < S.length) : w.cell? ⟨g2, i, none⟩ = some (.string (R.getD i noB)) := by
  have := h.rlen
  rw [h.r.cellAt i (by omega)]
  simp [show i < R.length by omega]
theorem TS.wfrozen {w : World} {B g1 c1 g2 c2 : Nat} {S R : List ByteArray} {bs : List Nat} (h : TS w B g1 c1 g2 c2 S R bs) (i : Nat) : w.frozen? ⟨g2, i, none⟩ = false := h.r.frozenAt i
theorem TS.keep {w w' : World} {B g1 c1 g2 c2 : Nat} {S R : List ByteArray} {bs : List Nat} (h : TS w B g1 c1 g2 c2 S R bs) (hb : ∀ k, k < w.heap.size → w'.heap[k]? = w.heap[k]?) : TS w' B g1 c1 g2 c2 S R bs :=
  ⟨h.len, h.rlen, h.pos, ownsRow_keep h.t hb, ownsRow_keep h.r hb, fun i hi => by unfold TAt; rw [hb _ (h.at_ i hi).lt]; exact h.at_ i hi, h.ge, h.inj, h.ne, h.sz⟩
theorem TS.below {w w' : World} {B g1 c1 g2 c2 : Nat} {S R : List ByteArray} {bs : List Nat} (h : TS w B g1 c1 g2 c2 S R bs) (hb : Below w.heap.size w w') : TS w' B g1 c1 g2 c2 S R bs := h.keep hb.block
theorem TS.alloc {w : World} {B g1 c1 g2 c2 : Nat} {S R : List ByteArray} {bs : List Nat} (h : TS w B g1 c1 g2 c2 S R bs) (o : Obj) : TS (w.alloc o) B g1 c1 g2 c2 S R bs := h.keep (fun k hk => Below.heap_alloc _ _ _ hk)
theorem ownsRow_other {w w' : World} {base n g cap b : Nat} {e : TypeId} {xs : List Value} (h : w.ownsRow base e 1 (.slice (some ⟨g, 0, none⟩) n cap) n xs) (hb : But b w w') (hne : g ≠ b) : w'.ownsRow base e 1 (.slice (some ⟨g, 0, none⟩) n cap) n xs := by
  refine ⟨h.1, ?_⟩
  rcases h.2 with ⟨hn, _⟩ | ⟨g', cap', cur, hv, hbg, hc, rest⟩
  · cases hn
  · obtain rfl : g = g' := by injection hv with h1 _ _; injection h1 with h1; injection h1
    exact .inr ⟨g, cap', cur, hv, hbg, by rw [hb.block g (Array.getElem?_eq_some_iff.1 hc).1 hne]; exact hc, rest⟩
/-- One talk has gone on. -/
theorem TS.talk {w w' : World} {B g1 c1 g2 c2 : Nat} {S R : List ByteArray} {bs : List Nat} (h : TS w B g1 c1 g2 c2 S R bs) (i : Nat) (hi : i < S.length) (hb : But (bs.getD i 0) w w') (s : ByteArray) (ha : TAt w' (bs.getD i 0) s) (hs : s.size = 32) : TS w' B g1 c1 g2 c2 (S.set i s) R bs := by
  have g := h.ge i hi
  refine ⟨by rw [List.length_set]; exact h.len, by rw [List.length_set]; exact h.rlen, by rw [List.length_set]; exact h.pos, by rw [List.length_set]; exact ownsRow_other h.t hb (fun e => g.2.1 e.symm), by rw [List.length_set]; exact ownsRow_other h.r hb (fun e => g.2.2 e.symm), ?_, by rw [List.length_set]; exact h.ge, by rw [List.length_set]; exact h.inj, h.ne, ?_⟩
  · intro j hj
    rw [List.length_set] at hj
    rw [getD_setL _ _ _ _ _ hi]
    by_cases e : i = j
    · subst e; rw [if_pos rfl]; exact ha
    · rw [if_neg e]
      exact (h.at_ j hj).of_but hb (fun e2 => e (h.inj i j hi hj e2.symm))
  · intro j hj
    rw [List.length_set] at hj
    rw [getD_setL _ _ _ _ _ hi]
    by_cases e : i = j
    · rw [if_pos e]; exact hs
    · rw [if_neg e]; exact h.sz j hj
/-- What the reference holds has gone on. -/
theorem TS.wants {w : World} {B g1 c1 g2 c2 : Nat} {S R : List ByteArray} {bs : List Nat} (h : TS w B g1 c1 g2 c2 S R bs) (i : Nat) (hi : i < S.length) (s : ByteArray) : TS (w.setCell ⟨g2, i, none⟩ (.string s)) B g1 c1 g2 c2 S (R.set i s) bs := by
  have hb : But g2 w (w.setCell ⟨g2, i, none⟩ (.string s)) := (But.refl g2 w).setCell _ _
  refine ⟨h.len, by rw [List.length_set]; exact h.rlen, h.pos, ownsRow_other h.t hb h.ne, ?_, fun j hj => (h.at_ j hj).of_but hb (h.ge j hj).2.2, h.ge, h.inj, h.ne, h.sz⟩
  have := (h.r.stored i (.string s)).1
  rw [List.map_set]
  exact this
theorem getD_app {α : Type} (l : List α) (x d : α) (i : Nat) : (l ++ [x]).getD i d = if i < l.length then l.getD i d else if i = l.length then x else d := by
  simp only [List.getD_eq_getElem?_getD, List.getElem?_append]
  by_cases h : i < l.length
  · rw [if_pos h, if_pos h]
  · rw [if_neg h, if_neg h]
    by_cases h2 : i = l.length
    · subst h2; simp
    · rw [if_neg h2, List.getElem?_eq_none (by simp; omega)]; rfl
/-- One talk more. -/
theorem TS.push {w w' : World} {B g1 c1 g2 c2 : Nat} {S : List ByteArray} {bs : List Nat} (h : TS w B g1 c1 g2 c2 S S bs) {g1' c1' g2' c2' nb : Nat} {s : ByteArray}
    (ht : w'.ownsRow B 27 1 (.slice (some ⟨g1', 0, none⟩) (S.length + 1) c1') (S.length + 1) (bs.map PT ++ [PT nb])) (hr : w'.ownsRow B 31 1 (.slice (some ⟨g2', 0, none⟩) (S.length + 1) c2') (S.length + 1) (S.map Value.string ++ [.string s]))
    (hat : ∀ i, i < S.length → TAt w' (bs.getD i 0) (S.getD i noB)) (hn : TAt w' nb s) (hnB : B ≤ nb) (hnew : ∀ i, i < S.length → bs.getD i 0 ≠ nb) (hne : g1' ≠ g2') (hg : ∀ i, i < S.length → bs.getD i 0 ≠ g1' ∧ bs.getD i 0 ≠ g2') (hgn : nb ≠ g1' ∧ nb ≠ g2') (hs : s.size = 32) :
    TS w' B g1' c1' g2' c2' (S ++ [s]) (S ++ [s]) (bs ++ [nb]) := by
  have hlen := h.len
  have hl : (S ++ [s]).length = S.length + 1 := by simp
  refine ⟨by simp [hlen], rfl, by rw [hl]; omega, by rw [hl, List.map_append]; exact ht, by rw [hl, List.map_append]; exact hr, ?_, ?_, ?_, hne, ?_⟩
  · intro i hi
    rw [getD_app, getD_app, hlen]
    by_cases h2 : i < S.length
    · rw [if_pos h2, if_pos h2]; exact hat i h2
    · rw [if_neg h2, if_neg h2, if_pos (by omega), if_pos (by omega)]; exact hn
  · intro i hi
    rw [getD_app, hlen]
    by_cases h2 : i < S.length
    · rw [if_pos h2]; exact ⟨(h.ge i h2).1, hg i h2⟩
    · rw [if_neg h2, if_pos (by omega)]; exact ⟨hnB, hgn⟩
  · intro i j hi hj
    rw [getD_app, getD_app, hlen]
    by_cases h2 : i < S.length
    · by_cases h3 : j < S.length
      · rw [if_pos h2, if_pos h3]; exact h.inj i j h2 h3
      · rw [if_pos h2, if_neg h3, if_pos (by omega)]; exact fun e => absurd e (hnew i h2)
    · by_cases h3 : j < S.length
      · rw [if_neg h2, if_pos (by omega), if_pos h3]; exact fun e => absurd e.symm (hnew j h3)
      · intro _; omega
  · intro i hi
    rw [getD_app]
    by_cases h2 : i < S.length
    · rw [if_pos h2]; exact h.sz i h2
    · rw [if_neg h2, if_pos (by omega)]; exact hs
/-- append, at the operation, by its run. -/
theorem wp_append_at {P : Program} {o : Oper} {a : Act} {w w' : World} {K : Act → World → Prop} {Q : Exit → Act → World → Prop} (s x : Operand) (t : TypeId) (ho : o.op = .call { callee := .builtin .append, args := #[s, x], argTypes := #[t, t] })
    (v v' y : Value) (hs : a.eval s = v) (hx : a.eval x = y) (hr : (Builtin.append_ #[t, t] o.type #[v, y]).run P w = .ok v' w') (h : K (a.put o.dst v') w') : Oper.wp P o a w K Q := by
  unfold Oper.wp execOp
  simp only [ho, resolve, invoke, builtin, Sem.run_bind, Sem.run_pure, Result.andThen_ok, List.map_toArray, List.map_cons, List.map_nil, hs, hx, hr]
  exact h
theorem info27 : ∃ i, Tryd.prog.info? 27 = some i ∧ i.zero = some (.pointer none) ∧ i.size = 1 ∧ i.bytes = 8 := by
  have h1 : (Tryd.prog.info? 27).map (fun i => (i.size, i.bytes)) = some (1, 8) := by kernel_rfl
  have h2 : (Tryd.prog.info? 27).bind (fun i => i.zero) = some (.pointer none) := by kernel_rfl
  cases hq : Tryd.prog.info? 27 with
  | none => rw [hq] at h1; cases h1
  | some i =>
    rw [hq] at h1 h2
    simp only [Option.map_some, Option.some.injEq, Prod.mk.injEq] at h1
    exact ⟨i, rfl, h2, h1.1, h1.2⟩
theorem info31 : ∃ i, Tryd.prog.info? 31 = some i ∧ i.zero = some (.agg #[.string ⟨#[]⟩]) ∧ i.size = 1 ∧ i.bytes = 16 := by
  have h1 : (Tryd.prog.info? 31).map (fun i => (i.size, i.bytes)) = some (1, 16) := by kernel_rfl
  have h2 : (Tryd.prog.info? 31).bind (fun i => i.zero) = some (.agg #[.string ⟨#[]⟩]) := by kernel_rfl
  cases hq : Tryd.prog.info? 31 with
  | none => rw [hq] at h1; cases h1
  | some i =>
    rw [hq] at h1 h2
    simp only [Option.map_some, Option.some.injEq, Prod.mk.injEq] at h1
    exact ⟨i, rfl, h2, h1.1, h1.2⟩
theorem grown_but {w w' : World} {g : Nat} (h : w.grownBy w' (some g)) : But g w w' := ⟨h.os, h.tape, h.output, h.size, fun k hk hne => h.block k hk (by simpa using hne)⟩
/-- One more onto the talks; one more onto what the reference holds. -/
theorem append_talk {V : World} {B g c n k : Nat} {xs : List Value} (h : V.ownsRow B 27 1 (.slice (some ⟨g, 0, none⟩) n c) n xs) (hn : n + 1 < 8796093022208) (hB : B ≤ V.heap.size) (b : Nat) (hk : V.cell? ⟨k, 0, none⟩ = some (PT b)) :
    ∃ g' c' V', (Builtin.append_ #[29, 29] 29 #[.slice (some ⟨g, 0, none⟩) n c, .slice (some ⟨k, 0, none⟩) 1 1]).run Tryd.prog V = .ok (.slice (some ⟨g', 0, none⟩) (n + 1) c') V' ∧ V'.ownsRow B 27 1 (.slice (some ⟨g', 0, none⟩) (n + 1) c') (n + 1) (xs ++ [PT b]) ∧ But g V V' ∧ (g' = g ∨ g' = V.heap.size) := by
  obtain ⟨i, hi, hz, hs, hb⟩ := info27
  obtain ⟨v', V', hr, ho, hg, _, hat⟩ := run_append_own_at (P := Tryd.prog) V B 29 29 27 i _ 1 8 Tryd.underlying29 hi hz hs hb rfl (by decide) _ n xs h ⟨k, 0, none⟩ 1 1 [PT b] rfl (by
    intro j u hu
    have hj : j < 1 := (List.getElem?_eq_some_iff.1 hu).1
    obtain rfl : j = 0 := by omega
    rw [Addr.add_mid, Nat.zero_add, hk]; exact hu) (by simp [Value.oneCell']) (by simp only [maxLen]; omega) (by omega) hB
  obtain ⟨g', c', rfl, _, _⟩ := ho.form (by omega)
  refine ⟨g', c', V', hr, ho, grown_but hg, ?_⟩
  simpa [Value.ownBlock] using hat
theorem append_want {V : World} {B g c n k : Nat} {xs : List Value} (h : V.ownsRow B 31 1 (.slice (some ⟨g, 0, none⟩) n c) n xs) (hn : n + 1 < 8796093022208) (hB : B ≤ V.heap.size) (s : ByteArray) (hk : V.cell? ⟨k, 0, none⟩ = some (.string s)) :
    ∃ g' c' V', (Builtin.append_ #[33, 33] 33 #[.slice (some ⟨g, 0, none⟩) n c, .slice (some ⟨k, 0, none⟩) 1 1]).run Tryd.prog V = .ok (.slice (some ⟨g', 0, none⟩) (n + 1) c') V' ∧ V'.ownsRow B 31 1 (.slice (some ⟨g', 0, none⟩) (n + 1) c') (n + 1) (xs ++ [.string s]) ∧ But g V V' ∧ (g' = g ∨ g' = V.heap.size) := by
  obtain ⟨i, hi, hz, hs, hb⟩ := info31
  obtain ⟨v', V', hr, ho, hg, _, hat⟩ := run_append_own_at (P := Tryd.prog) V B 33 33 31 i _ 1 16 Tryd.underlying33 hi hz hs hb rfl (by decide) _ n xs h ⟨k, 0, none⟩ 1 1 [.string s] rfl (by
    intro j u hu
    have hj : j < 1 := (List.getElem?_eq_some_iff.1 hu).1
    obtain rfl : j = 0 := by omega
    rw [Addr.add_mid, Nat.zero_add, hk]; exact hu) (by simp [Value.oneCell']) (by simp only [maxLen]; omega) (by omega) hB
  obtain ⟨g', c', rfl, _, _⟩ := ho.form (by omega)
  refine ⟨g', c', V', hr, ho, grown_but hg, ?_⟩
  simpa [Value.ownBlock] using hat
/-- What stays while both slices grow. -/
structure PB (V : World) (N : Nat) (S : List ByteArray) (bs : List Nat) (nt rb : Nat) (s : ByteArray) : Prop where
  at_ : ∀ i, i < S.length → TAt V (bs.getD i 0) (S.getD i noB)
  nt : TAt V nt s
  rb : RAt V rb s
  size : N ≤ V.heap.size
theorem PB.alloc {V : World} {N : Nat} {S : List ByteArray} {bs : List Nat} {nt rb : Nat} {s : ByteArray} (h : PB V N S bs nt rb s) (o : Obj) : PB (V.alloc o) N S bs nt rb s :=
  ⟨fun i hi => (h.at_ i hi).alloc o, h.nt.alloc o, h.rb.alloc o, by have := h.size; rw [World.size_alloc]; omega⟩
theorem PB.but {V V' : World} {N g : Nat} {S : List ByteArray} {bs : List Nat} {nt rb : Nat} {s : ByteArray} (h : PB V N S bs nt rb s) (hb : But g V V') (h1 : ∀ i, i < S.length → bs.getD i 0 ≠ g) (h2 : nt ≠ g) (h3 : rb ≠ g) : PB V' N S bs nt rb s :=
  ⟨fun i hi => (h.at_ i hi).of_but hb (h1 i hi), h.nt.of_but hb h2, h.rb.of_but hb h3, Nat.le_trans h.size hb.size⟩
/-- The end of both. -/
theorem TS.pushed {w V : World} {B N g1 c1 g2 c2 : Nat} {S : List ByteArray} {bs : List Nat} (h : TS w B g1 c1 g2 c2 S S bs) {g1' c1' g2' c2' nt rb Na Nb : Nat} {s : ByteArray} (p : PB V N S bs nt rb s)
    (ht : V.ownsRow B 27 1 (.slice (some ⟨g1', 0, none⟩) (S.length + 1) c1') (S.length + 1) (bs.map PT ++ [PT nt])) (hr : V.ownsRow B 31 1 (.slice (some ⟨g2', 0, none⟩) (S.length + 1) c2') (S.length + 1) (S.map Value.string ++ [.string s]))
    (hlt : ∀ i, i < S.length → bs.getD i 0 < N) (hg1 : g1 < N) (hg2 : g2 < N) (hnt : nt < N) (hnB : B ≤ nt) (hnew : ∀ i, i < S.length → bs.getD i 0 ≠ nt) (hn1 : nt ≠ g1) (hn2 : nt ≠ g2) (e1 : g1' = g1 ∨ g1' = Na) (e2 : g2' = g2 ∨ g2' = Nb) (ha : N ≤ Na) (hb : N ≤ Nb) (hl1 : g1' < Nb) (hs : s.size = 32) :
    TS V B g1' c1' g2' c2' (S ++ [s]) (S ++ [s]) (bs ++ [nt]) := by
  have hne := h.ne
  refine h.push ht hr p.at_ p.nt hnB hnew ?_ ?_ ?_ hs
  · rcases e1 with rfl | rfl <;> rcases e2 with rfl | rfl <;> omega
  · intro i hi
    have := hlt i hi
    have := h.ge i hi
    constructor
    · rcases e1 with rfl | rfl <;> omega
    · rcases e2 with rfl | rfl <;> omega
  · constructor
    · rcases e1 with rfl | rfl <;> omega
    · rcases e2 with rfl | rfl <;> omega
end Go.Proofs.YtalagjmjpoacmabDoor
