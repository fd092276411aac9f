/- A step of the custody in memory. -/
import Derived.Test.YtafekaonmpkhiaaCi
import Derived.Test.YtafekaonmpkhiaaCh
set_option linter.unusedSimpArgs false
set_option linter.unusedVariables false
set_option maxRecDepth 100000
namespace Go.Proofs.Ytafekaonmpkhiaa
open Go.Maps Go.WideMaps Go.RowKit Go.Deep Go.PlainAid

/-- Nothing but blocks bm and bs has turned, of what was there. -/
structure FR (w w' : World) (bm bs : Nat) : Prop where
  os : w'.os = w.os
  tape : w'.tape = w.tape
  output : w'.output = w.output
  size : w.heap.size ≤ w'.heap.size
  block : ∀ k, k < w.heap.size → k ≠ bm → k ≠ bs → w'.heap[k]? = w.heap[k]?
theorem FR.refl (w : World) (bm bs : Nat) : FR w w bm bs := ⟨rfl, rfl, rfl, Nat.le_refl _, fun _ _ _ _ => rfl⟩
theorem FR.trans {w w' w'' : World} {bm bs : Nat} (h : FR w w' bm bs) (h' : FR w' w'' bm bs) : FR w w'' bm bs :=
  ⟨h'.os.trans h.os, h'.tape.trans h.tape, h'.output.trans h.output, Nat.le_trans h.size h'.size, fun k hk a b => (h'.block k (Nat.lt_of_lt_of_le hk h.size) a b).trans (h.block k hk a b)⟩
theorem FR.below {w w' : World} {bm bs : Nat} (h : Below w.heap.size w w') : FR w w' bm bs := ⟨h.os, h.tape, h.output, h.size, fun k hk _ _ => h.block k hk⟩
theorem FR.grown {w V V' : World} {bm bs b : Nat} (h : FR w V bm bs) (g : V.grownBy V' (some b)) (hb : w.heap.size ≤ b ∨ b = bm ∨ b = bs) : FR w V' bm bs :=
  ⟨g.os.trans h.os, g.tape.trans h.tape, g.output.trans h.output, Nat.le_trans h.size g.size, fun k hk a c => (g.block k (Nat.lt_of_lt_of_le hk h.size) (fun e => by cases e; rcases hb with q | q | q; omega; exact a q; exact c q)).trans (h.block k hk a c)⟩
theorem FR.cell {w w' : World} {bm bs b o : Nat} {v : Value} (h : FR w w' bm bs) (hc : w.cell? ⟨b, o, none⟩ = some v) (h1 : b ≠ bm) (h2 : b ≠ bs) : w'.cell? ⟨b, o, none⟩ = some v := (World.cell?_of_block (a := ⟨b, o, none⟩) (h.block b (cell_lt hc) h1 h2)).trans hc
theorem FR.holds {w w' : World} {bm bs b : Nat} {t : TypeId} {l : List Value} (h : FR w w' bm bs) (hc : IHolds w b t l) (h1 : b ≠ bm) (h2 : b ≠ bs) : IHolds w' b t l := by
  unfold IHolds; rw [h.block b hc.lt h1 h2]; exact hc
theorem grown_holds {w w' : World} {b k : Nat} {t : TypeId} {l : List Value} (g : w.grownBy w' (some k)) (hc : IHolds w b t l) (h1 : b ≠ k) : IHolds w' b t l := by
  unfold IHolds; rw [g.block b hc.lt (by simpa using h1)]; exact hc
/-- The custody, the boxes after l, the seals after l'. -/
structure CH (w : World) (cb bm bs : Nat) (l l' : List Hd) : Prop where
  c : IHolds w cb 45 [.map (some bm), .map (some bs)]
  n1 : cb ≠ bm
  n2 : cb ≠ bs
  n3 : bm ≠ bs
  m : ∃ n D, w.ownsMap Try.prog 9 Rv bm n D ∧ RepB D l
  s : ∃ n S, w.ownsMap Try.prog 9 unitElem bs n S ∧ RepS S l'
theorem CU.ch {w : World} {cb bm bs : Nat} {l : List Hd} (h : CU w cb bm bs l) : CH w cb bm bs l l := ⟨h.c, h.n1, h.n2, h.n3, h.m, h.s⟩
theorem CH.cu {w : World} {cb bm bs : Nat} {l : List Hd} (h : CH w cb bm bs l l) : CU w cb bm bs l := ⟨h.c, h.n1, h.n2, h.n3, h.m, h.s⟩
theorem CH.bm_lt {w : World} {cb bm bs : Nat} {l l' : List Hd} (h : CH w cb bm bs l l') : bm < w.heap.size := by obtain ⟨n, D, h1, _⟩ := h.m; exact h1.lt
theorem CH.bs_lt {w : World} {cb bm bs : Nat} {l l' : List Hd} (h : CH w cb bm bs l l') : bs < w.heap.size := by obtain ⟨n, D, h1, _⟩ := h.s; exact h1.lt
theorem CH.grown {w w' : World} {cb bm bs b : Nat} {l l' : List Hd} (h : CH w cb bm bs l l') (g : w.grownBy w' (some b)) (h1 : cb ≠ b) (h2 : bm ≠ b) (h3 : bs ≠ b) : CH w' cb bm bs l l' := by
  obtain ⟨n, D, m1, m2⟩ := h.m
  obtain ⟨k, S, s1, s2⟩ := h.s
  exact ⟨grown_holds g h.c h1, h.n1, h.n2, h.n3, ⟨n, D, m1.kept g (by simpa using h2), m2⟩, ⟨k, S, s1.kept g (by simpa using h3), s2⟩⟩
theorem CH.of_below {w w' : World} {cb bm bs : Nat} {l l' : List Hd} (h : CH w cb bm bs l l') (hb : Below w.heap.size w w') : CH w' cb bm bs l l' := by
  obtain ⟨n, D, m1, m2⟩ := h.m
  obtain ⟨k, S, s1, s2⟩ := h.s
  have g : w.grownBy w' none := ⟨hb.os, hb.tape, hb.output, hb.size, fun i hi _ => hb.block i hi⟩
  exact ⟨h.c.of_below hb, h.n1, h.n2, h.n3, ⟨n, D, m1.kept g (by simp), m2⟩, ⟨k, S, s1.kept g (by simp), s2⟩⟩
/-- What the box then is, in cells. -/
def newL (k : Int) (nm : ByteArray) (r : BR) (h : Hd) : List Value :=
  if k = 1 then [.string h.box, .int .i64 h.cnt, .string h.who, .string h.sl, .int .i64 (stZ r), .string r.under]
  else if k = 2 then [.string nm, .int .i64 r.count, .string r.holder, .string r.sl, .int .i64 1, .string h.to_]
  else if k = 3 then [.string nm, .int .i64 r.count, .string h.who, .string r.sl, .int .i64 0, .string ⟨#[]⟩]
  else if k = 4 then [.string nm, .int .i64 r.count, .string r.holder, .string ⟨#[]⟩, .int .i64 2, .string r.under]
  else [.string nm, .int .i64 h.cnt, .string r.holder, .string h.sl, .int .i64 0, .string r.under]
theorem st1 {r : BR} (h : r.under ≠ ⟨#[]⟩) : stZ r = 1 := by unfold stZ; rw [if_pos h]
theorem st2 {r : BR} (h : r.under = ⟨#[]⟩) (o : r.opn = true) : stZ r = 2 := by unfold stZ; rw [if_neg (fun q => q h), if_pos o]
theorem st0 {r : BR} (h : r.under = ⟨#[]⟩) (o : r.opn = false) : stZ r = 0 := by unfold stZ; rw [if_neg (fun q => q h), if_neg (by rw [o]; decide)]
theorem newL_eq {l : List Hd} {h : Hd} (i : Inv1 l) (e : handC l h = 0) : newL h.act (nmOf l h.box) (bx l h.box) h = bxL h.box (bact (bx l h.box) h) ∧ (bact (bx l h.box) h).ok = true := by
  obtain ⟨e1, e2⟩ := handC_zero e
  have ha := act_cases (form_act e1)
  have ht := form_to e1
  have i2 := i.one h.box
  have i1 := i.none h.box
  unfold hindC at e2
  unfold nmOf
  generalize bx l h.box = r at *
  generalize had l h.sl = hs at *
  rcases ha with a | a | a | a | a
  · have hb : bact r h = { r with ok := true, count := h.cnt, holder := h.who, sl := h.sl } := by simp [bact, a]
    have hs2 : stZ { r with ok := true, count := h.cnt, holder := h.who, sl := h.sl } = stZ r := rfl
    rw [hb]
    refine ⟨?_, rfl⟩
    unfold newL bxL
    rw [if_pos a, hs2]
  · have ok : r.ok = true := by simp only [a] at e2; cases q : r.ok <;> simp_all
    have hb : bact r h = { r with under := h.to_ } := by simp [bact, a]
    rw [hb]
    refine ⟨?_, ok⟩
    have hs2 : stZ { r with under := h.to_ } = 1 := st1 (ht a)
    unfold newL bxL
    rw [if_neg (by omega), if_pos a, if_pos ok, hs2]
  · have ok : r.ok = true := by simp only [a] at e2; cases q : r.ok <;> simp_all
    have u : r.under ≠ ⟨#[]⟩ := fun q => by simp only [a, q] at e2; simp [ok] at e2
    have hb : bact r h = { r with holder := h.who, under := ⟨#[]⟩ } := by simp [bact, a]
    rw [hb]
    refine ⟨?_, ok⟩
    have hs2 : stZ { r with holder := h.who, under := ⟨#[]⟩ } = 0 := st0 rfl (i2 u)
    unfold newL bxL
    rw [if_neg (by omega), if_neg (by omega), if_pos a, if_pos ok, hs2]
  · have ok : r.ok = true := by simp only [a] at e2; cases q : r.ok <;> simp_all
    have u : r.under = ⟨#[]⟩ := Classical.byContradiction fun q => by simp only [a] at e2; simp [ok, q] at e2
    have hb : bact r h = { r with opn := true, sl := ⟨#[]⟩ } := by simp [bact, a]
    rw [hb]
    refine ⟨?_, ok⟩
    have hs2 : stZ { r with opn := true, sl := ⟨#[]⟩ } = 2 := st2 u rfl
    unfold newL bxL
    rw [if_neg (by omega), if_neg (by omega), if_neg (by omega), if_pos a, if_pos ok, hs2]
  · have ok : r.ok = true := by simp only [a] at e2; cases q : r.ok <;> simp_all
    have u : r.under = ⟨#[]⟩ := Classical.byContradiction fun q => by simp only [a] at e2; simp [ok, q] at e2
    have hb : bact r h = { r with opn := false, sl := h.sl, count := h.cnt } := by simp [bact, a]
    rw [hb]
    refine ⟨?_, ok⟩
    have hs2 : stZ { r with opn := false, sl := h.sl, count := h.cnt } = 0 := st0 u rfl
    unfold newL bxL
    rw [if_neg (by omega), if_neg (by omega), if_neg (by omega), if_neg (by omega), if_pos ok, hs2]
theorem repB_step {D : HB} {l : List Hd} {h : Hd} (hD : Maps.Tidy D) (R : RepB D l) (i : Inv1 l) (e : handC l h = 0) : RepB (D.put (ky h.box) (.held (BV h.box (bact (bx l h.box) h)))) (l ++ [h]) := by
  obtain ⟨_, ok⟩ := newL_eq i e
  have key : bx (l ++ [h]) h.box = bact (bx l h.box) h := by rw [bx_snoc, bstep, if_pos rfl]
  have oth : ∀ nm, nm ≠ h.box → bx (l ++ [h]) nm = bx l nm := fun nm q => by rw [bx_snoc, bstep, if_neg (Ne.symm q)]
  have i' := (i.mem h.box)
  refine ⟨fun nm => ?_, fun nm hk z => ?_, ?_⟩
  · by_cases c : nm = h.box
    · subst c; rw [key, ok]; exact Maps.has_put_same hD.isMap (ky_lit _) _
    · rw [oth nm c, Maps.has_put_other (fun q => c (ky_inj q))]; exact R.has nm
  · by_cases c : nm = h.box
    · subst c; rw [key]; exact Maps.atKey_put_same hD.isMap (ky_lit _) _ _
    · rw [oth nm c] at hk ⊢; rw [Maps.atKey_put_other (fun q => c (ky_inj q))]; exact R.val nm hk z
  · rw [Maps.size_put hD, R.has, R.size, packs_snoc]
    obtain ⟨e1, e2⟩ := handC_zero e
    unfold hindC at e2
    by_cases a1 : h.act = 1
    · rw [if_pos a1]
      have : (bx l h.box).ok = false := by simp only [a1] at e2; cases q : (bx l h.box).ok <;> simp_all
      rw [this]; simp
    · rw [if_neg a1]
      have : (bx l h.box).ok = true := by cases q : (bx l h.box).ok <;> simp_all
      rw [this]; simp
theorem repS_put {S : HB} {l : List Hd} {h : Hd} (hS : Maps.Tidy S) (R : RepS S l) (a : h.act = 1 ∨ h.act = 5) : RepS (S.put (ky h.sl) (.agg [])) (l ++ [h]) := by
  refine ⟨fun s => ?_, ?_⟩
  · rw [had_snoc]
    by_cases c : s = h.sl
    · subst c; rw [Maps.has_put_same hS.isMap (ky_lit _)]; simp [hadB, a]
    · rw [Maps.has_put_other (fun q => c (ky_inj q)), R.has]
      have : hadB s h = false := by unfold hadB; exact decide_eq_false fun q => c q.2.symm
      rw [this, Bool.or_false]
  · rw [Maps.size_put hS]
    have := R.size
    split <;> simp <;> omega
theorem repS_stay {S : HB} {l : List Hd} {h : Hd} (R : RepS S l) (a : ¬ (h.act = 1 ∨ h.act = 5)) : RepS S (l ++ [h]) := by
  refine ⟨fun s => ?_, by have := R.size; simp; omega⟩
  rw [had_snoc, R.has]
  have : hadB s h = false := by simp [hadB, a]
  rw [this, Bool.or_false]
theorem own_size {H : Type} {w : World} {R : Value → Option (DataW H × List MemPlace)} {b n : Nat} {D : DataW H} (h : w.ownsMap Try.prog 9 R b n D) : w.ownsMap Try.prog 9 R b (Maps.size D) D := by
  obtain ⟨es, clock, hb, F, hs, rfl⟩ := h
  refine ⟨es, clock, hb, F, ?_, rfl⟩
  simp [Maps.size, length_sorted]
/-- The box is laid down again. -/
theorem CH.box {w : World} {cb bm bs : Nat} {l l' : List Hd} {h : Hd} (c : CH w cb bm bs l l') (i : Inv1 l) (e : handC l h = 0) (hs : h.box.size ≤ 140737488355328) :
    ∃ W9, (Instr.mapUpdate 42 (.map (some bm)) (.string h.box) (BV h.box (bact (bx l h.box) h))).run Try.prog w = .ok () W9 ∧ CH W9 cb bm bs (l ++ [h]) l' ∧ w.grownBy W9 (some bm) := by
  obtain ⟨n, D, m1, m2⟩ := c.m
  obtain ⟨k, S, s1, s2⟩ := c.s
  have f := i.few
  have z := m2.size
  obtain ⟨W9, hr, ho, ht⟩ := (own_size m1).store (t := 42) (e := 68) law Try.underlying42 (by unfold maxLen; omega) (key_of hs) (d := .held (BV h.box (bact (bx l h.box) h))) (ps := []) rfl
  have g := ht.grown
  exact ⟨W9, hr, ⟨grown_holds g c.c c.n1, c.n1, c.n2, c.n3, ⟨_, _, ho, repB_step (m1.tidy law) m2 i e⟩, ⟨k, S, s1.kept g (by simpa using c.n3.symm), s2⟩⟩, g⟩
theorem CH.seal {w : World} {cb bm bs : Nat} {l l' : List Hd} {h : Hd} (c : CH w cb bm bs l l') (a : h.act = 1 ∨ h.act = 5) (hl : l'.length < 140737488355328) (hs : h.sl.size ≤ 140737488355328) :
    ∃ W9, (Instr.mapUpdate 43 (.map (some bs)) (.string h.sl) (.agg #[])).run Try.prog w = .ok () W9 ∧ CH W9 cb bm bs l (l' ++ [h]) ∧ w.grownBy W9 (some bs) := by
  obtain ⟨n, D, m1, m2⟩ := c.m
  obtain ⟨k, S, s1, s2⟩ := c.s
  have z := s2.size
  obtain ⟨W9, hr, ho, ht⟩ := (own_size s1).store (t := 43) (e := 70) law Try.underlying43 (by unfold maxLen; omega) (key_of hs) (d := .agg []) (ps := []) unitElem_mk
  have g := ht.grown
  exact ⟨W9, hr, ⟨grown_holds g c.c c.n2, c.n1, c.n2, c.n3, ⟨n, D, m1.kept g (by simpa using c.n3), m2⟩, ⟨_, _, ho, repS_put (s1.tidy law) s2 a⟩⟩, g⟩
theorem CH.stay {w : World} {cb bm bs : Nat} {l l' : List Hd} {h : Hd} (c : CH w cb bm bs l l') (a : ¬ (h.act = 1 ∨ h.act = 5)) : CH w cb bm bs l (l' ++ [h]) := by
  obtain ⟨k, S, s1, s2⟩ := c.s
  exact ⟨c.c, c.n1, c.n2, c.n3, c.m, ⟨k, S, s1, repS_stay s2 a⟩⟩
end Go.Proofs.Ytafekaonmpkhiaa
