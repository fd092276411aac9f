/- A map whose keys are pointers. -/
import Derived.Test.YtlogilmeefcipaaDoorPrMem
import Derived.LaidEqlPtr
set_option linter.unusedSimpArgs false
set_option linter.unusedVariables false
set_option maxRecDepth 100000
namespace Go.Proofs.YtlogilmeefcipaaDoor
open Go.RowKit Go.Deep Go.PlainAid

/-- A pointer into cells, at one that may be written. -/
def PKey (Sb : Nat → Prop) (w : World) (v : Value) : Prop := ∃ b o cs t fr, v = .pointer (some ⟨b, o, none⟩) ∧ Sb b ∧ w.heap[b]? = some (.cells cs t fr) ∧ w.frozen? ⟨b, o, none⟩ = false
theorem info64 : ∃ j, Tryd.prog.info? 24 = some j ∧ j.size = 3 := by
  have h : (Tryd.prog.info? 24).map (·.size) = some 3 := by kernel_rfl
  exact Option.map_eq_some_iff.1 h
theorem mayBeOne_run {w : World} {a b : Addr} {ca cb : Array Value} {ta tb : TypeId} {fa fb : Nat × Nat} (ha : w.heap[a.block]? = some (.cells ca ta fa)) (hb : w.heap[b.block]? = some (.cells cb tb fb)) :
    ∃ m, (mayBeOne a b).run Tryd.prog w = .ok m w := by
  have hs : ∀ (x : Addr) (cx : Array Value) (tx : TypeId) (fx : Nat × Nat), w.heap[x.block]? = some (.cells cx tx fx) → ∃ m, (stringish x).run Tryd.prog w = .ok m w := by
    intro x cx tx fx hx
    by_cases h : w.frozen? x = true
    · exact ⟨true, by simp [stringish, h]⟩
    · refine ⟨w.frozen? { block := x.block, off := cx.size }, ?_⟩
      simp [stringish, h, World.shape?, hx]
  obtain ⟨ma, hma⟩ := hs a ca ta fa ha
  obtain ⟨mb, hmb⟩ := hs b cb tb fb hb
  cases ma <;> cases mb <;> simp [mayBeOne, hma, hmb, World.shape?, ha, hb]
theorem sameAddr_run {w : World} {a b : Addr} {ca cb : Array Value} {ta tb : TypeId} {fa fb : Nat × Nat} (ha : w.heap[a.block]? = some (.cells ca ta fa)) (hb : w.heap[b.block]? = some (.cells cb tb fb)) (hf : w.frozen? a = false) :
    ∃ r j, (sameAddr a b).run Tryd.prog w = .ok r (w.drewN j) := by
  by_cases hbl : a.block = b.block
  · exact ⟨a == b, 0, by simp [sameAddr, hbl]; rfl⟩
  · obtain ⟨m, hm⟩ := mayBeOne_run ha hb
    have sa : w.shape? a.block = some (ta, ca.size) := by simp [World.shape?, ha]
    have sb : w.shape? b.block = some (tb, cb.size) := by simp [World.shape?, hb]
    have hq : (Question.extern "sameAddr.stringBytes" 2).forced = false := rfl
    cases m with
    | false => exact ⟨false, 0, by simp [sameAddr, hbl, hf, noView, viewAt, sa, sb, hm]; rfl⟩
    | true =>
      refine ⟨(Question.extern "sameAddr.stringBytes" 2).cut (w.tape w.drawn (Question.extern "sameAddr.stringBytes" 2)) == 1, 1, ?_⟩
      simp [sameAddr, hbl, hf, noView, viewAt, sa, sb, hm, hq]
      rfl
theorem equal_run {Sb : Nat → Prop} {w : World} {x y : Value} (hx : PKey Sb w x) (hy : PKey Sb w y) : ∃ r j, (Op.equal 64 x y).run Tryd.prog w = .ok r (w.drewN j) := by
  obtain ⟨b, o, cs, t, fr, rfl, _, h1, h2⟩ := hx
  obtain ⟨b', o', cs', t', fr', rfl, _, h1', h2'⟩ := hy
  obtain ⟨j, hj, hjs⟩ := info64
  obtain ⟨r, k, h⟩ := sameAddr_run (a := ⟨b, o, none⟩) (b := ⟨b', o', none⟩) h1 h1' h2
  refine ⟨r, k, ?_⟩
  have hq : ∀ d : Nat, (Op.equalIn (d + 1) 64 (.pointer (some ⟨b, o, none⟩)) (.pointer (some ⟨b', o', none⟩))).run Tryd.prog w = .ok r (w.drewN k) := fun d => by
    simp [Op.equalIn, run_underlying Tryd.underlying64, sizeOf, typeInfo, hj, hjs, h]
  exact hq 9999
theorem PKey.drewN {Sb : Nat → Prop} {w : World} {v : Value} (h : PKey Sb w v) (j : Nat) : PKey Sb (w.drewN j) v := h
theorem drewN_add (w : World) (j k : Nat) : (w.drewN j).drewN k = w.drewN (j + k) := by simp [World.drewN, Nat.add_assoc]
theorem find_run {Sb : Nat → Prop} {x : Value} : ∀ (es : List MapEntry) (i : Nat) (w : World), PKey Sb w x → (∀ e ∈ es, PKey Sb w e.key) →
    ∃ r j, (Instr.findAsking 64 x es i).run Tryd.prog w = .ok r (w.drewN j) ∧ (r = none ∨ ∃ k e, r = some (k, e.val) ∧ e ∈ es)
  | [], i, w, _, _ => ⟨none, 0, rfl, Or.inl rfl⟩
  | e :: es, i, w, hx, hes => by
    obtain ⟨r, j, h⟩ := equal_run hx (hes e (by simp))
    cases r with
    | true => exact ⟨some (i, e.val), j, by simp [Instr.findAsking, h], Or.inr ⟨i, e, rfl, by simp⟩⟩
    | false =>
      obtain ⟨r, j', h', hr⟩ := find_run es (i + 1) (w.drewN j) hx (fun e' he' => hes e' (by simp [he']))
      refine ⟨r, j + j', ?_, ?_⟩
      · simp [Instr.findAsking, h, h', drewN_add]
      · rcases hr with hr | ⟨k, e', hr, he'⟩
        · exact Or.inl hr
        · exact Or.inr ⟨k, e', hr, by simp [he']⟩
theorem findKey_run {Sb : Nat → Prop} {x : Value} (es : List MapEntry) (w : World) (hx : PKey Sb w x) (hes : ∀ e ∈ es, PKey Sb w e.key) :
    ∃ r j, (Instr.findKey 64 x es).run Tryd.prog w = .ok r (w.drewN j) ∧ (r = none ∨ ∃ k e, r = some (k, e.val) ∧ e ∈ es) := by
  cases es with
  | nil => exact ⟨none, 0, by simp [Instr.findKey, run_underlying Tryd.underlying64, Instr.findNow]; rfl, Or.inl rfl⟩
  | cons e es =>
    obtain ⟨r, j, h, hr⟩ := find_run (e :: es) 0 w hx hes
    refine ⟨r, j, ?_, hr⟩
    have e0 : Instr.findNow (.pointer 24) x (e :: es) 0 = none := by simp [Instr.findNow, Instr.sameNow]
    simp [Instr.findKey, run_underlying Tryd.underlying64, e0, h]
/-- The map at m: pointers, and numbers of nodes. -/
structure MapOk (Sb : Nat → Prop) (w : World) (m : Nat) : Prop where
  it : ∃ es clock, w.heap[m]? = some (.map es clock) ∧ ∀ e ∈ es.toList, PKey Sb w e.key ∧ ∃ k : Nat, e.val = .int .i64 (k : Int) ∧ k ≤ 1048576
theorem checkKey_run (em : Bool) (x : Value) (w : World) : (Instr.checkKey em 10000 64 x).run Tryd.prog w = .ok () w := by
  have h : ∀ d : Nat, (Instr.checkKey em (d + 1) 64 x).run Tryd.prog w = .ok () w := fun d => by
    simp [Instr.checkKey, run_underlying Tryd.underlying64]
  exact h 9999
theorem lookup_run {Sb : Nat → Prop} {w : World} {m : Nat} {x : Value} (h : MapOk Sb w m) (hx : PKey Sb w x) : ∃ k : Nat, ∃ j, (Instr.lookup 62 (.map (some m)) x false).run Tryd.prog w = .ok (.int .i64 (k : Int)) (w.drewN j) ∧ k ≤ 1048576 := by
  obtain ⟨es, clock, hm, hes⟩ := h.it
  obtain ⟨r, j, hr, hv⟩ := findKey_run es.toList w hx (fun e he => (hes e he).1)
  have hgm : (getObj m).run Tryd.prog w = .ok (.map es clock) w := by simp [getObj, Sem.run, hm]
  rcases hv with rfl | ⟨k, e, rfl, he⟩
  · refine ⟨0, j, ?_, by omega⟩
    simp [Instr.lookup, run_underlying Tryd.underlying62, hgm, checkKey_run, hr, Tryd.zeroValue3]
  · obtain ⟨k', hk', hk''⟩ := (hes e he).2
    refine ⟨k', j, ?_, hk''⟩
    simp [Instr.lookup, run_underlying Tryd.underlying62, hgm, checkKey_run, hr, hk']
theorem stays_run (old new : Value) (w : World) : ∃ key j, (Instr.keyThatStays old new).run Tryd.prog w = .ok key (w.drewN j) ∧ (key = old ∨ key = new) := by
  by_cases h : Instr.sameBits 10000 old new = true
  · exact ⟨new, 0, by simp [Instr.keyThatStays, h]; rfl, Or.inr rfl⟩
  · have hq : (Question.extern "map.whichKeyStays" 2).forced = false := rfl
    refine ⟨if (Question.extern "map.whichKeyStays" 2).cut (w.tape w.drawn (Question.extern "map.whichKeyStays" 2)) = 0 then new else old, 1, ?_, ?_⟩
    · simp [Instr.keyThatStays, h, hq]
      rfl
    · split
      · exact Or.inr rfl
      · exact Or.inl rfl
theorem PKey.but {Sb : Nat → Prop} {w w' : World} {m : Nat} {v : Value} {es : Array MapEntry} {clock : Nat} (h : PKey Sb w v) (hm : w.heap[m]? = some (.map es clock)) (hb : But m w w') : PKey Sb w' v := by
  obtain ⟨b, o, cs, t, fr, rfl, hS, h1, h2⟩ := h
  have hne : b ≠ m := fun e => by subst e; rw [hm] at h1; cases h1
  have e := hb.block b (Array.getElem?_eq_some_iff.1 h1).1 hne
  exact ⟨b, o, cs, t, fr, rfl, hS, by rw [e]; exact h1, by rw [World.frozen?_of_block (a := ⟨b, o, none⟩) e]; exact h2⟩
theorem update_run {Sb : Nat → Prop} {w : World} {m : Nat} {x : Value} {k : Nat} (h : MapOk Sb w m) (hx : PKey Sb w x) (hk : k ≤ 1048576) :
    ∃ w', (Instr.mapUpdate 62 (.map (some m)) x (.int .i64 (k : Int))).run Tryd.prog w = .ok () w' ∧ MapOk Sb w' m ∧ But m w w' := by
  obtain ⟨es, clock, hm, hes⟩ := h.it
  obtain ⟨r, j, hr, hv⟩ := findKey_run es.toList w hx (fun e he => (hes e he).1)
  have hgm : (getObj m).run Tryd.prog w = .ok (.map es clock) w := by simp [getObj, Sem.run, hm]
  have hset : ∀ (j : Nat) (o : Obj), (setObj m o).run Tryd.prog (w.drewN j) = .ok () { w.drewN j with heap := (w.drewN j).heap.setIfInBounds m o } := fun j o => by
    have hm' : (w.drewN j).heap[m]? = some (.map es clock) := hm
    simp [setObj, Sem.run, hm]
  have hB : ∀ (j : Nat) (o : Obj), But m w { w.drewN j with heap := (w.drewN j).heap.setIfInBounds m o } := fun j o =>
    ⟨rfl, rfl, rfl, by show w.heap.size ≤ (w.heap.setIfInBounds m o).size; simp, fun i _ hi => by show (w.heap.setIfInBounds m o)[i]? = _; rw [Array.getElem?_setIfInBounds_ne (by omega)]⟩
  have hAt : ∀ (j : Nat) (o : Obj), ({ w.drewN j with heap := (w.drewN j).heap.setIfInBounds m o } : World).heap[m]? = some o := fun j o => by
    have hlt : m < w.heap.size := (Array.getElem?_eq_some_iff.1 hm).1
    show (w.heap.setIfInBounds m o)[m]? = _
    simp [hlt]
  rcases hv with rfl | ⟨i, e, rfl, he⟩
  · refine ⟨_, by simp [Instr.mapUpdate, run_underlying Tryd.underlying62, hgm, checkKey_run, hr, hset]; rfl, ?_, hB j _⟩
    refine ⟨_, _, hAt j _, ?_⟩
    intro e he
    simp only [Array.toList_push, List.mem_append, List.mem_singleton] at he
    rcases he with he | rfl
    · exact ⟨(hes e he).1.but hm (hB j _), (hes e he).2⟩
    · exact ⟨hx.but hm (hB j _), k, rfl, hk⟩
  · obtain ⟨key, j', hs, hkey⟩ := stays_run (((es[i]?).map (·.key)).getD x) x (w.drewN j)
    rw [drewN_add] at hs
    have hP : PKey Sb w key := by
      rcases hkey with rfl | rfl
      · cases hi : es[i]? with
        | none => simpa [hi] using hx
        | some e' =>
          simp only [hi, Option.map_some, Option.getD_some]
          exact (hes e' (by
            obtain ⟨h1, h2⟩ := Array.getElem?_eq_some_iff.1 hi
            rw [← h2]; simp)).1
      · exact hx
    refine ⟨_, by simp [Instr.mapUpdate, run_underlying Tryd.underlying62, hgm, checkKey_run, hr, hs, hset]; rfl, ?_, hB (j + j') _⟩
    refine ⟨_, _, hAt (j + j') _, ?_⟩
    intro e1 he1
    rw [Array.mem_toList_iff, Array.mem_iff_getElem] at he1
    obtain ⟨q, hq, rfl⟩ := he1
    simp only [Array.size_modify] at hq
    rw [Array.getElem_modify]
    split
    · exact ⟨hP.but hm (hB (j + j') _), k, rfl, hk⟩
    · have hmem : es[q] ∈ es.toList := by simp
      exact ⟨(hes _ hmem).1.but hm (hB (j + j') _), (hes _ hmem).2⟩
theorem PKey.keep {Sb : Nat → Prop} {w w' : World} {v : Value} (h : PKey Sb w v) (hb : ∀ b, Sb b → w'.heap[b]? = w.heap[b]?) : PKey Sb w' v := by
  obtain ⟨b, o, cs, t, fr, rfl, hS, h1, h2⟩ := h
  have e := hb b hS
  exact ⟨b, o, cs, t, fr, rfl, hS, by rw [e]; exact h1, by rw [World.frozen?_of_block (a := ⟨b, o, none⟩) e]; exact h2⟩
theorem MapOk.keep {Sb : Nat → Prop} {w w' : World} {m : Nat} (h : MapOk Sb w m) (hb : ∀ b, Sb b → w'.heap[b]? = w.heap[b]?) (hm : w'.heap[m]? = w.heap[m]?) : MapOk Sb w' m := by
  obtain ⟨es, clock, h1, h2⟩ := h.it
  exact ⟨es, clock, by rw [hm]; exact h1, fun e he => ⟨(h2 e he).1.keep hb, (h2 e he).2⟩⟩
end Go.Proofs.YtlogilmeefcipaaDoor
