/- The writer: a builder within a struct; add. -/
import Derived.Test.YtlogilmeefcipaaDoorPrMem
import Derived.Lib.AppendStr
import Derived.Shelf.Strings.Builder1
set_option linter.unusedSimpArgs false
set_option linter.unusedVariables false
set_option maxRecDepth 100000
namespace Go.Proofs.YtlogilmeefcipaaDoor
open Go.RowKit Go.Deep Go.PlainAid

theorem sizeB : (Tryd.prog.info? 43).map (·.size) = some 2 := by kernel_rfl
theorem info5' : (Tryd.prog.info? 5).map (fun i => (i.zero, i.size, i.bytes)) = some (some (.int .u8 0), 1, 1) := by kernel_rfl
theorem info_parts' {t : TypeId} {z : Value} {s b : Nat} (h : (Tryd.prog.info? t).map (fun i => (i.zero, i.size, i.bytes)) = some (some z, s, b)) : ∃ i, Tryd.prog.info? t = some i ∧ i.zero = some z ∧ i.size = s ∧ i.bytes = b := by
  cases hq : Tryd.prog.info? t with
  | none => rw [hq] at h; cases h
  | some i =>
    rw [hq] at h
    simp only [Option.map_some, Option.some.injEq, Prod.mk.injEq] at h
    exact ⟨i, rfl, h.1, h.2.1, h.2.2⟩
/-- What turned is at B or behind it, and is the writer's block, a row of bytes, or new. -/
structure WF (B g : Nat) (w w' : World) : Prop where
  below : Below B w w'
  other : ∀ k, k < w.heap.size → k ≠ g → (∀ cs fr, w.heap[k]? ≠ some (.cells cs 5 fr)) → w'.heap[k]? = w.heap[k]?
theorem WF.refl (B g : Nat) (w : World) : WF B g w w := ⟨Below.refl B w, fun _ _ _ _ => rfl⟩
theorem WF.trans {B g : Nat} {u v w : World} (h : WF B g u v) (k : WF B g v w) : WF B g u w := by
  refine ⟨h.below.trans k.below, fun i hi hg h5 => ?_⟩
  have e := h.other i hi hg h5
  rw [k.other i (Nat.lt_of_lt_of_le hi h.below.size) hg (by rw [e]; exact h5), e]
theorem WF.of_below {B g : Nat} {w w' : World} (h : Below w.heap.size w w') (hB : B ≤ w.heap.size) : WF B g w w' := ⟨h.mono hB, fun k hk _ _ => h.block k hk⟩
theorem WF.keep {B g k : Nat} {w w' : World} {t : TypeId} {l : List Value} (h : WF B g w w') (hk : IHolds w k t l) (hg : k ≠ g) (ht : t ≠ 5) : IHolds w' k t l := by
  unfold IHolds at *
  rw [h.other k (IHolds.lt hk) hg (fun cs fr e => by rw [hk] at e; simp only [Option.some.injEq, Obj.cells.injEq] at e; exact ht e.2.1)]
  exact hk
/-- The writer at g holds these bytes. -/
abbrev Wr (B g : Nat) (l : List UInt8) (w : World) : Prop := Lib.IsBuilder 45 5 B g (Lib.byteCells l) w
theorem strCells_S (l : List UInt8) : Lib.strCells ⟨l.toArray⟩ = Lib.byteCells l := by simp [Lib.strCells, Lib.byteCells]
set_option maxHeartbeats 1000000 in
theorem copyCheck_used (b : Nat) (w : World) (h0 : w.cell? ⟨b, 0, none⟩ = some (.pointer (some ⟨b, 0, none⟩))) :
    Calls Tryd.prog 43 #[.pointer (some ⟨b, 0, none⟩)] w fun e w' => e = .returned (.tuple #[]) ∧ w' = w := by
  obtain ⟨j, hj, _⟩ := Option.map_eq_some_iff.1 sizeB
  go_enter Tryd.func43, Tryd.ntmps43
  go_wp2_with fail
  rw [Lib.run_neq_ptr_same w _ Tryd.underlying40 hj]
  go_wp2_with fail
  go_end0
  exact ⟨rfl, rfl⟩
set_option maxHeartbeats 1000000 in
theorem copyCheck_fresh (b : Nat) (w : World) (h0 : w.cell? ⟨b, 0, none⟩ = some (.pointer none)) (hsh : w.shape? b = some (45, 2)) (hfz : w.frozen? ⟨b, 0, none⟩ = false) :
    Calls Tryd.prog 43 #[.pointer (some ⟨b, 0, none⟩)] w fun e w' => e = .returned (.tuple #[]) ∧ w' = w.setCell ⟨b, 0, none⟩ (.pointer (some ⟨b, 0, none⟩)) := by
  obtain ⟨j, hj, hjs⟩ := Option.map_eq_some_iff.1 sizeB
  go_enter Tryd.func43, Tryd.ntmps43
  go_wp2_with fail
  rw [Lib.run_to_unsafe w ⟨b, 0, none⟩ Tryd.underlying40 Tryd.underlying86 hj (by rw [hjs]; decide) hsh (Nat.zero_lt_succ 1)]
  simp only [Result.andThen]
  rw [Oper.upon_value]
  go_wp2_with fail
  rw [run_callFunc_extern Tryd.func51 (by kernel_rfl) (by kernel_rfl) (by kernel_rfl) (e := Extern.AbiNoEscape.same) (by kernel_rfl)]
  rw [Lib.run_noEscape]
  simp only [Result.andThen]
  rw [Oper.upon_value]
  go_wp2_with fail
  rw [Lib.run_from_unsafe w ⟨b, 0, none⟩ Tryd.underlying86 Tryd.underlying40 hj hsh (by kernel_rfl)]
  simp only [Result.andThen]
  rw [Oper.upon_value]
  go_wp2_with fail
  go_end0
  exact ⟨rfl, rfl⟩
theorem set_WF (B g : Nat) (w : World) (hB : B ≤ g) (i : Nat) (x : Value) : WF B g w (w.setCell ⟨g, i, none⟩ x) :=
  ⟨(Below.refl B w).setCell (p := ⟨g, i, none⟩) hB _, fun k _ hk _ => Below.heap_setCell _ _ _ _ hk⟩
theorem copyCheck_any (B b : Nat) (bs : List Value) (w : World) (h : Lib.IsBuilder 45 5 B b bs w) :
    Calls Tryd.prog 43 #[.pointer (some ⟨b, 0, none⟩)] w fun e w' => e = .returned (.tuple #[]) ∧ (Lib.BuilderAt 45 5 B b (.pointer (some ⟨b, 0, none⟩)) bs w' ∧ WF B b w w') := by
  rcases h with h | h
  · refine (copyCheck_fresh b w h.cell0 h.shape h.frozen0).mono ?_
    rintro e w' ⟨rfl, rfl⟩
    exact ⟨rfl, h.used _, set_WF B b w h.1 0 _⟩
  · refine (copyCheck_used b w h.cell0).mono ?_
    rintro e w' ⟨rfl, rfl⟩
    exact ⟨rfl, h, WF.refl B b _⟩
theorem len_any (B b : Nat) (bs : List Value) (w : World) (h : Lib.IsBuilder 45 5 B b bs w) :
    Calls Tryd.prog 38 #[.pointer (some ⟨b, 0, none⟩)] w fun e w' => e = .returned (.int .i64 (bs.length : Int)) ∧ w' = w := by
  obtain ⟨p, hB, v, hbk, hown, hne⟩ : ∃ p, Lib.BuilderAt 45 5 B b p bs w := by
    rcases h with h | h
    · exact ⟨_, h⟩
    · exact ⟨_, h⟩
  have c1 : w.cell? ⟨b, 1, none⟩ = some v := by rw [Lib.cell_of_heap hbk]; rfl
  obtain ⟨ao, vc, rfl⟩ : ∃ ao vc, v = .slice ao bs.length vc := by
    rcases hown.2 with ⟨hv, h0⟩ | ⟨g, cap, cur, hv, _⟩
    · exact ⟨none, 0, by rw [h0]; exact hv⟩
    · exact ⟨_, _, hv⟩
  clear hbk hown hne h
  go_enter Tryd.func38, Tryd.ntmps38
  go_wp2_with fail
  go_ret
  exact ⟨rfl, rfl⟩
set_option maxHeartbeats 1000000 in
theorem writeString_any (B b : Nat) (bs : List Value) (s : ByteArray) (w : World) (h : Lib.IsBuilder 45 5 B b bs w) (hlen : bs.length + s.size ≤ 140737488355328) (hBw : B ≤ w.heap.size) :
    Calls Tryd.prog 39 #[.pointer (some ⟨b, 0, none⟩), .string s] w fun e w' => e = .returned (.tuple #[.int .i64 s.size, .nilIface]) ∧ (Lib.BuilderAt 45 5 B b (.pointer (some ⟨b, 0, none⟩)) (bs ++ Lib.strCells s) w' ∧ WF B b w w') := by
  obtain ⟨i0, hi0, hz0, hz1, hz2⟩ := info_parts' info5'
  go_enter Tryd.func39, Tryd.ntmps39
  go_wp2_with fail
  refine (copyCheck_any B b bs w h).mono ?_
  rintro e W1 ⟨rfl, h1, hb1⟩
  obtain ⟨hB, v, hbk, hown, hne⟩ := h1
  have hs1 := hb1.below.size
  have BB : Hid (WF B b w W1) := hb1
  have O : Hid (W1.ownsRow B 5 1 v bs.length bs) := hown
  have BK : Hid (W1.heap[b]? = some (.cells #[.pointer (some ⟨b, 0, none⟩), v] 45 (0, 0))) := hbk
  have HN : Hid (v.ownBlock ≠ some b) := hne
  have HBb : Hid (B ≤ b) := hB
  have hlt : b < W1.heap.size := (Array.getElem?_eq_some_iff.1 hbk).1
  have c0 : W1.cell? ⟨b, 0, none⟩ = some (.pointer (some ⟨b, 0, none⟩)) := by rw [Lib.cell_of_heap hbk]; rfl
  have c1 : W1.cell? ⟨b, 1, none⟩ = some v := by rw [Lib.cell_of_heap hbk]; rfl
  clear hb1 hown hne hB hbk
  obtain ⟨ao, vl, vc, rfl⟩ : ∃ ao vl vc, v = .slice ao vl vc := by
    rcases O.out.2 with ⟨hv, _⟩ | ⟨g, cap, cur, hv, _⟩
    · exact ⟨_, _, _, hv⟩
    · exact ⟨_, _, _, hv⟩
  go_wp2_with (at_builtin; refine Lib.wpList_append_own_string _ rfl _ _ 41 9 rfl B 5 i0 Tryd.underlying41 Tryd.underlying9 hi0 hz0 hz1 hz2 _ _ _ rfl O.out s rfl (by unfold maxLen; omega) (by omega) (by omega) ?_; intro v1 w2 hown1 hgrow1 hn1; have O3 : Hid (w2.ownsRow B 5 1 v1 (bs.length + s.size) (bs ++ Lib.strCells s)) := hown1; have G3 : Hid (W1.grownBy w2 (Value.slice ao vl vc).ownBlock) := hgrow1; have BK2 : Hid (w2.heap[b]? = some (.cells #[.pointer (some ⟨b, 0, none⟩), .slice ao vl vc] 45 (0, 0))) := (by show _ = _; rw [hgrow1.block b hlt (fun e => HN.out e.symm)]; exact BK.out); have d0 : w2.cell? ⟨b, 0, none⟩ = some (.pointer (some ⟨b, 0, none⟩)) := (by rw [Lib.cell_of_heap BK2.out]; rfl); have d1 : w2.cell? ⟨b, 1, none⟩ = some (.slice ao vl vc) := (by rw [Lib.cell_of_heap BK2.out]; rfl); have f1 : w2.frozen? ⟨b, 1, none⟩ = false := Lib.frozen_of_heap BK2.out 1; obtain ⟨ao', n', cap', rfl⟩ : ∃ ao n cap, v1 = .slice ao n cap := (by rcases hown1.2 with ⟨hv, _⟩ | ⟨g, cap, cur, hv, _⟩ <;> exact ⟨_, _, _, hv⟩); clear hown1 hgrow1 hn1 c0 c1)
  go_ret2
  refine ⟨rfl, ?_, ?_⟩
  · exact Lib.BuilderAt.put (T := 45) (e := 5) HBb.out BK2.out (bs' := bs ++ Lib.strCells s) (by simpa [Lib.strCells_length] using O3.out) (by decide)
  · refine BB.out.trans (WF.trans (v := w2) ⟨?_, ?_⟩ (set_WF B b w2 HBb.out 1 _))
    · exact (Below.refl B W1).grown G3.out (by omega) (fun k hk => (O.out.lt k hk).1)
    · intro k hk hkb h5
      refine G3.out.block k hk (fun e => ?_)
      rcases O.out.2 with ⟨hv, _⟩ | ⟨g, cap, cur, hv, _, hg, _⟩
      · rw [hv] at e; cases e
      · rw [hv] at e
        simp only [Value.ownBlock, Option.some.injEq] at e
        subst e
        exact h5 _ _ hg
/-- What is thrown. -/
abbrev thr (k : Nat) : Ending := .panicked [{ v := .iface 25 (.int .i64 (k : Int)), recovered := false }]
/-- A writing ends. -/
def WEnd (B g : Nat) (w : World) (r : WR) (e : Ending) (w' : World) : Prop := WF B g w w' ∧ (match r with
  | .ok b => e = .returned (.tuple #[]) ∧ Wr B g b w'
  | .err k => e = thr k)
set_option maxHeartbeats 1000000 in
theorem add_any (B g : Nat) (l t : List UInt8) (w : World) (h : Wr B g l w) (hl : l.length ≤ 1048576) (ht : t.length ≤ 1048576) (hBw : B ≤ w.heap.size) :
    Calls Tryd.prog 34 #[.pointer (some ⟨g, 0, none⟩), S t] w fun e w' => WEnd B g w (addP l t) e w' := by
  have hL := len_any B g _ w h
  have hbl := Lib.byteCells_length l
  rw [hbl] at hL
  have hsz := size_S t
  have HW : Hid (Wr B g l w) := h
  clear h
  rcases addP_cases l t with ⟨h1, e1⟩ | ⟨h1, e1⟩
  · rw [e1]
    have h1' : (1048576 : Int) < (l.length : Int) + (t.length : Int) := by omega
    clear e1
    go_enter Tryd.func34, Tryd.ntmps34
    go_wp2_with (go_at_call 38; refine hL.mono ?_; rintro e w1 ⟨rfl, rfl⟩)
    exact ⟨rfl, WF.refl B g _, rfl⟩
  · rw [e1]
    have h1' : ¬ (1048576 : Int) < (l.length : Int) + (t.length : Int) := by omega
    have hS := writeString_any B g _ ⟨t.toArray⟩ w HW.out (by rw [hbl, hsz]; omega) hBw
    rw [strCells_S] at hS
    clear e1
    go_enter Tryd.func34, Tryd.ntmps34
    go_wp2_with (first | (go_at_call 38; refine hL.mono ?_; rintro e w1 ⟨rfl, rfl⟩) | (go_at_call 39; refine hS.mono ?_; rintro e w2 ⟨rfl, hb2, hw2⟩))
    go_end0
    refine ⟨hw2, rfl, Or.inr ?_⟩
    have e2 : Lib.byteCells (l ++ t) = Lib.byteCells l ++ Lib.byteCells t := by simp [Lib.byteCells]
    rw [e2]
    exact hb2
end Go.Proofs.YtlogilmeefcipaaDoor
