/- What is thrown by the writer. -/
import Derived.Test.YtlogilmeefcipaaDoorPrNodeL
import Derived.Defers
import Derived.Recover
set_option linter.unusedSimpArgs false
set_option linter.unusedVariables false
set_option maxRecDepth 100000
namespace Go.Proofs.YtlogilmeefcipaaDoor
open Go.RowKit Go.Deep Go.PlainAid

theorem WF.put {B g k : Nat} {w W : World} (h : WF B g w W) (hk : w.heap.size ≤ k) (hB : B ≤ k) (i : Nat) (x : Value) : WF B g w (W.setCell ⟨k, i, none⟩ x) := by
  refine ⟨h.below.trans ((Below.refl B W).setCell (p := ⟨k, i, none⟩) hB _), fun j hj hg h5 => ?_⟩
  rw [Below.heap_setCell _ _ _ _ (show j ≠ k by omega)]
  exact h.other j hj hg h5
theorem Wr.put {B g k : Nat} {l : List UInt8} {W : World} {t : TypeId} {cs : List Value} (h : Wr B g l W) (hk : IHolds W k t cs) (ht : t ≠ 5) (hg : k ≠ g) (i : Nat) (x : Value) : Wr B g l (W.setCell ⟨k, i, none⟩ x) := by
  have key : ∀ p, Lib.BuilderAt 45 5 B g p (Lib.byteCells l) W → Lib.BuilderAt 45 5 B g p (Lib.byteCells l) (W.setCell ⟨k, i, none⟩ x) := by
    intro p h
    obtain ⟨hB, v, hbk, hown, hne⟩ := h
    refine ⟨hB, v, by rw [Below.heap_setCell _ _ _ _ (show g ≠ k by omega)]; exact hbk, ⟨hown.1, ?_⟩, hne⟩
    rcases hown.2 with h | ⟨q, cap, cur, h1, h2, h3, h4⟩
    · exact Or.inl h
    · refine Or.inr ⟨q, cap, cur, h1, h2, ?_, h4⟩
      rw [Below.heap_setCell _ _ _ _ (show q ≠ k from fun e => by
        subst e
        unfold IHolds at hk
        rw [hk] at h3
        simp only [Option.some.injEq, Obj.cells.injEq] at h3
        exact ht h3.2.1)]
      exact h3
  rcases h with h | h
  · exact Or.inl (key _ h)
  · exact Or.inr (key _ h)
set_option maxHeartbeats 1000000 in
theorem print1_any {w0 : World} {n : Gn} {a b c : Value} (hP : Pows w0) (hn : GAt w0 n a b c) (g h : Nat) (hk : bk [n] ≤ 1048576) (w : World) (hw : Below w0.heap.size w0 w) (hW : Wr w0.heap.size g [] w) (hh : IHolds w h 24 [a, b, c]) :
    Calls Tryd.prog 19 #[.pointer (some ⟨g, 0, none⟩), .pointer (some ⟨h, 0, none⟩)] w fun e w' => WEnd w0.heap.size g w (wrs 0 [n] []) e w' := by
  have hN := node_any hP hn g hk 0 (by omega) [] (by simp) w hw hW
  rw [show ((0 : Nat) : Int) = 0 from rfl] at hN
  obtain ⟨ab, bb, ca, cm, cc, rfl, rfl, rfl⟩ := hn.form
  have d0 : w.cell? ⟨h, 0, none⟩ = some (.bool ab) := hh.cell 0 (by simp)
  have d1 : w.cell? ⟨h, 1, none⟩ = some (.string bb) := hh.cell 1 (by simp)
  have d2 : w.cell? ⟨h, 2, none⟩ = some (.slice ca cm cc) := hh.cell 2 (by simp)
  clear hh hW
  cases hr : wrs 0 [n] [] with
  | err k =>
    rw [hr] at hN
    clear hr
    go_enter Tryd.func19, Tryd.ntmps19
    go_wp2_with (go_at_call 20; refine hN.mono ?_; rintro e w1 ⟨hf1, rfl⟩)
    exact ⟨rfl, hf1, rfl⟩
  | ok b =>
    rw [hr] at hN
    clear hr
    go_enter Tryd.func19, Tryd.ntmps19
    go_wp2_with (go_at_call 20; refine hN.mono ?_; rintro e w1 ⟨hf1, rfl, hw1⟩)
    go_end0
    exact ⟨hf1, rfl, hw1⟩
theorem catch_panicking (p : Addr) (x : Value) (er : Int) (w : World) (hc : w.cell? p = some x) (hz : w.frozen? p = false) :
    CallsD Tryd.prog 32 #[.pointer (some p)] (.panicking [{ v := .iface 25 (.int .i64 er), recovered := false }]) w fun e u' w' =>
      e = .returned (.tuple #[]) ∧ u' = .panicking [{ v := .iface 25 (.int .i64 er), recovered := true }] ∧ w' = w.setCell p (.int .i64 er) := by
  have hta : (Instr.typeAssert (.iface 25 (.int .i64 er)) 20 25 false).run Tryd.prog w = .ok (.int .i64 er) w := rfl
  refine callsD_of_wpS Tryd.func32 rfl fun c₀ cs hu => ?_
  apply wpS_seq
  apply wpS_region
  simp [wpOpsS, go_sem, recoverD, hu, Tryd.ntmps32, Exit.thenS]
  have e : (#[Value.pointer (some p)] ++ ((Array.replicate 6 undef).setIfInBounds 1 (Value.iface 25 (Value.int IntKind.i64 er))).setIfInBounds 0 (Value.iface 25 (Value.int IntKind.i64 er))) = #[Value.pointer (some p), Value.iface 25 (Value.int IntKind.i64 er), Value.iface 25 (Value.int IntKind.i64 er), undef, undef, undef, undef] := rfl
  rw [e]
  refine wpS_of_wp ?_
  go_wp2
  exact ⟨rfl, _, rfl, .tuple #[], by simp [results, Tryd.results32], rfl, rfl, rfl⟩
theorem catch_idle (p : Addr) (w : World) :
    CallsD Tryd.prog 32 #[.pointer (some p)] .returning w fun e u' w' => e = .returned (.tuple #[]) ∧ u' = .returning ∧ w' = w := by
  refine callsD_of_wpS Tryd.func32 rfl fun c₀ cs hu => ?_
  apply wpS_seq
  apply wpS_region
  simp [wpOpsS, go_sem, recoverD, hu, Tryd.ntmps32, Exit.thenS]
  have e : (#[Value.pointer (some p)] ++ ((Array.replicate 6 undef).setIfInBounds 1 Value.nilIface).setIfInBounds 0 Value.nilIface) = #[Value.pointer (some p), Value.nilIface, Value.nilIface, undef, undef, undef, undef] := rfl
  rw [e]
  refine wpS_of_wp ?_
  go_wp2
  cases c₀
  simp only at hu
  subst hu
  exact ⟨rfl, _, rfl, .tuple #[], by simp [results, Tryd.results32], rfl, rfl, rfl⟩
set_option maxHeartbeats 1000000 in
theorem thrownPr_any {w0 : World} {n : Gn} {a b c : Value} (hP : Pows w0) (hn : GAt w0 n a b c) (g h : Nat) (hk : bk [n] ≤ 1048576) (w : World) (hw : Below w0.heap.size w0 w) (hW : Wr w0.heap.size g [] w) (hh : IHolds w h 24 [a, b, c]) :
    Calls Tryd.prog 18 #[.func (.func 19) #[] #[.pointer (some ⟨g, 0, none⟩), .pointer (some ⟨h, 0, none⟩)]] w fun e w' => WF w0.heap.size g w w' ∧ (match wrs 0 [n] [] with
      | .ok b => e = .returned (.int .i64 0) ∧ Wr w0.heap.size g b w'
      | .err k => e = .returned (.int .i64 (k : Int))) := by
  have hmf : ∀ (fn : Fn) (first cap : Array Value) (w : World), (Instr.makeFunc fn first cap).run Tryd.prog w = .ok (.func fn first cap) w := fun _ _ _ _ => rfl
  have hge := hW.ge
  have J0 : Below w.heap.size w (w.alloc (.cells #[.int .i64 0] 25)) := (Below.refl _ w).alloc (Nat.le_refl _) _
  have hp1 := print1_any hP hn g h hk (w.alloc (.cells #[.int .i64 0] 25)) (hw.trans (J0.mono hw.size)) (hW.keep J0) (hh.alloc _)
  have E0 : Hid (IHolds (w.alloc (.cells #[.int .i64 0] 25)) w.heap.size 25 [.int .i64 0]) := IHolds.new' w 25 [.int .i64 0] rfl
  have F0 : Hid (WF w0.heap.size g w (w.alloc (.cells #[.int .i64 0] 25))) := WF.of_below J0 (by omega)
  have hS : (w.alloc (.cells #[.int .i64 0] 25)).heap.size = w.heap.size + 1 := by simp
  clear hh hW J0
  cases hr : wrs 0 [n] [] with
  | err k =>
    rw [hr] at hp1
    simp only []
    clear hr
    go_enter_defers Tryd.func18, Tryd.ntmps18
    go_wp2_with (go_at_call 19; refine hp1.mono ?_; rintro e w1 ⟨hf1, rfl⟩)
    have E1 : IHolds w1 w.heap.size 25 [.int .i64 0] := hf1.keep E0.out (by omega) (by decide)
    refine leaves_cons (f := 32) (args := #[.pointer (some ⟨w.heap.size, 0, none⟩)]) (by simp) (by simp [go_sem]) ?_
    refine (catch_panicking ⟨w.heap.size, 0, none⟩ (.int .i64 0) (k : Int) _ (E1.cell 0 (by simp)) (E1.frozen 0)).mono ?_
    rintro e u' w'' ⟨rfl, rfl, rfl⟩
    have E2 := E1.set 0 (.int .i64 (k : Int))
    have Q2 := (F0.out.trans hf1).put (Nat.le_refl _) (by omega) 0 (.int .i64 (k : Int))
    generalize w1.setCell ⟨w.heap.size, 0, none⟩ (.int .i64 (k : Int)) = w2 at *
    have c2 : w2.cell? ⟨w.heap.size, 0, none⟩ = some (.int .i64 (k : Int)) := E2.cell 0 (by simp)
    simp [Leaves, settle, results, Tryd.results18, go_sem, c2]
    exact Q2
  | ok b =>
    rw [hr] at hp1
    simp only []
    clear hr
    go_enter_defers Tryd.func18, Tryd.ntmps18
    go_wp2_with (go_at_call 19; refine hp1.mono ?_; rintro e w1 ⟨hf1, rfl, hw1⟩; have E1 : Hid (IHolds w1 w.heap.size 25 [.int .i64 0]) := hf1.keep E0.out (by omega) (by decide); have c0 : w1.cell? ⟨w.heap.size, 0, none⟩ = some (.int .i64 0) := E1.out.cell 0 (by simp); have f0 : w1.frozen? ⟨w.heap.size, 0, none⟩ = false := E1.out.frozen 0)
    have E2 := E1.out.set 0 (.int .i64 0)
    have Q2 := (F0.out.trans hf1).put (Nat.le_refl _) (by omega) 0 (.int .i64 0)
    have W2 := hw1.put E1.out (by decide) (by omega) 0 (.int .i64 0)
    generalize w1.setCell ⟨w.heap.size, 0, none⟩ (.int .i64 0) = w2 at *
    have c2 : w2.cell? ⟨w.heap.size, 0, none⟩ = some (.int .i64 0) := E2.cell 0 (by simp)
    refine leaves_cons (f := 32) (args := #[.pointer (some ⟨w.heap.size, 0, none⟩)]) (by simp) (by simp [go_sem]) ?_
    refine (catch_idle ⟨w.heap.size, 0, none⟩ _).mono ?_
    rintro e u' w'' ⟨rfl, rfl, rfl⟩
    simp [Leaves, settle, results, Tryd.results18, go_sem, c2]
    exact ⟨Q2, W2⟩
end Go.Proofs.YtlogilmeefcipaaDoor
