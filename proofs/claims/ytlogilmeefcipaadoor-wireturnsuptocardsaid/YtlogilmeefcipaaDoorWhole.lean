/- The reader's whole; what is thrown by it. -/
import Derived.Test.YtlogilmeefcipaaDoorNodeL
import Derived.Defers
import Derived.Recover
set_option linter.unusedSimpArgs false
set_option linter.unusedVariables false
set_option maxRecDepth 100000
namespace Go.Proofs.YtlogilmeefcipaaDoor
open Go.RowKit Go.Deep Go.PlainAid Go.Shelf

theorem NAt.form {w : World} {F : Nat → Prop} {n : Nd} {a b c : Value} (h : NAt w F n a b c) : ∃ ab bb ca cm cc, a = .bool ab ∧ b = .string bb ∧ c = .slice ca cm cc := by
  cases h <;> exact ⟨_, _, _, _, _, rfl, rfl, rfl⟩
/-- The node that a text is. -/
def parsP (l : List UInt8) : Option Nd := match nodeP 12 l with
  | some (n, []) => some n
  | _ => none
/-- What whole ends with. -/
def WholeE (l : List UInt8) (F : Nat → Prop) (e : Ending) (w' : World) : Prop := match parsP l with
  | none => e = thrF
  | some n => ∃ a b c, e = .returned (.agg #[a, b, c]) ∧ NAt w' F n a b c
set_option maxHeartbeats 1000000 in
theorem whole_any (l : List UInt8) (g : Nat) (w : World) (hl : l.length ≤ 1048576) (hr : IHolds w g 50 [S l]) :
    Calls Tryd.prog 24 #[.pointer (some ⟨g, 0, none⟩)] w fun e w' => But g w w' ∧ WholeE l (fun k => w.heap.size ≤ k) e w' := by
  have R0 : Hid (IHolds (w.alloc zN) g 50 [S l]) := hr.alloc _
  have B0 : Hid (But g w (w.alloc zN)) := But.of_below ((Below.refl _ w).alloc (Nat.le_refl _) _)
  have N0 : Hid (IHolds (w.alloc zN) w.heap.size 24 [.bool false, .string ⟨#[]⟩, .slice none 0 0]) := heap_alloc_new w _
  have hS : (w.alloc zN).heap.size = w.heap.size + 1 := by simp
  have lt := hr.lt
  clear hr
  have hn := rnode_any 12 (Nat.le_refl _) l g (w.alloc zN) hl R0.out
  have e12 : 12 - ((12 : Nat) : Int) = 0 := rfl
  rw [e12] at hn
  unfold WholeE parsP
  cases hp : nodeP 12 l with
  | none =>
    simp only [hp] at hn
    simp only []
    clear hp
    go_enter Tryd.func24, Tryd.ntmps24
    go_wp2_with (go_at_call 35; refine hn.mono ?_; rintro e w1 ⟨hB1, rfl⟩)
    exact ⟨rfl, B0.out.trans hB1, rfl⟩
  | some p =>
    obtain ⟨n, r⟩ := p
    simp only [hp] at hn
    clear hp
    cases r with
    | cons x r =>
      simp only []
      go_enter Tryd.func24, Tryd.ntmps24
      go_wp2_with (go_at_call 35; refine hn.mono ?_; rintro e w1 ⟨hB1, hR1, a, b, c, rfl, hN1⟩; obtain ⟨ab, bb, ca, cm, cc, rfl, rfl, rfl⟩ := hN1.form; have d0 : w1.cell? ⟨g, 0, none⟩ = some (S (x :: r)) := hR1.cell 0 (by simp); have g1 := hR1.lt; have R1 : Hid (IHolds w1 g 50 [S (x :: r)]) := hR1; have B1 : Hid (But g (w.alloc zN) w1) := hB1; clear hR1 hB1 hN1)
      exact ⟨rfl, (B0.out.trans B1.out).trans (But.of_below ((Below.refl _ w1).alloc (Nat.le_refl _) _)), rfl⟩
    | nil =>
      simp only []
      go_enter Tryd.func24, Tryd.ntmps24
      go_wp2_with (go_at_call 35; refine hn.mono ?_; rintro e w1 ⟨hB1, hR1, a, b, c, rfl, hN1⟩; obtain ⟨ab, bb, ca, cm, cc, rfl, rfl, rfl⟩ := hN1.form; have d0 : w1.cell? ⟨g, 0, none⟩ = some (S []) := hR1.cell 0 (by simp); have g1 := hR1.lt; have R1 : Hid (IHolds w1 g 50 [S []]) := hR1; have B1 : Hid (But g (w.alloc zN) w1) := hB1; have K1 : Hid (NAt w1 (fun k => w.heap.size + 1 ≤ k) n (.bool ab) (.string bb) (.slice ca cm cc)) := (by rw [hS] at hN1; exact hN1); have M2 : Hid (IHolds w1 w.heap.size 24 [.bool false, .string ⟨#[]⟩, .slice none 0 0]) := (by show IHolds _ _ _ _; unfold IHolds; rw [hB1.block w.heap.size (by omega) (by omega)]; exact N0.out); have m1 := M2.out.lt; have m2 : ¬ w1.heap.size = w.heap.size := (by omega); have m3 : ¬ w.heap.size = w1.heap.size := (by omega); have c0 : w1.cell? ⟨w.heap.size, 0, none⟩ = some (.bool false) := M2.out.cell 0 (by simp); have c1 : w1.cell? ⟨w.heap.size, 1, none⟩ = some (.string ⟨#[]⟩) := M2.out.cell 1 (by simp); have c2 : w1.cell? ⟨w.heap.size, 2, none⟩ = some (.slice none 0 0) := M2.out.cell 2 (by simp); have f0 : w1.frozen? ⟨w.heap.size, 0, none⟩ = false := M2.out.frozen 0; have f1 : w1.frozen? ⟨w.heap.size, 1, none⟩ = false := M2.out.frozen 1; have f2 : w1.frozen? ⟨w.heap.size, 2, none⟩ = false := M2.out.frozen 2; clear hR1 hB1 hN1)
      have P3 := put3 M2.out (.bool ab) (.string bb) (.slice ca cm cc)
      have Q3 := put3_but w1 w.heap.size (.bool ab) (.string bb) (.slice ca cm cc)
      generalize ((w1.setCell ⟨w.heap.size, 0, none⟩ (.bool ab)).setCell ⟨w.heap.size, 1, none⟩ (.string bb)).setCell ⟨w.heap.size, 2, none⟩ (.slice ca cm cc) = w3 at *
      have hs3 := Q3.size
      have K3 := K1.out.keep (w' := w3.alloc (.cells #[.bool ab, .string bb, .slice ca cm cc] 24)) (G := fun k => w.heap.size ≤ k) (by simp; omega) (fun k h _ => by omega) (fun k h1 h2 => by rw [Lib.alloc_old w3 _ k (by omega), Q3.block k h2 (by omega)])
      have J3 : But g w (w3.alloc (.cells #[.bool ab, .string bb, .slice ca cm cc] 24)) := (B0.out.join B1.out Q3 (Nat.le_refl _)).trans (But.of_below ((Below.refl _ w3).alloc (Nat.le_refl _) _))
      exact bodyPost_ret (v := .agg #[.bool ab, .string bb, .slice ca cm cc]) (results_cell_row Tryd.results24 _ _ w.heap.size 24 #[.bool ab, .string bb, .slice ca cm cc] (0, 0) _ rfl (P3.alloc _) Tryd.underlying24 rfl size24) rfl ⟨J3, _, _, _, rfl, K3⟩
theorem But.below {g B : Nat} {w w' : World} (h : But g w w') (hB : B ≤ g) (hs : B ≤ w.heap.size) : Below B w w' := ⟨h.os, h.tape, h.output, h.size, fun k hk => h.block k (by omega) (by omega)⟩
/-- Nothing but two blocks has turned. -/
structure But2 (g h : Nat) (w w' : World) : Prop where
  os : w'.os = w.os
  tape : w'.tape = w.tape
  output : w'.output = w.output
  size : w.heap.size ≤ w'.heap.size
  block : ∀ k, k < w.heap.size → k ≠ g → k ≠ h → w'.heap[k]? = w.heap[k]?
theorem But2.below {g h B : Nat} {w w' : World} (a : But2 g h w w') (hg : B ≤ g) (hh : B ≤ h) (hs : B ≤ w.heap.size) : Below B w w' := ⟨a.os, a.tape, a.output, a.size, fun k hk => a.block k (by omega) (by omega) (by omega)⟩
theorem But.two {g h : Nat} {w w1 w2 : World} (a : But g w w1) (b : But h w1 w2) : But2 g h w w2 := ⟨b.os.trans a.os, b.tape.trans a.tape, b.output.trans a.output, Nat.le_trans a.size b.size, fun k hk k1 k2 => (b.block k (Nat.lt_of_lt_of_le hk a.size) k2).trans (a.block k hk k1)⟩
set_option maxHeartbeats 1000000 in
theorem par1_any (l : List UInt8) (g h : Nat) (w : World) (hl : l.length ≤ 1048576) (hr : IHolds w g 50 [S l]) (x y z : Value) (hh : IHolds w h 24 [x, y, z]) (hne : g ≠ h) :
    Calls Tryd.prog 23 #[.pointer (some ⟨g, 0, none⟩), .pointer (some ⟨h, 0, none⟩)] w fun e w' => But2 g h w w' ∧ (match parsP l with
      | none => e = thrF
      | some n => e = .returned (.tuple #[]) ∧ ∃ a b c, IHolds w' h 24 [a, b, c] ∧ NAt w' (fun k => w.heap.size ≤ k) n a b c) := by
  have hw := whole_any l g w hl hr
  unfold WholeE at hw
  have hgl := hr.lt
  have hhl := hh.lt
  have H0 : Hid (IHolds w h 24 [x, y, z]) := hh
  clear hh
  cases hp : parsP l with
  | none =>
    simp only [hp] at hw
    simp only []
    clear hp hr
    go_enter Tryd.func23, Tryd.ntmps23
    go_wp2_with (go_at_call 24; refine hw.mono ?_; rintro e w1 ⟨hB1, rfl⟩)
    exact ⟨rfl, hB1.two (But.refl h w1), rfl⟩
  | some n =>
    simp only [hp] at hw
    simp only []
    clear hp hr
    go_enter Tryd.func23, Tryd.ntmps23
    go_wp2_with (go_at_call 24; refine hw.mono ?_; rintro e w1 ⟨hB1, a, b, c, rfl, hN1⟩; obtain ⟨ab, bb, ca, cm, cc, rfl, rfl, rfl⟩ := hN1.form; have B1 : Hid (But g w w1) := hB1; have K1 : Hid (NAt w1 (fun k => w.heap.size ≤ k) n (.bool ab) (.string bb) (.slice ca cm cc)) := hN1; have M2 : Hid (IHolds w1 h 24 [x, y, z]) := (by show IHolds _ _ _ _; unfold IHolds; rw [hB1.block h hhl (by omega)]; exact H0.out); have c0 : w1.cell? ⟨h, 0, none⟩ = some x := M2.out.cell 0 (by simp); have c1 : w1.cell? ⟨h, 1, none⟩ = some y := M2.out.cell 1 (by simp); have c2 : w1.cell? ⟨h, 2, none⟩ = some z := M2.out.cell 2 (by simp); have f0 : w1.frozen? ⟨h, 0, none⟩ = false := M2.out.frozen 0; have f1 : w1.frozen? ⟨h, 1, none⟩ = false := M2.out.frozen 1; have f2 : w1.frozen? ⟨h, 2, none⟩ = false := M2.out.frozen 2; clear hN1 hB1)
    have P3 := put3 M2.out (.bool ab) (.string bb) (.slice ca cm cc)
    have Q3 := put3_but w1 h (.bool ab) (.string bb) (.slice ca cm cc)
    generalize ((w1.setCell ⟨h, 0, none⟩ (.bool ab)).setCell ⟨h, 1, none⟩ (.string bb)).setCell ⟨h, 2, none⟩ (.slice ca cm cc) = w3 at *
    have hs3 := Q3.size
    have hs1 := B1.out.size
    have K3 := K1.out.keep (w' := w3) (G := fun k => w.heap.size ≤ k) (by omega) (fun k h _ => h) (fun k h1 h2 => by rw [Q3.block k h2 (by omega)])
    have J3 : But2 g h w w3 := B1.out.two Q3
    exact ⟨rfl, .tuple #[], by simp [results, Tryd.results23], J3, rfl, _, _, _, P3, K3⟩
set_option maxHeartbeats 1000000 in
theorem thrown_any (l : List UInt8) (g h B : Nat) (w : World) (hl : l.length ≤ 1048576) (hr : IHolds w g 50 [S l]) (x y z : Value) (hh : IHolds w h 24 [x, y, z]) (hg : B ≤ g) (hhB : B ≤ h) (hne : g ≠ h) :
    Calls Tryd.prog 18 #[.func (.func 23) #[] #[.pointer (some ⟨g, 0, none⟩), .pointer (some ⟨h, 0, none⟩)]] w fun e w' => Below B w w' ∧ (match parsP l with
      | none => e = .returned (.int .i64 2)
      | some n => e = .returned (.int .i64 0) ∧ ∃ a b c, IHolds w' h 24 [a, b, c] ∧ NAt w' (fun k => w.heap.size ≤ k) n a b c) := by
  have hmf : ∀ (fn : Fn) (first cap : Array Value) (w : World), (Instr.makeFunc fn first cap).run Tryd.prog w = .ok (.func fn first cap) w := fun _ _ _ _ => rfl
  have hgl := hr.lt
  have hhl := hh.lt
  have hp1 := par1_any l g h (w.alloc (.cells #[.int .i64 0] 25)) hl (hr.alloc _) x y z (hh.alloc _) hne
  have E0 : Hid (IHolds (w.alloc (.cells #[.int .i64 0] 25)) w.heap.size 25 [.int .i64 0]) := heap_alloc_new w _
  have B0 : Hid (Below B w (w.alloc (.cells #[.int .i64 0] 25))) := (Below.refl _ w).alloc (by omega) _
  have hS : (w.alloc (.cells #[.int .i64 0] 25)).heap.size = w.heap.size + 1 := by simp
  clear hr hh
  cases hp : parsP l with
  | none =>
    simp only [hp] at hp1
    simp only []
    clear hp
    go_enter_defers Tryd.func18, Tryd.ntmps18
    go_wp2_with (go_at_call 23; refine hp1.mono ?_; rintro e w1 ⟨hB1, rfl⟩)
    have E1 : IHolds w1 w.heap.size 25 [.int .i64 0] := by unfold IHolds; rw [hB1.block w.heap.size (by omega) (by omega) (by omega)]; exact E0.out
    refine leaves_cons (f := 32) (args := #[.pointer (some ⟨w.heap.size, 0, none⟩)]) (by simp) (by simp [go_sem]) ?_
    refine (catch_panicking ⟨w.heap.size, 0, none⟩ (.int .i64 0) 2 _ (E1.cell 0 (by simp)) (E1.frozen 0)).mono ?_
    rintro e u' w'' ⟨rfl, rfl, rfl⟩
    have E2 := E1.set 0 (.int .i64 2)
    have Q2 := (But.refl w.heap.size w1).setCell 0 (.int .i64 2)
    generalize w1.setCell ⟨w.heap.size, 0, none⟩ (.int .i64 2) = w2 at *
    have c2 : w2.cell? ⟨w.heap.size, 0, none⟩ = some (.int .i64 2) := E2.cell 0 (by simp)
    have J : Below B w w2 := B0.out.trans ((hB1.below hg hhB (by omega)).trans (Q2.below (by omega) (by have := hB1.size; omega)))
    simp [Leaves, settle, results, Tryd.results18, go_sem, c2]
    exact J
  | some n =>
    simp only [hp] at hp1
    simp only []
    clear hp
    go_enter_defers Tryd.func18, Tryd.ntmps18
    go_wp2_with (go_at_call 23; refine hp1.mono ?_; rintro e w1 ⟨hB1, rfl, a, b, c, hh1, hN1⟩; have E1 : Hid (IHolds w1 w.heap.size 25 [.int .i64 0]) := (by show IHolds _ _ _ _; unfold IHolds; rw [hB1.block w.heap.size (by omega) (by omega) (by omega)]; exact E0.out); have c0 : w1.cell? ⟨w.heap.size, 0, none⟩ = some (.int .i64 0) := E1.out.cell 0 (by simp); have f0 : w1.frozen? ⟨w.heap.size, 0, none⟩ = false := E1.out.frozen 0)
    have E2 := E1.out.set 0 (.int .i64 0)
    have Q2 := (But.refl w.heap.size w1).setCell 0 (.int .i64 0)
    generalize w1.setCell ⟨w.heap.size, 0, none⟩ (.int .i64 0) = w2 at *
    have c2 : w2.cell? ⟨w.heap.size, 0, none⟩ = some (.int .i64 0) := E2.cell 0 (by simp)
    have J : Below B w w2 := B0.out.trans ((hB1.below hg hhB (by omega)).trans (Q2.below (by omega) (by have := hB1.size; omega)))
    have hs2 := Q2.size
    have H2 : IHolds w2 h 24 [a, b, c] := by unfold IHolds; rw [Q2.block h hh1.lt (by omega)]; exact hh1
    have K2 := hN1.keep (w' := w2) (G := fun k => w.heap.size ≤ k) (by omega) (fun k h _ => by omega) (fun k h1 h2 => by rw [Q2.block k h2 (by omega)])
    refine leaves_cons (f := 32) (args := #[.pointer (some ⟨w.heap.size, 0, none⟩)]) (by simp) (by simp [go_sem]) ?_
    refine (catch_idle ⟨w.heap.size, 0, none⟩ _).mono ?_
    rintro e u' w'' ⟨rfl, rfl, rfl⟩
    simp [Leaves, settle, results, Tryd.results18, go_sem, c2]
    exact ⟨J, a, b, c, H2, K2⟩
end Go.Proofs.YtlogilmeefcipaaDoor
