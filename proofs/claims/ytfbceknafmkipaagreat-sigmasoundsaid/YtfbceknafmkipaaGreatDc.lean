/- Claims that are no set, and what is asked of them. -/
import Derived.Test.YtfbceknafmkipaaGreatDb
import Derived.Test.YtfbceknafmkipaaGreatCf
set_option linter.unusedSimpArgs false
set_option linter.unusedVariables false
set_option maxRecDepth 100000
namespace Go.Proofs.YtfbceknafmkipaaGreat
open Go.RowKit Go.Deep Go.PlainAid

set_option maxHeartbeats 2000000 in
theorem set18_A {w : World} {a : Option Addr} {n c : Nat} {z : Int} (g1 : (64 : Int) < (n : Int))  :
    Calls Tryz.prog 31 #[.agg #[.int .i64 z], .slice a n c] w fun e w' => e = .returned (.tuple #[.agg #[.int .i64 0, .slice none 0 0], .int .i64 3]) ∧ Below w.heap.size w w' := by
  have hmf : ∀ (fn : Fn) (first cap : Array Value) (w : World), (Instr.makeFunc fn first cap).run Tryz.prog w = .ok (.func fn first cap) w := fun _ _ _ _ => rfl
  generalize hW : (w.alloc (.cells #[.int .i64 z] 39)).alloc (.cells #[.int .i64 0, .slice none 0 0] 41) = U
  have B : Hid (Below w.heap.size w U) := by rw [← hW]; exact ((Below.refl _ w).alloc (Nat.le_refl _) _).alloc (by simp) _
  have J0 : Hid (IHolds U w.heap.size 39 [.int .i64 z]) := by rw [← hW]; exact (IHolds.new w 39 [.int .i64 z]).alloc _
  have K0 : Hid (IHolds U (w.heap.size + 1) 41 [.int .i64 0, .slice none 0 0]) := by rw [← hW]; exact IHolds.new' _ 41 [_, _] (by simp)
  go_enter Tryz.func31, Tryz.ntmps31
  have r0 : U.cell? ⟨w.heap.size + 1, 0, none⟩ = some (.int .i64 0) := K0.out.cell 0 (by simp)
  have s0 : U.cell? ⟨w.heap.size + 1, 1, none⟩ = some (.slice none 0 0) := K0.out.cell 1 (by simp)
  have f0 := K0.out.frozen
  go_wp2_with fail
  have I9 : Hid (IHolds ((U.setCell ⟨w.heap.size + 1, 0, none⟩ (.int .i64 0)).setCell ⟨w.heap.size + 1, 1, none⟩ (.slice none 0 0)) (w.heap.size + 1) 41 [.int .i64 0, .slice none 0 0]) := (K0.out.set 0 (.int .i64 0)).set 1 (.slice none 0 0)
  have B9 : Hid (Below w.heap.size w ((U.setCell ⟨w.heap.size + 1, 0, none⟩ (.int .i64 0)).setCell ⟨w.heap.size + 1, 1, none⟩ (.slice none 0 0))) := (B.out.setCell (by simp) _).setCell (by simp) _
  generalize (U.setCell ⟨w.heap.size + 1, 0, none⟩ (.int .i64 0)).setCell ⟨w.heap.size + 1, 1, none⟩ (.slice none 0 0) = w9 at *
  have E0 : w9.cell? ⟨w.heap.size + 1, 0, none⟩ = some (.int .i64 0) := I9.out.cell 0 (by simp)
  have E1 : w9.cell? ⟨w.heap.size + 1, 1, none⟩ = some (.slice none 0 0) := I9.out.cell 1 (by simp)
  exact bodyPost_ret (v := .tuple #[.agg #[.int .i64 0, .slice none 0 0], .int .i64 3]) (by simp [results, Tryz.results31, go_sem, E0, E1]) rfl ⟨rfl, B9.out⟩
set_option maxHeartbeats 2000000 in
theorem set18_B {w : World} {a : Option Addr} {n c : Nat} {z : Int} (g1 : ¬ (64 : Int) < (n : Int)) (H1 : Hid (∀ W, Below w.heap.size w W → Calls Tryz.prog 61 #[.slice a n c, .func (.func 62) #[] #[]] W fun e w' => e = .returned (.bool true) ∧ Below W.heap.size W w')) :
    Calls Tryz.prog 31 #[.agg #[.int .i64 z], .slice a n c] w fun e w' => e = .returned (.tuple #[.agg #[.int .i64 0, .slice none 0 0], .int .i64 3]) ∧ Below w.heap.size w w' := by
  have hmf : ∀ (fn : Fn) (first cap : Array Value) (w : World), (Instr.makeFunc fn first cap).run Tryz.prog w = .ok (.func fn first cap) w := fun _ _ _ _ => rfl
  generalize hW : (w.alloc (.cells #[.int .i64 z] 39)).alloc (.cells #[.int .i64 0, .slice none 0 0] 41) = U
  have B : Hid (Below w.heap.size w U) := by rw [← hW]; exact ((Below.refl _ w).alloc (Nat.le_refl _) _).alloc (by simp) _
  have J0 : Hid (IHolds U w.heap.size 39 [.int .i64 z]) := by rw [← hW]; exact (IHolds.new w 39 [.int .i64 z]).alloc _
  have K0 : Hid (IHolds U (w.heap.size + 1) 41 [.int .i64 0, .slice none 0 0]) := by rw [← hW]; exact IHolds.new' _ 41 [_, _] (by simp)
  go_enter Tryz.func31, Tryz.ntmps31
  have r0 : U.cell? ⟨w.heap.size + 1, 0, none⟩ = some (.int .i64 0) := K0.out.cell 0 (by simp)
  have s0 : U.cell? ⟨w.heap.size + 1, 1, none⟩ = some (.slice none 0 0) := K0.out.cell 1 (by simp)
  have f0 := K0.out.frozen
  go_wp2_with (go_at_call 61; first
    | (have zz := B.out; clear zz; refine (H1.out _ B.out).mono ?_; rintro e w1 ⟨rfl, hB1⟩; have B1 : Hid (Below w.heap.size w w1) := B.out.trans (hB1.mono B.out.size); have J1 : Hid (IHolds w1 w.heap.size 39 [.int .i64 z]) := J0.out.of_below hB1; have K1 : Hid (IHolds w1 (w.heap.size + 1) 41 [.int .i64 0, .slice none 0 0]) := K0.out.of_below hB1; have q1 : w1.cell? ⟨w.heap.size, 0, none⟩ = some (.int .i64 z) := J1.out.cell 0 (by simp); have r1 : w1.cell? ⟨w.heap.size + 1, 0, none⟩ = some (.int .i64 0) := K1.out.cell 0 (by simp); have s1 : w1.cell? ⟨w.heap.size + 1, 1, none⟩ = some (.slice none 0 0) := K1.out.cell 1 (by simp); have f1 := K1.out.frozen; clear hB1 H1 B))
  have I9 : Hid (IHolds ((w1.setCell ⟨w.heap.size + 1, 0, none⟩ (.int .i64 0)).setCell ⟨w.heap.size + 1, 1, none⟩ (.slice none 0 0)) (w.heap.size + 1) 41 [.int .i64 0, .slice none 0 0]) := (K1.out.set 0 (.int .i64 0)).set 1 (.slice none 0 0)
  have B9 : Hid (Below w.heap.size w ((w1.setCell ⟨w.heap.size + 1, 0, none⟩ (.int .i64 0)).setCell ⟨w.heap.size + 1, 1, none⟩ (.slice none 0 0))) := (B1.out.setCell (by simp) _).setCell (by simp) _
  generalize (w1.setCell ⟨w.heap.size + 1, 0, none⟩ (.int .i64 0)).setCell ⟨w.heap.size + 1, 1, none⟩ (.slice none 0 0) = w9 at *
  have E0 : w9.cell? ⟨w.heap.size + 1, 0, none⟩ = some (.int .i64 0) := I9.out.cell 0 (by simp)
  have E1 : w9.cell? ⟨w.heap.size + 1, 1, none⟩ = some (.slice none 0 0) := I9.out.cell 1 (by simp)
  exact bodyPost_ret (v := .tuple #[.agg #[.int .i64 0, .slice none 0 0], .int .i64 3]) (by simp [results, Tryz.results31, go_sem, E0, E1]) rfl ⟨rfl, B9.out⟩
set_option maxHeartbeats 2000000 in
theorem set18_C {w : World} {a : Option Addr} {n c : Nat} {z : Int} (g1 : ¬ (64 : Int) < (n : Int)) (g2 : ((n : Int) == 0) = true) (H1 : Hid (∀ W, Below w.heap.size w W → Calls Tryz.prog 61 #[.slice a n c, .func (.func 62) #[] #[]] W fun e w' => e = .returned (.bool false) ∧ Below W.heap.size W w')) :
    Calls Tryz.prog 31 #[.agg #[.int .i64 z], .slice a n c] w fun e w' => e = .returned (.tuple #[.agg #[.int .i64 0, .slice none 0 0], .int .i64 2]) ∧ Below w.heap.size w w' := by
  have hmf : ∀ (fn : Fn) (first cap : Array Value) (w : World), (Instr.makeFunc fn first cap).run Tryz.prog w = .ok (.func fn first cap) w := fun _ _ _ _ => rfl
  generalize hW : (w.alloc (.cells #[.int .i64 z] 39)).alloc (.cells #[.int .i64 0, .slice none 0 0] 41) = U
  have B : Hid (Below w.heap.size w U) := by rw [← hW]; exact ((Below.refl _ w).alloc (Nat.le_refl _) _).alloc (by simp) _
  have J0 : Hid (IHolds U w.heap.size 39 [.int .i64 z]) := by rw [← hW]; exact (IHolds.new w 39 [.int .i64 z]).alloc _
  have K0 : Hid (IHolds U (w.heap.size + 1) 41 [.int .i64 0, .slice none 0 0]) := by rw [← hW]; exact IHolds.new' _ 41 [_, _] (by simp)
  go_enter Tryz.func31, Tryz.ntmps31
  have r0 : U.cell? ⟨w.heap.size + 1, 0, none⟩ = some (.int .i64 0) := K0.out.cell 0 (by simp)
  have s0 : U.cell? ⟨w.heap.size + 1, 1, none⟩ = some (.slice none 0 0) := K0.out.cell 1 (by simp)
  have f0 := K0.out.frozen
  go_wp2_with (go_at_call 61; first
    | (have zz := B.out; clear zz; refine (H1.out _ B.out).mono ?_; rintro e w1 ⟨rfl, hB1⟩; have B1 : Hid (Below w.heap.size w w1) := B.out.trans (hB1.mono B.out.size); have J1 : Hid (IHolds w1 w.heap.size 39 [.int .i64 z]) := J0.out.of_below hB1; have K1 : Hid (IHolds w1 (w.heap.size + 1) 41 [.int .i64 0, .slice none 0 0]) := K0.out.of_below hB1; have q1 : w1.cell? ⟨w.heap.size, 0, none⟩ = some (.int .i64 z) := J1.out.cell 0 (by simp); have r1 : w1.cell? ⟨w.heap.size + 1, 0, none⟩ = some (.int .i64 0) := K1.out.cell 0 (by simp); have s1 : w1.cell? ⟨w.heap.size + 1, 1, none⟩ = some (.slice none 0 0) := K1.out.cell 1 (by simp); have f1 := K1.out.frozen; clear hB1 H1 B))
  have I9 : Hid (IHolds ((w1.setCell ⟨w.heap.size + 1, 0, none⟩ (.int .i64 0)).setCell ⟨w.heap.size + 1, 1, none⟩ (.slice none 0 0)) (w.heap.size + 1) 41 [.int .i64 0, .slice none 0 0]) := (K1.out.set 0 (.int .i64 0)).set 1 (.slice none 0 0)
  have B9 : Hid (Below w.heap.size w ((w1.setCell ⟨w.heap.size + 1, 0, none⟩ (.int .i64 0)).setCell ⟨w.heap.size + 1, 1, none⟩ (.slice none 0 0))) := (B1.out.setCell (by simp) _).setCell (by simp) _
  generalize (w1.setCell ⟨w.heap.size + 1, 0, none⟩ (.int .i64 0)).setCell ⟨w.heap.size + 1, 1, none⟩ (.slice none 0 0) = w9 at *
  have E0 : w9.cell? ⟨w.heap.size + 1, 0, none⟩ = some (.int .i64 0) := I9.out.cell 0 (by simp)
  have E1 : w9.cell? ⟨w.heap.size + 1, 1, none⟩ = some (.slice none 0 0) := I9.out.cell 1 (by simp)
  exact bodyPost_ret (v := .tuple #[.agg #[.int .i64 0, .slice none 0 0], .int .i64 2]) (by simp [results, Tryz.results31, go_sem, E0, E1]) rfl ⟨rfl, B9.out⟩
set_option maxHeartbeats 2000000 in
theorem set18_D {w : World} {a : Option Addr} {n c : Nat} {z : Int} (g1 : ¬ (64 : Int) < (n : Int)) (g2 : ((n : Int) == 0) = false) (H1 : Hid (∀ W, Below w.heap.size w W → Calls Tryz.prog 61 #[.slice a n c, .func (.func 62) #[] #[]] W fun e w' => e = .returned (.bool false) ∧ Below W.heap.size W w')) (H2 : Hid (∀ W, Below w.heap.size w W → Calls Tryz.prog 61 #[.slice a n c, .func (.func 63) #[] #[]] W fun e w' => e = .returned (.bool true) ∧ Below W.heap.size W w')) :
    Calls Tryz.prog 31 #[.agg #[.int .i64 z], .slice a n c] w fun e w' => e = .returned (.tuple #[.agg #[.int .i64 0, .slice none 0 0], .int .i64 2]) ∧ Below w.heap.size w w' := by
  have hmf : ∀ (fn : Fn) (first cap : Array Value) (w : World), (Instr.makeFunc fn first cap).run Tryz.prog w = .ok (.func fn first cap) w := fun _ _ _ _ => rfl
  generalize hW : (w.alloc (.cells #[.int .i64 z] 39)).alloc (.cells #[.int .i64 0, .slice none 0 0] 41) = U
  have B : Hid (Below w.heap.size w U) := by rw [← hW]; exact ((Below.refl _ w).alloc (Nat.le_refl _) _).alloc (by simp) _
  have J0 : Hid (IHolds U w.heap.size 39 [.int .i64 z]) := by rw [← hW]; exact (IHolds.new w 39 [.int .i64 z]).alloc _
  have K0 : Hid (IHolds U (w.heap.size + 1) 41 [.int .i64 0, .slice none 0 0]) := by rw [← hW]; exact IHolds.new' _ 41 [_, _] (by simp)
  go_enter Tryz.func31, Tryz.ntmps31
  have r0 : U.cell? ⟨w.heap.size + 1, 0, none⟩ = some (.int .i64 0) := K0.out.cell 0 (by simp)
  have s0 : U.cell? ⟨w.heap.size + 1, 1, none⟩ = some (.slice none 0 0) := K0.out.cell 1 (by simp)
  have f0 := K0.out.frozen
  go_wp2_with (go_at_call 61; first
    | (have zz := B.out; clear zz; refine (H1.out _ B.out).mono ?_; rintro e w1 ⟨rfl, hB1⟩; have B1 : Hid (Below w.heap.size w w1) := B.out.trans (hB1.mono B.out.size); have J1 : Hid (IHolds w1 w.heap.size 39 [.int .i64 z]) := J0.out.of_below hB1; have K1 : Hid (IHolds w1 (w.heap.size + 1) 41 [.int .i64 0, .slice none 0 0]) := K0.out.of_below hB1; have q1 : w1.cell? ⟨w.heap.size, 0, none⟩ = some (.int .i64 z) := J1.out.cell 0 (by simp); have r1 : w1.cell? ⟨w.heap.size + 1, 0, none⟩ = some (.int .i64 0) := K1.out.cell 0 (by simp); have s1 : w1.cell? ⟨w.heap.size + 1, 1, none⟩ = some (.slice none 0 0) := K1.out.cell 1 (by simp); have f1 := K1.out.frozen; clear hB1 H1 B)
    | (have zz := B1.out; clear zz; refine (H2.out _ B1.out).mono ?_; rintro e w2 ⟨rfl, hB2⟩; have B2 : Hid (Below w.heap.size w w2) := B1.out.trans (hB2.mono B1.out.size); have J2 : Hid (IHolds w2 w.heap.size 39 [.int .i64 z]) := J1.out.of_below hB2; have K2 : Hid (IHolds w2 (w.heap.size + 1) 41 [.int .i64 0, .slice none 0 0]) := K1.out.of_below hB2; have q2 : w2.cell? ⟨w.heap.size, 0, none⟩ = some (.int .i64 z) := J2.out.cell 0 (by simp); have r2 : w2.cell? ⟨w.heap.size + 1, 0, none⟩ = some (.int .i64 0) := K2.out.cell 0 (by simp); have s2 : w2.cell? ⟨w.heap.size + 1, 1, none⟩ = some (.slice none 0 0) := K2.out.cell 1 (by simp); have f2 := K2.out.frozen; clear hB2 H2 B1))
  have I9 : Hid (IHolds ((w2.setCell ⟨w.heap.size + 1, 0, none⟩ (.int .i64 0)).setCell ⟨w.heap.size + 1, 1, none⟩ (.slice none 0 0)) (w.heap.size + 1) 41 [.int .i64 0, .slice none 0 0]) := (K2.out.set 0 (.int .i64 0)).set 1 (.slice none 0 0)
  have B9 : Hid (Below w.heap.size w ((w2.setCell ⟨w.heap.size + 1, 0, none⟩ (.int .i64 0)).setCell ⟨w.heap.size + 1, 1, none⟩ (.slice none 0 0))) := (B2.out.setCell (by simp) _).setCell (by simp) _
  generalize (w2.setCell ⟨w.heap.size + 1, 0, none⟩ (.int .i64 0)).setCell ⟨w.heap.size + 1, 1, none⟩ (.slice none 0 0) = w9 at *
  have E0 : w9.cell? ⟨w.heap.size + 1, 0, none⟩ = some (.int .i64 0) := I9.out.cell 0 (by simp)
  have E1 : w9.cell? ⟨w.heap.size + 1, 1, none⟩ = some (.slice none 0 0) := I9.out.cell 1 (by simp)
  exact bodyPost_ret (v := .tuple #[.agg #[.int .i64 0, .slice none 0 0], .int .i64 2]) (by simp [results, Tryz.results31, go_sem, E0, E1]) rfl ⟨rfl, B9.out⟩
set_option maxHeartbeats 2000000 in
theorem set18_E {w : World} {a : Option Addr} {n c : Nat} {z : Int} (g1 : ¬ (64 : Int) < (n : Int)) (g2 : ((n : Int) == 0) = false) (H1 : Hid (∀ W, Below w.heap.size w W → Calls Tryz.prog 61 #[.slice a n c, .func (.func 62) #[] #[]] W fun e w' => e = .returned (.bool false) ∧ Below W.heap.size W w')) (H2 : Hid (∀ W, Below w.heap.size w W → Calls Tryz.prog 61 #[.slice a n c, .func (.func 63) #[] #[]] W fun e w' => e = .returned (.bool false) ∧ Below W.heap.size W w')) (H3 : Hid (∀ W, Below w.heap.size w W → Calls Tryz.prog 61 #[.slice a n c, .func (.func 64) #[.agg #[.int .i64 z]] #[]] W fun e w' => e = .returned (.bool true) ∧ Below W.heap.size W w')) :
    Calls Tryz.prog 31 #[.agg #[.int .i64 z], .slice a n c] w fun e w' => e = .returned (.tuple #[.agg #[.int .i64 0, .slice none 0 0], .int .i64 7]) ∧ Below w.heap.size w w' := by
  have hmf : ∀ (fn : Fn) (first cap : Array Value) (w : World), (Instr.makeFunc fn first cap).run Tryz.prog w = .ok (.func fn first cap) w := fun _ _ _ _ => rfl
  generalize hW : (w.alloc (.cells #[.int .i64 z] 39)).alloc (.cells #[.int .i64 0, .slice none 0 0] 41) = U
  have B : Hid (Below w.heap.size w U) := by rw [← hW]; exact ((Below.refl _ w).alloc (Nat.le_refl _) _).alloc (by simp) _
  have J0 : Hid (IHolds U w.heap.size 39 [.int .i64 z]) := by rw [← hW]; exact (IHolds.new w 39 [.int .i64 z]).alloc _
  have K0 : Hid (IHolds U (w.heap.size + 1) 41 [.int .i64 0, .slice none 0 0]) := by rw [← hW]; exact IHolds.new' _ 41 [_, _] (by simp)
  go_enter Tryz.func31, Tryz.ntmps31
  have r0 : U.cell? ⟨w.heap.size + 1, 0, none⟩ = some (.int .i64 0) := K0.out.cell 0 (by simp)
  have s0 : U.cell? ⟨w.heap.size + 1, 1, none⟩ = some (.slice none 0 0) := K0.out.cell 1 (by simp)
  have f0 := K0.out.frozen
  go_wp2_with (go_at_call 61; first
    | (have zz := B.out; clear zz; refine (H1.out _ B.out).mono ?_; rintro e w1 ⟨rfl, hB1⟩; have B1 : Hid (Below w.heap.size w w1) := B.out.trans (hB1.mono B.out.size); have J1 : Hid (IHolds w1 w.heap.size 39 [.int .i64 z]) := J0.out.of_below hB1; have K1 : Hid (IHolds w1 (w.heap.size + 1) 41 [.int .i64 0, .slice none 0 0]) := K0.out.of_below hB1; have q1 : w1.cell? ⟨w.heap.size, 0, none⟩ = some (.int .i64 z) := J1.out.cell 0 (by simp); have r1 : w1.cell? ⟨w.heap.size + 1, 0, none⟩ = some (.int .i64 0) := K1.out.cell 0 (by simp); have s1 : w1.cell? ⟨w.heap.size + 1, 1, none⟩ = some (.slice none 0 0) := K1.out.cell 1 (by simp); have f1 := K1.out.frozen; clear hB1 H1 B)
    | (have zz := B1.out; clear zz; refine (H2.out _ B1.out).mono ?_; rintro e w2 ⟨rfl, hB2⟩; have B2 : Hid (Below w.heap.size w w2) := B1.out.trans (hB2.mono B1.out.size); have J2 : Hid (IHolds w2 w.heap.size 39 [.int .i64 z]) := J1.out.of_below hB2; have K2 : Hid (IHolds w2 (w.heap.size + 1) 41 [.int .i64 0, .slice none 0 0]) := K1.out.of_below hB2; have q2 : w2.cell? ⟨w.heap.size, 0, none⟩ = some (.int .i64 z) := J2.out.cell 0 (by simp); have r2 : w2.cell? ⟨w.heap.size + 1, 0, none⟩ = some (.int .i64 0) := K2.out.cell 0 (by simp); have s2 : w2.cell? ⟨w.heap.size + 1, 1, none⟩ = some (.slice none 0 0) := K2.out.cell 1 (by simp); have f2 := K2.out.frozen; clear hB2 H2 B1)
    | (have zz := B2.out; clear zz; refine (H3.out _ B2.out).mono ?_; rintro e w3 ⟨rfl, hB3⟩; have B3 : Hid (Below w.heap.size w w3) := B2.out.trans (hB3.mono B2.out.size); have J3 : Hid (IHolds w3 w.heap.size 39 [.int .i64 z]) := J2.out.of_below hB3; have K3 : Hid (IHolds w3 (w.heap.size + 1) 41 [.int .i64 0, .slice none 0 0]) := K2.out.of_below hB3; have q3 : w3.cell? ⟨w.heap.size, 0, none⟩ = some (.int .i64 z) := J3.out.cell 0 (by simp); have r3 : w3.cell? ⟨w.heap.size + 1, 0, none⟩ = some (.int .i64 0) := K3.out.cell 0 (by simp); have s3 : w3.cell? ⟨w.heap.size + 1, 1, none⟩ = some (.slice none 0 0) := K3.out.cell 1 (by simp); have f3 := K3.out.frozen; clear hB3 H3 B2))
  have I9 : Hid (IHolds ((w3.setCell ⟨w.heap.size + 1, 0, none⟩ (.int .i64 0)).setCell ⟨w.heap.size + 1, 1, none⟩ (.slice none 0 0)) (w.heap.size + 1) 41 [.int .i64 0, .slice none 0 0]) := (K3.out.set 0 (.int .i64 0)).set 1 (.slice none 0 0)
  have B9 : Hid (Below w.heap.size w ((w3.setCell ⟨w.heap.size + 1, 0, none⟩ (.int .i64 0)).setCell ⟨w.heap.size + 1, 1, none⟩ (.slice none 0 0))) := (B3.out.setCell (by simp) _).setCell (by simp) _
  generalize (w3.setCell ⟨w.heap.size + 1, 0, none⟩ (.int .i64 0)).setCell ⟨w.heap.size + 1, 1, none⟩ (.slice none 0 0) = w9 at *
  have E0 : w9.cell? ⟨w.heap.size + 1, 0, none⟩ = some (.int .i64 0) := I9.out.cell 0 (by simp)
  have E1 : w9.cell? ⟨w.heap.size + 1, 1, none⟩ = some (.slice none 0 0) := I9.out.cell 1 (by simp)
  exact bodyPost_ret (v := .tuple #[.agg #[.int .i64 0, .slice none 0 0], .int .i64 7]) (by simp [results, Tryz.results31, go_sem, E0, E1]) rfl ⟨rfl, B9.out⟩
/-- Claims are a set, or something is wrong with them. -/
theorem set18_any {w : World} {a : Option Addr} {l : List Cl} {c : Nat} {z : Int} {p : ByteArray → Bool} (hl : l.length ≤ 9223372036854775807) (hll : ∀ i (h : i < l.length), (l[i]).1.length ≤ 9223372036854775807 ∧ (l[i]).2.length ≤ 9223372036854775807) (hs : CM w a l)
    (CN : ∀ s W, Calls Tryz.prog 113 #[.agg #[.int .i64 z], .string s] W fun e w' => e = .returned (.bool (!p s)) ∧ Below W.heap.size W w') :
    OkC p l ∨ ∃ k : Int, (k == 0) = false ∧ (k != 0) = true ∧ ∀ W, Below w.heap.size w W → Calls Tryz.prog 31 #[.agg #[.int .i64 z], .slice a l.length c] W fun e w' => e = .returned (.tuple #[.agg #[.int .i64 0, .slice none 0 0], .int .i64 k]) ∧ Below W.heap.size W w' := by
  have H1 : ∀ X, Below w.heap.size w X → ∀ W, Below X.heap.size X W → Calls Tryz.prog 61 #[.slice a l.length c, .func (.func 62) #[] #[]] W fun e w' => e = .returned (.bool (l.any tooL)) ∧ Below W.heap.size W w' := fun X hX W hB => contains37_38 tooL hl ((hs.of_below hX).of_below hB) (fun i hi a1 c1 a2 c2 V hV h1 h2 => tooLong38)
  have H2 : ∀ X, Below w.heap.size w X → ∀ W, Below X.heap.size X W → Calls Tryz.prog 61 #[.slice a l.length c, .func (.func 63) #[] #[]] W fun e w' => e = .returned (.bool (l.any unev)) ∧ Below W.heap.size W w' := fun X hX W hB => contains37_39 unev hl ((hs.of_below hX).of_below hB) (fun i hi a1 c1 a2 c2 V hV h1 h2 => uneven39)
  have H3 : ∀ X, Below w.heap.size w X → ∀ W, Below X.heap.size X W → Calls Tryz.prog 61 #[.slice a l.length c, .func (.func 64) #[.agg #[.int .i64 z]] #[]] W fun e w' => e = .returned (.bool (l.any (stra p))) ∧ Below W.heap.size W w' := fun X hX W hB => contains37_40 (stra p) hl ((hs.of_below hX).of_below hB) (fun i hi a1 c1 a2 c2 V hV h1 h2 => strange40 (hll i hi).1 (hll i hi).2 h1 h2 CN)
  by_cases h64 : 64 < l.length
  · exact Or.inr ⟨3, rfl, rfl, fun W hB => set18_A (by omega)⟩
  cases t1 : l.any tooL with
  | true => rw [t1] at H1; exact Or.inr ⟨3, rfl, rfl, fun W hB => set18_B (by omega) (H1 W hB)⟩
  | false =>
    rw [t1] at H1
    by_cases h0 : l.length = 0
    · exact Or.inr ⟨2, rfl, rfl, fun W hB => set18_C (by omega) (by rw [h0]; rfl) (H1 W hB)⟩
    have g2 : ((l.length : Int) == 0) = false := beq_eq_false_iff_ne.2 (by omega)
    cases t2 : l.any unev with
    | true => rw [t2] at H2; exact Or.inr ⟨2, rfl, rfl, fun W hB => set18_D (by omega) g2 (H1 W hB) (H2 W hB)⟩
    | false =>
      rw [t2] at H2
      cases t3 : l.any (stra p) with
      | true => rw [t3] at H3; exact Or.inr ⟨7, rfl, rfl, fun W hB => set18_E (by omega) g2 (H1 W hB) (H2 W hB) (H3 W hB)⟩
      | false =>
        refine Or.inl ⟨by omega, by omega, fun i hi => ?_, fun i hi => ?_⟩
        · have a1 := List.any_eq_false.1 t1 l[i] (List.getElem_mem hi)
          have a2 := List.any_eq_false.1 t2 l[i] (List.getElem_mem hi)
          unfold tooL at a1
          unfold unev at a2
          simp only [Bool.or_eq_true, decide_eq_true_eq, not_or] at a1 a2
          omega
        · have a3 := List.any_eq_false.1 t3 l[i] (List.getElem_mem hi)
          unfold stra at a3
          generalize (l[i]).1.all p = x at *
          generalize (l[i]).2.all p = y at *
          revert a3
          cases x <;> cases y <;> decide
set_option maxHeartbeats 2000000 in
theorem setOf9_bad {w : World} {a : Option Addr} {n c : Nat} {z k : Int} (CG : ∀ W, Calls Tryz.prog 30 #[.int .i64 z] W fun e w' => e = .returned (.tuple #[.agg #[.int .i64 z], .int .i64 0]) ∧ Below W.heap.size W w')
    (CS : ∀ W, Below w.heap.size w W → Calls Tryz.prog 31 #[.agg #[.int .i64 z], .slice a n c] W fun e w' => e = .returned (.tuple #[.agg #[.int .i64 0, .slice none 0 0], .int .i64 k]) ∧ Below W.heap.size W w') :
    Calls Tryz.prog 14 #[.int .i64 z, .slice a n c] w fun e w' => e = .returned (.tuple #[.agg #[.int .i64 0, .slice none 0 0], .int .i64 k]) ∧ Below w.heap.size w w' := by
  have HG : Hid _ := CG
  have HC : Hid _ := CS
  clear CG CS
  generalize hW : w.alloc (.cells #[.int .i64 0, .slice none 0 0] 41) = U
  have B : Hid (Below w.heap.size w U) := by rw [← hW]; exact (Below.refl _ w).alloc (Nat.le_refl _) _
  have I0 : Hid (IHolds U w.heap.size 41 [.int .i64 0, .slice none 0 0]) := by rw [← hW]; exact IHolds.new w 41 [.int .i64 0, .slice none 0 0]
  go_enter Tryz.func14, Tryz.ntmps14
  go_wp2_with (first
    | (go_at_call 30; refine (HG.out _).mono ?_; rintro e w1 ⟨rfl, hB1⟩; have B1 : Hid (Below w.heap.size w (w1.alloc (.cells #[.int .i64 z] 39))) := (B.out.trans (hB1.mono B.out.size)).alloc (B.out.trans (hB1.mono B.out.size)).size _; have J0 : Hid (IHolds (w1.alloc (.cells #[.int .i64 z] 39)) w.heap.size 41 [.int .i64 0, .slice none 0 0]) := (I0.out.of_below hB1).alloc _; clear hB1 HG)
    | (go_at_call 31; refine (HC.out _ B1.out).mono ?_; rintro e w2 ⟨rfl, hB2⟩; have B2 : Hid (Below w.heap.size w w2) := B1.out.trans (hB2.mono B1.out.size); have K0 : Hid (IHolds w2 w.heap.size 41 [.int .i64 0, .slice none 0 0]) := J0.out.of_below hB2; have q0 : w2.cell? ⟨w.heap.size, 0, none⟩ = some (.int .i64 0) := K0.out.cell 0 (by simp); have q1 : w2.cell? ⟨w.heap.size, 1, none⟩ = some (.slice none 0 0) := K0.out.cell 1 (by simp); have f := K0.out.frozen; clear hB2 HC))
  have I9 : Hid (IHolds ((w2.setCell ⟨w.heap.size, 0, none⟩ (.int .i64 0)).setCell ⟨w.heap.size, 1, none⟩ (.slice none 0 0)) w.heap.size 41 [.int .i64 0, .slice none 0 0]) := (K0.out.set 0 (.int .i64 0)).set 1 (.slice none 0 0)
  have B9 : Hid (Below w.heap.size w ((w2.setCell ⟨w.heap.size, 0, none⟩ (.int .i64 0)).setCell ⟨w.heap.size, 1, none⟩ (.slice none 0 0))) := (B2.out.setCell (Nat.le_refl _) _).setCell (Nat.le_refl _) _
  generalize (w2.setCell ⟨w.heap.size, 0, none⟩ (.int .i64 0)).setCell ⟨w.heap.size, 1, none⟩ (.slice none 0 0) = w9 at *
  have E0 : w9.cell? ⟨w.heap.size, 0, none⟩ = some (.int .i64 0) := I9.out.cell 0 (by simp)
  have E1 : w9.cell? ⟨w.heap.size, 1, none⟩ = some (.slice none 0 0) := I9.out.cell 1 (by simp)
  exact bodyPost_ret (v := .tuple #[.agg #[.int .i64 0, .slice none 0 0], .int .i64 k]) (by simp [results, Tryz.results14, go_sem, E0, E1]) rfl ⟨rfl, B9.out⟩
set_option maxHeartbeats 2000000 in
theorem setOf9_none {w : World} {a : Option Addr} {n c : Nat} {z k : Int} (hk : (k != 0) = true) (CG : ∀ W, Calls Tryz.prog 30 #[.int .i64 z] W fun e w' => e = .returned (.tuple #[.agg #[.int .i64 z], .int .i64 k]) ∧ Below W.heap.size W w') :
    Calls Tryz.prog 14 #[.int .i64 z, .slice a n c] w fun e w' => e = .returned (.tuple #[.agg #[.int .i64 0, .slice none 0 0], .int .i64 k]) ∧ Below w.heap.size w w' := by
  have HG : Hid _ := CG
  clear CG
  generalize hW : w.alloc (.cells #[.int .i64 0, .slice none 0 0] 41) = U
  have B : Hid (Below w.heap.size w U) := by rw [← hW]; exact (Below.refl _ w).alloc (Nat.le_refl _) _
  have I0 : Hid (IHolds U w.heap.size 41 [.int .i64 0, .slice none 0 0]) := by rw [← hW]; exact IHolds.new w 41 [.int .i64 0, .slice none 0 0]
  go_enter Tryz.func14, Tryz.ntmps14
  go_wp2_with (go_at_call 30; refine (HG.out _).mono ?_; rintro e w1 ⟨rfl, hB1⟩; have B2 : Hid (Below w.heap.size w (w1.alloc (.cells #[.int .i64 z] 39))) := (B.out.trans (hB1.mono B.out.size)).alloc (B.out.trans (hB1.mono B.out.size)).size _; have K0 : Hid (IHolds (w1.alloc (.cells #[.int .i64 z] 39)) w.heap.size 41 [.int .i64 0, .slice none 0 0]) := (I0.out.of_below hB1).alloc _; have q0 : (w1.alloc (.cells #[.int .i64 z] 39)).cell? ⟨w.heap.size, 0, none⟩ = some (.int .i64 0) := K0.out.cell 0 (by simp); have q1 : (w1.alloc (.cells #[.int .i64 z] 39)).cell? ⟨w.heap.size, 1, none⟩ = some (.slice none 0 0) := K0.out.cell 1 (by simp); have f := K0.out.frozen; clear hB1 HG)
  have I9 : Hid (IHolds (((w1.alloc (.cells #[.int .i64 z] 39)).setCell ⟨w.heap.size, 0, none⟩ (.int .i64 0)).setCell ⟨w.heap.size, 1, none⟩ (.slice none 0 0)) w.heap.size 41 [.int .i64 0, .slice none 0 0]) := (K0.out.set 0 (.int .i64 0)).set 1 (.slice none 0 0)
  have B9 : Hid (Below w.heap.size w (((w1.alloc (.cells #[.int .i64 z] 39)).setCell ⟨w.heap.size, 0, none⟩ (.int .i64 0)).setCell ⟨w.heap.size, 1, none⟩ (.slice none 0 0))) := (B2.out.setCell (Nat.le_refl _) _).setCell (Nat.le_refl _) _
  generalize ((w1.alloc (.cells #[.int .i64 z] 39)).setCell ⟨w.heap.size, 0, none⟩ (.int .i64 0)).setCell ⟨w.heap.size, 1, none⟩ (.slice none 0 0) = w9 at *
  have E0 : w9.cell? ⟨w.heap.size, 0, none⟩ = some (.int .i64 0) := I9.out.cell 0 (by simp)
  have E1 : w9.cell? ⟨w.heap.size, 1, none⟩ = some (.slice none 0 0) := I9.out.cell 1 (by simp)
  exact bodyPost_ret (v := .tuple #[.agg #[.int .i64 0, .slice none 0 0], .int .i64 k]) (by simp [results, Tryz.results14, go_sem, E0, E1]) rfl ⟨rfl, B9.out⟩
theorem wrong10_len {w : World} {a b : Option Addr} {n m c d : Nat} {z : Int} (h : ((m : Int) != (n : Int)) = true) :
    Calls Tryz.prog 20 #[.agg #[.int .i64 z, .slice a n c], .slice b m d] w fun e w' => e = .returned (.int .i64 2) ∧ Below w.heap.size w w' := by
  have B : Hid (Below w.heap.size w (w.alloc (.cells #[.int .i64 z, .slice a n c] 41))) := (Below.refl _ w).alloc (Nat.le_refl _) _
  go_enter Tryz.func20, Tryz.ntmps20
  go_wp2_with fail
  go_ret
  exact ⟨rfl, B.out⟩
set_option maxHeartbeats 2000000 in
theorem back4_bad {w : World} {a b : Option Addr} {n m c d : Nat} {z k : Int} {u : ByteArray} (hk : (k == 0) = false) (hk2 : (k != 0) = true) (C42 : ∀ W, Below w.heap.size w W → Calls Tryz.prog 14 #[.int .i64 z, .slice a n c] W fun e w' => e = .returned (.tuple #[.agg #[.int .i64 0, .slice none 0 0], .int .i64 k]) ∧ Below W.heap.size W w') :
    Calls Tryz.prog 10 #[.int .i64 z, .slice a n c, .string u, .slice b m d] w fun e w' => e = .returned (.tuple #[.slice none 0 0, .int .i64 k]) ∧ Below w.heap.size w w' := by
  have H42 : Hid _ := C42
  clear C42
  go_enter Tryz.func10, Tryz.ntmps10
  go_wp2_with (go_at_call 14; refine (H42.out _ (Below.refl _ _)).mono ?_; rintro e w1 ⟨rfl, hB1⟩; have B1 : Hid (Below w.heap.size w (w1.alloc (.cells #[.int .i64 0, .slice none 0 0] 41))) := hB1.alloc hB1.size _; clear hB1 H42)
  go_ret2
  exact ⟨rfl, B1.out⟩
set_option maxHeartbeats 2000000 in
theorem back4_len {w : World} {a b : Option Addr} {n m c d : Nat} {z k : Int} {u : ByteArray} (hk : (k == 0) = false) (hk2 : (k != 0) = true) (C42 : ∀ W, Below w.heap.size w W → Calls Tryz.prog 14 #[.int .i64 z, .slice a n c] W fun e w' => e = .returned (.tuple #[.agg #[.int .i64 z, .slice a n c], .int .i64 0]) ∧ Below W.heap.size W w') (C43 : ∀ W, Below w.heap.size w W → Calls Tryz.prog 20 #[.agg #[.int .i64 z, .slice a n c], .slice b m d] W fun e w' => e = .returned (.int .i64 k) ∧ Below W.heap.size W w') :
    Calls Tryz.prog 10 #[.int .i64 z, .slice a n c, .string u, .slice b m d] w fun e w' => e = .returned (.tuple #[.slice none 0 0, .int .i64 k]) ∧ Below w.heap.size w w' := by
  have H42 : Hid _ := C42
  have H43 : Hid _ := C43
  clear C42 C43
  go_enter Tryz.func10, Tryz.ntmps10
  go_wp2_with (first | (go_at_call 14; refine (H42.out _ (Below.refl _ _)).mono ?_; rintro e w1 ⟨rfl, hB1⟩; have B1 : Hid (Below w.heap.size w (w1.alloc (.cells #[.int .i64 z, .slice a n c] 41))) := hB1.alloc hB1.size _; have I1 : Hid (IHolds (w1.alloc (.cells #[.int .i64 z, .slice a n c] 41)) w1.heap.size 41 [.int .i64 z, .slice a n c]) := IHolds.new _ _ _; clear hB1 H42) | (go_at_call 20; refine (H43.out _ B1.out).mono ?_; rintro e w2 ⟨rfl, hB2⟩; have B2 : Hid (Below w.heap.size w w2) := B1.out.trans (hB2.mono B1.out.size); clear hB2 H43))
  go_ret2
  exact ⟨rfl, B2.out⟩
end Go.Proofs.YtfbceknafmkipaaGreat
