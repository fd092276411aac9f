/- The walks of stirFour and unstirFour: four places of an array of sixteen words, stirred or taken back; nothing else turns. -/
import Derived.Test.YteomefhjglnghaaDoorFRounds
import Derived.BigRegion
import Derived.BigQuiet
import Derived.Deep.QuietTactic
set_option linter.unusedSimpArgs false
set_option linter.unusedVariables false
set_option maxRecDepth 100000
namespace Go.Proofs.YteomefhjglnghaaDoor.F
open Go.RowKit

set_option maxHeartbeats 1000000 in
theorem stirFour_cells (b p0 p1 p2 p3 : Nat) (x0 x1 x2 x3 x y : UInt32) (w : World) (hb : b < w.heap.size)
    (l0 : p0 < 16) (l1 : p1 < 16) (l2 : p2 < 16) (l3 : p3 < 16)
    (n01 : p0 ≠ p1) (n02 : p0 ≠ p2) (n03 : p0 ≠ p3) (n12 : p1 ≠ p2) (n13 : p1 ≠ p3) (n23 : p2 ≠ p3)
    (c0 : w.cell? ⟨b, p0, none⟩ = some (U x0)) (c1 : w.cell? ⟨b, p1, none⟩ = some (U x1)) (c2 : w.cell? ⟨b, p2, none⟩ = some (U x2)) (c3 : w.cell? ⟨b, p3, none⟩ = some (U x3))
    (f0 : w.frozen? ⟨b, p0, none⟩ = false) (f1 : w.frozen? ⟨b, p1, none⟩ = false) (f2 : w.frozen? ⟨b, p2, none⟩ = false) (f3 : w.frozen? ⟨b, p3, none⟩ = false) :
    Calls Tryd.prog 58 #[.pointer (some ⟨b, 0, none⟩), .agg #[B8 p0, B8 p1, B8 p2, B8 p3], U x, U y] w fun e w' => e = .returned (.tuple #[]) ∧ ∃ n, w' = (put4 (w.alloc (.cells #[B8 p0, B8 p1, B8 p2, B8 p3] 106)) b p0 p1 p2 p3 (st4 ⟨x0, x1, x2, x3⟩ x y)).drewN n := by
  have hne : ¬ b = w.heap.size := by omega
  go_enter Tryd.func58, Tryd.ntmps58
  go_wp2_with fail
  go_quiet (fail)
  go_wp2_with fail
  refine (half_16 _ _ _ _ _ _).mono ?_
  rintro e w' ⟨rfl, rfl⟩
  generalize h1 : hf 16 12 _ x = q1
  have H1 : Hid (hf 16 12 _ x = q1) := h1
  clear h1
  go_wp2_with fail
  refine (half_8 _ _ _ _ _ _).mono ?_
  rintro e w' ⟨rfl, rfl⟩
  generalize h2 : hf 8 7 _ y = q2
  have H2 : Hid (hf 8 7 q1 y = q2) := h2
  clear h2
  go_wp2_with fail
  obtain ⟨w1, hw1⟩ : ∃ w1, w1 = (w.alloc (.cells #[B8 p0, B8 p1, B8 p2, B8 p3] 106)).drewN nq := ⟨_, rfl⟩
  have d0 : w1.cell? ⟨b, p0, none⟩ = some (U x0) := by rw [hw1, World.cell?_drewN, World.cell?_alloc_past _ _ _ hb]; exact c0
  have g0 : w1.frozen? ⟨b, p0, none⟩ = false := by rw [hw1, World.frozen?_drewN, World.frozen?_alloc_past _ _ _ hb]; exact f0
  have e0 : w1.cell? ⟨w.heap.size, 0, none⟩ = some (B8 p0) := by rw [hw1]; simp
  have d1 : w1.cell? ⟨b, p1, none⟩ = some (U x1) := by rw [hw1, World.cell?_drewN, World.cell?_alloc_past _ _ _ hb]; exact c1
  have g1 : w1.frozen? ⟨b, p1, none⟩ = false := by rw [hw1, World.frozen?_drewN, World.frozen?_alloc_past _ _ _ hb]; exact f1
  have e1 : w1.cell? ⟨w.heap.size, 1, none⟩ = some (B8 p1) := by rw [hw1]; simp
  have d2 : w1.cell? ⟨b, p2, none⟩ = some (U x2) := by rw [hw1, World.cell?_drewN, World.cell?_alloc_past _ _ _ hb]; exact c2
  have g2 : w1.frozen? ⟨b, p2, none⟩ = false := by rw [hw1, World.frozen?_drewN, World.frozen?_alloc_past _ _ _ hb]; exact f2
  have e2 : w1.cell? ⟨w.heap.size, 2, none⟩ = some (B8 p2) := by rw [hw1]; simp
  have d3 : w1.cell? ⟨b, p3, none⟩ = some (U x3) := by rw [hw1, World.cell?_drewN, World.cell?_alloc_past _ _ _ hb]; exact c3
  have g3 : w1.frozen? ⟨b, p3, none⟩ = false := by rw [hw1, World.frozen?_drewN, World.frozen?_alloc_past _ _ _ hb]; exact f3
  have e3 : w1.cell? ⟨w.heap.size, 3, none⟩ = some (B8 p3) := by rw [hw1]; simp
  rw [← hw1]
  have HW : Hid (w1 = (w.alloc (.cells #[B8 p0, B8 p1, B8 p2, B8 p3] 106)).drewN nq) := hw1
  clear hw1 c0 c1 c2 c3 f0 f1 f2 f3 hb
  generalize w.heap.size = bp at *
  go_region
  go_end0
  refine ⟨rfl, nq + 1, ?_⟩
  have e : st4 ⟨x0, x1, x2, x3⟩ x y = q2 := by rw [← H2.out, ← H1.out]; rfl
  rw [e, HW.out]
  rfl

/-- The same of an array that is known whole. -/
theorem stirFour_any (b p0 p1 p2 p3 : Nat) (t : TypeId) (l : List UInt32) (x y : UInt32) (w : World) (h : Holds w b t l) (hl : l.length = 16)
    (l0 : p0 < 16) (l1 : p1 < 16) (l2 : p2 < 16) (l3 : p3 < 16)
    (n01 : p0 ≠ p1) (n02 : p0 ≠ p2) (n03 : p0 ≠ p3) (n12 : p1 ≠ p2) (n13 : p1 ≠ p3) (n23 : p2 ≠ p3) :
    Calls Tryd.prog 58 #[.pointer (some ⟨b, 0, none⟩), .agg #[B8 p0, B8 p1, B8 p2, B8 p3], U x, U y] w fun e w' => e = .returned (.tuple #[]) ∧
      Holds w' b t (set4 l p0 p1 p2 p3 (st4 (at4 l p0 p1 p2 p3) x y)) ∧ But b w w' := by
  refine (stirFour_cells b p0 p1 p2 p3 (l.getD p0 0) (l.getD p1 0) (l.getD p2 0) (l.getD p3 0) x y w h.lt l0 l1 l2 l3 n01 n02 n03 n12 n13 n23
    (h.cell _ (by omega)) (h.cell _ (by omega)) (h.cell _ (by omega)) (h.cell _ (by omega)) (h.frozen _) (h.frozen _) (h.frozen _) (h.frozen _)).mono ?_
  rintro e w' ⟨rfl, n, rfl⟩
  exact ⟨rfl, ((h.alloc _).put4 _ _ _ _ _).drewN n, (((But.refl b w).alloc _).put4 _ _ _ _ _).drewN n⟩

end Go.Proofs.YteomefhjglnghaaDoor.F
