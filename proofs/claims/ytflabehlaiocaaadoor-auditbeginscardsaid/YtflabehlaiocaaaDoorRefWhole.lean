/- The reference's Whole. -/
import Derived.Test.YtflabehlaiocaaaDoorRefOf
set_option linter.unusedSimpArgs false
set_option linter.unusedVariables false
namespace Go.Proofs.YtflabehlaiocaaaDoor
open Go.RowKit Go.Deep Go.PlainAid

set_option maxRecDepth 100000 in
set_option maxHeartbeats 1000000 in
theorem refWhole_any (w : World) (n : Nat) (hn : n ≤ 1000000) :
    Calls Tryd.prog 17 #[.int .i64 (n : Int)] w fun e w' => (∃ u1 u2, e = .returned (.agg #[u1, u2]) ∧ NumV w' 10 n u1 ∧ NumV w' 10 1 u2) ∧ Below w.heap.size w w' := by
  have C1 : Hid (∀ W, Calls Tryd.prog 35 #[.int .i64 (n : Int)] W fun e w' => (∃ v, e = .returned v ∧ NumV w' 10 n v) ∧ Below W.heap.size W w') := fun W => refOf_any W n hn
  have C2 : Hid (∀ W, Calls Tryd.prog 35 #[.int .i64 1] W fun e w' => (∃ v, e = .returned v ∧ NumV w' 10 1 v) ∧ Below W.heap.size W w') := fun W => refOf_any W 1 (by omega)
  have B0 : Hid (Below w.heap.size w (w.alloc (.cells #[.slice none 0 0, .slice none 0 0] 46))) := (Below.refl _ w).alloc (Nat.le_refl _) _
  have I0 : Hid (IHolds (w.alloc (.cells #[.slice none 0 0, .slice none 0 0] 46)) w.heap.size 46 [.slice none 0 0, .slice none 0 0]) := IHolds.new w 46 _
  go_enter Tryd.func17, Tryd.ntmps17
  go_wp2_with fail
  generalize w.alloc (.cells #[.slice none 0 0, .slice none 0 0] 46) = W0 at *
  refine (C1.out W0).mono ?_
  rintro e W1 ⟨⟨u1, rfl, hv⟩, hb⟩
  have B1 : Hid (Below w.heap.size w W1) := B0.out.trans (hb.mono B0.out.size)
  have I1 : Hid (IHolds W1 w.heap.size 46 [.slice none 0 0, .slice none 0 0]) := I0.out.of_below hb
  have N1 : Hid (NumV W1 10 n u1) := hv
  clear hv hb B0 I0
  go_wp2_with fail
  refine (C2.out W1).mono ?_
  rintro e W2 ⟨⟨u2, rfl, hv⟩, hb⟩
  have B2 : Hid (Below w.heap.size w W2) := B1.out.trans (hb.mono B1.out.size)
  have I2 := I1.out.of_below hb
  have U3 : Hid (NumV W2 10 n u1) := N1.out.of_below hb
  have X3 : Hid (NumV W2 10 1 u2) := hv
  clear hv hb B1 I1 N1
  obtain ⟨x1, L1, k1, rfl⟩ : ∃ a L c, u1 = .slice a L c := by obtain ⟨a, cap, h, _⟩ := U3.out; exact ⟨_, _, _, h⟩
  obtain ⟨x2, L2, k2, rfl⟩ : ∃ a L c, u2 = .slice a L c := by obtain ⟨a, cap, h, _⟩ := X3.out; exact ⟨_, _, _, h⟩
  have c0 : W2.cell? ⟨w.heap.size, 0, none⟩ = some (.slice none 0 0) := I2.cell 0 (by simp)
  have c1 : W2.cell? ⟨w.heap.size, 1, none⟩ = some (.slice none 0 0) := I2.cell 1 (by simp)
  have f0 : ∀ i, W2.frozen? ⟨w.heap.size, i, none⟩ = false := fun i => I2.frozen i
  have I4 := (I2.set 0 (.slice x1 L1 k1)).set 1 (.slice x2 L2 k2)
  have hBut : But w.heap.size W2 ((W2.setCell ⟨w.heap.size, 0, none⟩ (.slice x1 L1 k1)).setCell ⟨w.heap.size, 1, none⟩ (.slice x2 L2 k2)) := ((But.refl _ W2).setCell 0 _).setCell 1 _
  have U4 : Hid (NumV ((W2.setCell ⟨w.heap.size, 0, none⟩ (.slice x1 L1 k1)).setCell ⟨w.heap.size, 1, none⟩ (.slice x2 L2 k2)) 10 n (.slice x1 L1 k1)) := U3.out.apart I2 (by simp) hBut
  have X4 : Hid (NumV ((W2.setCell ⟨w.heap.size, 0, none⟩ (.slice x1 L1 k1)).setCell ⟨w.heap.size, 1, none⟩ (.slice x2 L2 k2)) 10 1 (.slice x2 L2 k2)) := X3.out.apart I2 (by simp) hBut
  have B4 : Hid (Below w.heap.size w ((W2.setCell ⟨w.heap.size, 0, none⟩ (.slice x1 L1 k1)).setCell ⟨w.heap.size, 1, none⟩ (.slice x2 L2 k2))) := (B2.out.setCell (Nat.le_refl _) _).setCell (Nat.le_refl _) _
  have E0 : Hid (((W2.setCell ⟨w.heap.size, 0, none⟩ (.slice x1 L1 k1)).setCell ⟨w.heap.size, 1, none⟩ (.slice x2 L2 k2)).cell? ⟨w.heap.size, 0, none⟩ = some (.slice x1 L1 k1)) := I4.cell 0 (by simp)
  have E1 : Hid (((W2.setCell ⟨w.heap.size, 0, none⟩ (.slice x1 L1 k1)).setCell ⟨w.heap.size, 1, none⟩ (.slice x2 L2 k2)).cell? ⟨w.heap.size, 1, none⟩ = some (.slice x2 L2 k2)) := I4.cell 1 (by simp)
  clear I2 I4 hBut U3 X3 B2
  go_wp2_with fail
  clear c0 c1 f0
  generalize ((W2.setCell ⟨w.heap.size, 0, none⟩ (.slice x1 L1 k1)).setCell ⟨w.heap.size, 1, none⟩ (.slice x2 L2 k2)) = W5 at *
  exact bodyPost_ret (v := .agg #[.slice x1 L1 k1, .slice x2 L2 k2]) (by simp [results, Tryd.results17, go_sem, E0.out, E1.out]) rfl ⟨⟨_, _, rfl, U4.out, X4.out⟩, B4.out⟩
end Go.Proofs.YtflabehlaiocaaaDoor
