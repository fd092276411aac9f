/- The reference's fractions reckoned with: regions that draw their order. -/
import Derived.Test.YtflabehlaiocaaaDoorBaseE
import Derived.Test.YtflabehlaiocaaaDoorRefTimes
set_option linter.unusedSimpArgs false
set_option linter.unusedVariables false
namespace Go.Proofs.YtflabehlaiocaaaDoor
open Go.RowKit Go.Deep Go.PlainAid


set_option maxRecDepth 100000 in
set_option maxHeartbeats 2000000 in
theorem refOrderV {w : World} {n1 d1 n2 d2 : Nat} {p1 p2 p3 p4 : Value} (hN : NumV w 10 n1 p1 ∧ NumV w 10 d1 p2 ∧ NumV w 10 n2 p3 ∧ NumV w 10 d2 p4)
    (l1 : (dg 10 n1).length ≤ 400000) (l2 : (dg 10 d1).length ≤ 400000) (l3 : (dg 10 n2).length ≤ 400000) (l4 : (dg 10 d2).length ≤ 400000) :
    Calls Tryd.prog 32 #[.agg #[p1, p2], .agg #[p3, p4]] w fun e w' => e = .returned (.int .i64 (cmp3 ((n1 * d2 : Nat) : Int) ((n2 * d1 : Nat) : Int))) ∧ Below w.heap.size w w' := by
  obtain ⟨q1, q2, q3, q4⟩ := hN
  have Q1 : Hid (∀ W, Below w.heap.size w W → NumV W 10 n1 p1) := fun W hW => q1.of_below hW
  have Q2 : Hid (∀ W, Below w.heap.size w W → NumV W 10 d1 p2) := fun W hW => q2.of_below hW
  have Q3 : Hid (∀ W, Below w.heap.size w W → NumV W 10 n2 p3) := fun W hW => q3.of_below hW
  have Q4 : Hid (∀ W, Below w.heap.size w W → NumV W 10 d2 p4) := fun W hW => q4.of_below hW
  clear q1 q2 q3 q4
  have LA := dg_len_mul ten n1 d2
  have LB := dg_len_mul ten n2 d1
  have C1 : Hid (∀ W, Below w.heap.size w W → Calls Tryd.prog 47 #[p1, p4] W fun e w' => (∃ v, e = .returned v ∧ NumV w' 10 (n1 * d2) v) ∧ Below W.heap.size W w') := fun W hW => refMulV (Q1.out W hW) (Q4.out W hW) (by omega) (by omega)
  have C2 : Hid (∀ W, Below w.heap.size w W → Calls Tryd.prog 47 #[p3, p2] W fun e w' => (∃ v, e = .returned v ∧ NumV w' 10 (n2 * d1) v) ∧ Below W.heap.size W w') := fun W hW => refMulV (Q3.out W hW) (Q2.out W hW) (by omega) (by omega)
  have C3 : Hid (∀ W v v', NumV W 10 (n1 * d2) v → NumV W 10 (n2 * d1) v' → Calls Tryd.prog 46 #[v, v'] W fun e w' => e = .returned (.int .i64 (cmp3 ((n1 * d2 : Nat) : Int) ((n2 * d1 : Nat) : Int))) ∧ Below W.heap.size W w') := fun W v v' g1 g2 => refCompareV g1 g2 (by omega) (by omega)
  clear LA LB l1 l2 l3 l4
  generalize cmp3 ((n1 * d2 : Nat) : Int) ((n2 * d1 : Nat) : Int) = Z at *
  generalize n1 * d2 = X1 at *
  generalize n2 * d1 = X2 at *
  go_enter Tryd.func32, Tryd.ntmps32
  go_wp2_with fail
  obtain ⟨W3, hW3⟩ : ∃ W3, W3 = (w.alloc (.cells #[p1, p2] 46)).alloc (.cells #[p3, p4] 46) := ⟨_, rfl⟩
  have q1 : IHolds W3 w.heap.size 46 [p1, p2] := by rw [hW3]; exact ((IHolds.new w 46 [p1, p2]).alloc _)
  have q2 : IHolds W3 (w.heap.size + 1) 46 [p3, p4] := by
    have := (IHolds.new (w.alloc (.cells #[p1, p2] 46)) 46 [p3, p4])
    rw [World.size_alloc] at this
    rw [hW3]
    exact this
  have B0 : Hid (Below w.heap.size w W3.drew) := by
    have b : Below w.heap.size w W3 := by rw [hW3]; exact ((Below.refl _ w).alloc (Nat.le_refl _) _).alloc (by simp) _
    exact b.drew
  rw [← hW3]
  clear hW3
  have S0 : Hid (IHolds W3.drew w.heap.size 46 [p1, p2] ∧ IHolds W3.drew (w.heap.size + 1) 46 [p3, p4]) := ⟨q1.drew, q2.drew⟩
  clear q1 q2
  refine wp_region_held_drew (S := fun W => IHolds W w.heap.size 46 [p1, p2] ∧ IHolds W (w.heap.size + 1) 46 [p3, p4]) (by kernel_rfl) S0.out (fun hHeld0 => ?_)
  generalize W3.drew = W0 at *
  refine wpAnyH_take (i := 0) (v := .pointer (some ⟨w.heap.size, 0, none⟩)) rfl (by kernel_rfl) (by kernel_rfl) (by kernel_rfl) (fun _ _ _ h => h) (Or.inl ⟨by rfl, ?_⟩) hHeld0 ?_
  · intro W hS
    have z0 := hS.1.two0
    have z1 := hS.1.two1
    have z2 := hS.2.two0
    have z3 := hS.2.two1
    go_simp
  simp only [Act.put, List.getElem_toArray, List.getElem_cons_succ, List.getElem_cons_zero, List.setIfInBounds_toArray, List.set_cons_zero, List.set_cons_succ, Array.toArray_toList]
  refine wpAnyH_take (i := 1) (v := p1) rfl (by kernel_rfl) (by kernel_rfl) (by kernel_rfl) (fun _ _ _ h => h) (Or.inl ⟨by rfl, ?_⟩) hHeld0 ?_
  · intro W hS
    have z0 := hS.1.two0
    have z1 := hS.1.two1
    have z2 := hS.2.two0
    have z3 := hS.2.two1
    go_simp
  simp only [Act.put, List.getElem_toArray, List.getElem_cons_succ, List.getElem_cons_zero, List.setIfInBounds_toArray, List.set_cons_zero, List.set_cons_succ, Array.toArray_toList]
  refine wpAnyH_take (i := 2) (v := .pointer (some ⟨w.heap.size + 1, 1, none⟩)) rfl (by kernel_rfl) (by kernel_rfl) (by kernel_rfl) (fun _ _ _ h => h) (Or.inl ⟨by rfl, ?_⟩) hHeld0 ?_
  · intro W hS
    have z0 := hS.1.two0
    have z1 := hS.1.two1
    have z2 := hS.2.two0
    have z3 := hS.2.two1
    go_simp
  simp only [Act.put, List.getElem_toArray, List.getElem_cons_succ, List.getElem_cons_zero, List.setIfInBounds_toArray, List.set_cons_zero, List.set_cons_succ, Array.toArray_toList]
  refine wpAnyH_take (i := 3) (v := p4) rfl (by kernel_rfl) (by kernel_rfl) (by kernel_rfl) (fun _ _ _ h => h) (Or.inl ⟨by rfl, ?_⟩) hHeld0 ?_
  · intro W hS
    have z0 := hS.1.two0
    have z1 := hS.1.two1
    have z2 := hS.2.two0
    have z3 := hS.2.two1
    go_simp
  simp only [Act.put, List.getElem_toArray, List.getElem_cons_succ, List.getElem_cons_zero, List.setIfInBounds_toArray, List.set_cons_zero, List.set_cons_succ, Array.toArray_toList]
  refine wpAnyH_take (i := 5) (v := .pointer (some ⟨w.heap.size + 1, 0, none⟩)) rfl (by kernel_rfl) (by kernel_rfl) (by kernel_rfl) (fun _ _ _ h => h) (Or.inl ⟨by rfl, ?_⟩) hHeld0 ?_
  · intro W hS
    have z0 := hS.1.two0
    have z1 := hS.1.two1
    have z2 := hS.2.two0
    have z3 := hS.2.two1
    go_simp
  simp only [Act.put, List.getElem_toArray, List.getElem_cons_succ, List.getElem_cons_zero, List.setIfInBounds_toArray, List.set_cons_zero, List.set_cons_succ, Array.toArray_toList]
  refine wpAnyH_take (i := 6) (v := p3) rfl (by kernel_rfl) (by kernel_rfl) (by kernel_rfl) (fun _ _ _ h => h) (Or.inl ⟨by rfl, ?_⟩) hHeld0 ?_
  · intro W hS
    have z0 := hS.1.two0
    have z1 := hS.1.two1
    have z2 := hS.2.two0
    have z3 := hS.2.two1
    go_simp
  simp only [Act.put, List.getElem_toArray, List.getElem_cons_succ, List.getElem_cons_zero, List.setIfInBounds_toArray, List.set_cons_zero, List.set_cons_succ, Array.toArray_toList]
  refine wpAnyH_take (i := 7) (v := .pointer (some ⟨w.heap.size, 1, none⟩)) rfl (by kernel_rfl) (by kernel_rfl) (by kernel_rfl) (fun _ _ _ h => h) (Or.inl ⟨by rfl, ?_⟩) hHeld0 ?_
  · intro W hS
    have z0 := hS.1.two0
    have z1 := hS.1.two1
    have z2 := hS.2.two0
    have z3 := hS.2.two1
    go_simp
  simp only [Act.put, List.getElem_toArray, List.getElem_cons_succ, List.getElem_cons_zero, List.setIfInBounds_toArray, List.set_cons_zero, List.set_cons_succ, Array.toArray_toList]
  refine wpAnyH_take (i := 8) (v := p2) rfl (by kernel_rfl) (by kernel_rfl) (by kernel_rfl) (fun _ _ _ h => h) (Or.inl ⟨by rfl, ?_⟩) hHeld0 ?_
  · intro W hS
    have z0 := hS.1.two0
    have z1 := hS.1.two1
    have z2 := hS.2.two0
    have z3 := hS.2.two1
    go_simp
  simp only [Act.put, List.getElem_toArray, List.getElem_cons_succ, List.getElem_cons_zero, List.setIfInBounds_toArray, List.set_cons_zero, List.set_cons_succ, Array.toArray_toList]
  refine wpAnyH_ready (rs := [4]) (by kernel_rfl) (by simp) ?_
  refine AllReadyH.cons rfl (fun K hK => ?_) AllReadyH.nil
  go_simp
  refine (C1.out W0 B0.out).mono ?_
  rintro e W1 ⟨⟨y1, rfl, hv⟩, hb⟩
  have B1 : Hid (Below w.heap.size w W1) := B0.out.trans (hb.mono B0.out.size)
  have S1 : Hid (IHolds W1 w.heap.size 46 [p1, p2] ∧ IHolds W1 (w.heap.size + 1) 46 [p3, p4]) := ⟨S0.out.1.of_below hb, S0.out.2.of_below hb⟩
  have Ny1 : Hid (NumV W1 10 X1 y1) := hv
  clear hv
  clear hb B0 S0
  go_wp2_with fail
  refine hK.out _ _ S1.out (fun hHeld1 => ?_)
  clear hK K
  try simp only [Act.put, List.getElem_toArray, List.getElem_cons_succ, List.getElem_cons_zero, List.setIfInBounds_toArray, List.set_cons_zero, List.set_cons_succ, Array.toArray_toList]
  refine wpAnyH_ready (rs := [9]) (by kernel_rfl) (by simp) ?_
  refine AllReadyH.cons rfl (fun K hK => ?_) AllReadyH.nil
  go_simp
  refine (C2.out W1 B1.out).mono ?_
  rintro e W2 ⟨⟨y2, rfl, hv⟩, hb⟩
  have B2 : Hid (Below w.heap.size w W2) := B1.out.trans (hb.mono B1.out.size)
  have S2 : Hid (IHolds W2 w.heap.size 46 [p1, p2] ∧ IHolds W2 (w.heap.size + 1) 46 [p3, p4]) := ⟨S1.out.1.of_below hb, S1.out.2.of_below hb⟩
  have Ny1 : Hid (NumV W2 10 X1 y1) := Ny1.out.of_below hb
  have Ny2 : Hid (NumV W2 10 X2 y2) := hv
  clear hv
  clear hb B1 S1
  go_wp2_with fail
  refine hK.out _ _ S2.out (fun hHeld2 => ?_)
  clear hK K
  try simp only [Act.put, List.getElem_toArray, List.getElem_cons_succ, List.getElem_cons_zero, List.setIfInBounds_toArray, List.set_cons_zero, List.set_cons_succ, Array.toArray_toList]
  refine wpAnyH_ready (rs := [10]) (by kernel_rfl) (by simp) ?_
  refine AllReadyH.cons rfl (fun K hK => ?_) AllReadyH.nil
  go_simp
  refine (C3.out W2 y1 y2 Ny1.out Ny2.out).mono ?_
  rintro e W3 ⟨rfl, hb⟩
  have B3 : Hid (Below w.heap.size w W3) := B2.out.trans (hb.mono B2.out.size)
  have S3 : Hid (IHolds W3 w.heap.size 46 [p1, p2] ∧ IHolds W3 (w.heap.size + 1) 46 [p3, p4]) := ⟨S2.out.1.of_below hb, S2.out.2.of_below hb⟩
  have Ny1 : Hid (NumV W3 10 X1 y1) := Ny1.out.of_below hb
  have Ny2 : Hid (NumV W3 10 X2 y2) := Ny2.out.of_below hb
  clear hb B2 S2
  go_wp2_with fail
  refine hK.out _ _ S3.out (fun hHeld3 => ?_)
  clear hK K
  try simp only [Act.put, List.getElem_toArray, List.getElem_cons_succ, List.getElem_cons_zero, List.setIfInBounds_toArray, List.set_cons_zero, List.set_cons_succ, Array.toArray_toList]
  refine wpAnyH_take (i := 11) (v := .int .i64 Z) rfl (by kernel_rfl) (by kernel_rfl) (by kernel_rfl) (fun _ _ _ h => h) (Or.inl ⟨by rfl, ?_⟩) hHeld3 ?_
  · intro W hS
    have z0 := hS.1.two0
    have z1 := hS.1.two1
    have z2 := hS.2.two0
    have z3 := hS.2.two1
    go_simp
  simp only [Act.put, List.getElem_toArray, List.getElem_cons_succ, List.getElem_cons_zero, List.setIfInBounds_toArray, List.set_cons_zero, List.set_cons_succ, Array.toArray_toList]
  refine wpAnyH_done (by kernel_rfl) ?_ _
  clear hHeld0 hHeld1 hHeld2 hHeld3
  go_wp2_with fail
  go_ret
  exact ⟨rfl, B3.out⟩
end Go.Proofs.YtflabehlaiocaaaDoor
