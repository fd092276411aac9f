/- The reference's fractions reckoned with: regions that draw their order. -/
import Derived.Test.YtnahindcgedbaaaDoorBaseE
import Derived.Test.YtnahindcgedbaaaDoorRefTimes
set_option linter.unusedSimpArgs false
set_option linter.unusedVariables false
namespace Go.Proofs.YtnahindcgedbaaaDoor
open Go.RowKit Go.Deep Go.PlainAid


set_option maxRecDepth 100000 in
set_option maxHeartbeats 2000000 in
theorem refPlusV {w : World} {n1 d1 n2 d2 : Nat} {p1 p2 p3 p4 : Value} (hN : NumV w 10 n1 p1 ∧ NumV w 10 d1 p2 ∧ NumV w 10 n2 p3 ∧ NumV w 10 d2 p4) (h1 : d1 * d2 ≠ 0)
    (l1 : (dg 10 n1).length ≤ 400000) (l2 : (dg 10 d1).length ≤ 400000) (l3 : (dg 10 n2).length ≤ 400000) (l4 : (dg 10 d2).length ≤ 400000) :
    Calls Tryd.prog 30 #[.agg #[p1, p2], .agg #[p3, p4]] w fun e w' => (∃ u1 u2, e = .returned (.agg #[u1, u2]) ∧ NumV w' 10 ((n1 * d2 + n2 * d1) / Nat.gcd (n1 * d2 + n2 * d1) (d1 * d2)) u1 ∧ NumV w' 10 ((d1 * d2) / Nat.gcd (n1 * d2 + n2 * d1) (d1 * d2)) u2) ∧ Below w.heap.size w w' := by
  obtain ⟨q1, q2, q3, q4⟩ := hN
  have Q1 : Hid (∀ W, Below w.heap.size w W → NumV W 10 n1 p1) := fun W hW => q1.of_below hW
  have Q2 : Hid (∀ W, Below w.heap.size w W → NumV W 10 d1 p2) := fun W hW => q2.of_below hW
  have Q3 : Hid (∀ W, Below w.heap.size w W → NumV W 10 n2 p3) := fun W hW => q3.of_below hW
  have Q4 : Hid (∀ W, Below w.heap.size w W → NumV W 10 d2 p4) := fun W hW => q4.of_below hW
  clear q1 q2 q3 q4
  have LA := dg_len_mul ten n1 d2
  have LB := dg_len_mul ten n2 d1
  have LDEN := dg_len_mul ten d1 d2
  have LNUM := dg_len_add10 (n1 * d2) (n2 * d1) 800000 (by omega) (by omega)
  have C1 : Hid (∀ W, Below w.heap.size w W → Calls Tryd.prog 16 #[p1, p4] W fun e w' => (∃ v, e = .returned v ∧ NumV w' 10 (n1 * d2) v) ∧ Below W.heap.size W w') := fun W hW => refMulV (Q1.out W hW) (Q4.out W hW) (by omega) (by omega)
  have C2 : Hid (∀ W, Below w.heap.size w W → Calls Tryd.prog 16 #[p3, p2] W fun e w' => (∃ v, e = .returned v ∧ NumV w' 10 (n2 * d1) v) ∧ Below W.heap.size W w') := fun W hW => refMulV (Q3.out W hW) (Q2.out W hW) (by omega) (by omega)
  have C4 : Hid (∀ W, Below w.heap.size w W → Calls Tryd.prog 16 #[p2, p4] W fun e w' => (∃ v, e = .returned v ∧ NumV w' 10 (d1 * d2) v) ∧ Below W.heap.size W w') := fun W hW => refMulV (Q2.out W hW) (Q4.out W hW) (by omega) (by omega)
  have C3 : Hid (∀ W v v', NumV W 10 (n1 * d2) v → NumV W 10 (n2 * d1) v' → Calls Tryd.prog 14 #[v, v'] W fun e w' => (∃ u, e = .returned u ∧ NumV w' 10 (n1 * d2 + n2 * d1) u) ∧ Below W.heap.size W w') := fun W v v' g1 g2 => refAddV g1 g2 (by omega) (by omega)
  have CL : Hid (∀ W v v', NumV W 10 (n1 * d2 + n2 * d1) v → NumV W 10 (d1 * d2) v' → Calls Tryd.prog 40 #[v, v'] W fun e w' => (∃ u1 u2, e = .returned (.agg #[u1, u2]) ∧ NumV w' 10 ((n1 * d2 + n2 * d1) / Nat.gcd (n1 * d2 + n2 * d1) (d1 * d2)) u1 ∧ NumV w' 10 ((d1 * d2) / Nat.gcd (n1 * d2 + n2 * d1) (d1 * d2)) u2) ∧ Below W.heap.size W w') := fun W v v' g1 g2 => refLowestV g1 g2 h1 (by have := LNUM; omega) (by have := LDEN; omega)
  clear LA LB LNUM LDEN h1 l1 l2 l3 l4
  generalize n1 * d2 + n2 * d1 = X at *
  generalize n1 * d2 = X1 at *
  generalize n2 * d1 = X2 at *
  generalize d1 * d2 = Y at *
  go_enter Tryd.func30, Tryd.ntmps30
  go_wp2_with fail
  obtain ⟨W3, hW3⟩ : ∃ W3, W3 = ((w.alloc (.cells #[p1, p2] 43)).alloc (.cells #[p3, p4] 43)).alloc (.cells #[.slice none 0 0, .slice none 0 0] 43) := ⟨_, rfl⟩
  have q1 : IHolds W3 w.heap.size 43 [p1, p2] := by rw [hW3]; exact ((IHolds.new w 43 [p1, p2]).alloc _).alloc _
  have q2 : IHolds W3 (w.heap.size + 1) 43 [p3, p4] := by
    have := (IHolds.new (w.alloc (.cells #[p1, p2] 43)) 43 [p3, p4])
    rw [World.size_alloc] at this
    rw [hW3]
    exact this.alloc _
  have q3 : IHolds W3 (w.heap.size + 1 + 1) 43 [.slice none 0 0, .slice none 0 0] := by
    have := (IHolds.new ((w.alloc (.cells #[p1, p2] 43)).alloc (.cells #[p3, p4] 43)) 43 [.slice none 0 0, .slice none 0 0])
    rw [World.size_alloc, World.size_alloc] at this
    rw [hW3]
    exact this
  have J0 : Hid (IHolds W3.drew (w.heap.size + 1 + 1) 43 [.slice none 0 0, .slice none 0 0]) := q3.drew
  clear q3
  have B0 : Hid (Below w.heap.size w W3.drew) := by
    have b : Below w.heap.size w W3 := by rw [hW3]; exact (((Below.refl _ w).alloc (Nat.le_refl _) _).alloc (by simp) _).alloc (by simp; omega) _
    exact b.drew
  rw [← hW3]
  clear hW3
  have S0 : Hid (IHolds W3.drew w.heap.size 43 [p1, p2] ∧ IHolds W3.drew (w.heap.size + 1) 43 [p3, p4]) := ⟨q1.drew, q2.drew⟩
  clear q1 q2
  refine wp_region_held_drew (S := fun W => IHolds W w.heap.size 43 [p1, p2] ∧ IHolds W (w.heap.size + 1) 43 [p3, p4]) (by kernel_rfl) S0.out (fun hHeld0 => ?_)
  generalize W3.drew = W0 at *
  refine wpAnyH_take (i := 0) (v := .pointer (some ⟨w.heap.size, 0, none⟩)) rfl (by kernel_rfl) (by kernel_rfl) (by kernel_rfl) (fun _ _ _ h => h) (Or.inl ⟨by rfl, ?_⟩) hHeld0 ?_
  · intro W hS
    have z0 := hS.1.two0
    have z1 := hS.1.two1
    have z2 := hS.2.two0
    have z3 := hS.2.two1
    go_simp
  simp only [Act.put, List.getElem_toArray, List.getElem_cons_succ, List.getElem_cons_zero, List.setIfInBounds_toArray, List.set_cons_zero, List.set_cons_succ, Array.toArray_toList]
  refine wpAnyH_take (i := 1) (v := p1) rfl (by kernel_rfl) (by kernel_rfl) (by kernel_rfl) (fun _ _ _ h => h) (Or.inl ⟨by rfl, ?_⟩) hHeld0 ?_
  · intro W hS
    have z0 := hS.1.two0
    have z1 := hS.1.two1
    have z2 := hS.2.two0
    have z3 := hS.2.two1
    go_simp
  simp only [Act.put, List.getElem_toArray, List.getElem_cons_succ, List.getElem_cons_zero, List.setIfInBounds_toArray, List.set_cons_zero, List.set_cons_succ, Array.toArray_toList]
  refine wpAnyH_take (i := 2) (v := .pointer (some ⟨w.heap.size + 1, 1, none⟩)) rfl (by kernel_rfl) (by kernel_rfl) (by kernel_rfl) (fun _ _ _ h => h) (Or.inl ⟨by rfl, ?_⟩) hHeld0 ?_
  · intro W hS
    have z0 := hS.1.two0
    have z1 := hS.1.two1
    have z2 := hS.2.two0
    have z3 := hS.2.two1
    go_simp
  simp only [Act.put, List.getElem_toArray, List.getElem_cons_succ, List.getElem_cons_zero, List.setIfInBounds_toArray, List.set_cons_zero, List.set_cons_succ, Array.toArray_toList]
  refine wpAnyH_take (i := 3) (v := p4) rfl (by kernel_rfl) (by kernel_rfl) (by kernel_rfl) (fun _ _ _ h => h) (Or.inl ⟨by rfl, ?_⟩) hHeld0 ?_
  · intro W hS
    have z0 := hS.1.two0
    have z1 := hS.1.two1
    have z2 := hS.2.two0
    have z3 := hS.2.two1
    go_simp
  simp only [Act.put, List.getElem_toArray, List.getElem_cons_succ, List.getElem_cons_zero, List.setIfInBounds_toArray, List.set_cons_zero, List.set_cons_succ, Array.toArray_toList]
  refine wpAnyH_take (i := 5) (v := .pointer (some ⟨w.heap.size + 1, 0, none⟩)) rfl (by kernel_rfl) (by kernel_rfl) (by kernel_rfl) (fun _ _ _ h => h) (Or.inl ⟨by rfl, ?_⟩) hHeld0 ?_
  · intro W hS
    have z0 := hS.1.two0
    have z1 := hS.1.two1
    have z2 := hS.2.two0
    have z3 := hS.2.two1
    go_simp
  simp only [Act.put, List.getElem_toArray, List.getElem_cons_succ, List.getElem_cons_zero, List.setIfInBounds_toArray, List.set_cons_zero, List.set_cons_succ, Array.toArray_toList]
  refine wpAnyH_take (i := 6) (v := p3) rfl (by kernel_rfl) (by kernel_rfl) (by kernel_rfl) (fun _ _ _ h => h) (Or.inl ⟨by rfl, ?_⟩) hHeld0 ?_
  · intro W hS
    have z0 := hS.1.two0
    have z1 := hS.1.two1
    have z2 := hS.2.two0
    have z3 := hS.2.two1
    go_simp
  simp only [Act.put, List.getElem_toArray, List.getElem_cons_succ, List.getElem_cons_zero, List.setIfInBounds_toArray, List.set_cons_zero, List.set_cons_succ, Array.toArray_toList]
  refine wpAnyH_take (i := 7) (v := .pointer (some ⟨w.heap.size, 1, none⟩)) rfl (by kernel_rfl) (by kernel_rfl) (by kernel_rfl) (fun _ _ _ h => h) (Or.inl ⟨by rfl, ?_⟩) hHeld0 ?_
  · intro W hS
    have z0 := hS.1.two0
    have z1 := hS.1.two1
    have z2 := hS.2.two0
    have z3 := hS.2.two1
    go_simp
  simp only [Act.put, List.getElem_toArray, List.getElem_cons_succ, List.getElem_cons_zero, List.setIfInBounds_toArray, List.set_cons_zero, List.set_cons_succ, Array.toArray_toList]
  refine wpAnyH_take (i := 8) (v := p2) rfl (by kernel_rfl) (by kernel_rfl) (by kernel_rfl) (fun _ _ _ h => h) (Or.inl ⟨by rfl, ?_⟩) hHeld0 ?_
  · intro W hS
    have z0 := hS.1.two0
    have z1 := hS.1.two1
    have z2 := hS.2.two0
    have z3 := hS.2.two1
    go_simp
  simp only [Act.put, List.getElem_toArray, List.getElem_cons_succ, List.getElem_cons_zero, List.setIfInBounds_toArray, List.set_cons_zero, List.set_cons_succ, Array.toArray_toList]
  refine wpAnyH_take (i := 11) (v := .pointer (some ⟨w.heap.size, 1, none⟩)) rfl (by kernel_rfl) (by kernel_rfl) (by kernel_rfl) (fun _ _ _ h => h) (Or.inl ⟨by rfl, ?_⟩) hHeld0 ?_
  · intro W hS
    have z0 := hS.1.two0
    have z1 := hS.1.two1
    have z2 := hS.2.two0
    have z3 := hS.2.two1
    go_simp
  simp only [Act.put, List.getElem_toArray, List.getElem_cons_succ, List.getElem_cons_zero, List.setIfInBounds_toArray, List.set_cons_zero, List.set_cons_succ, Array.toArray_toList]
  refine wpAnyH_take (i := 12) (v := p2) rfl (by kernel_rfl) (by kernel_rfl) (by kernel_rfl) (fun _ _ _ h => h) (Or.inl ⟨by rfl, ?_⟩) hHeld0 ?_
  · intro W hS
    have z0 := hS.1.two0
    have z1 := hS.1.two1
    have z2 := hS.2.two0
    have z3 := hS.2.two1
    go_simp
  simp only [Act.put, List.getElem_toArray, List.getElem_cons_succ, List.getElem_cons_zero, List.setIfInBounds_toArray, List.set_cons_zero, List.set_cons_succ, Array.toArray_toList]
  refine wpAnyH_take (i := 13) (v := .pointer (some ⟨w.heap.size + 1, 1, none⟩)) rfl (by kernel_rfl) (by kernel_rfl) (by kernel_rfl) (fun _ _ _ h => h) (Or.inl ⟨by rfl, ?_⟩) hHeld0 ?_
  · intro W hS
    have z0 := hS.1.two0
    have z1 := hS.1.two1
    have z2 := hS.2.two0
    have z3 := hS.2.two1
    go_simp
  simp only [Act.put, List.getElem_toArray, List.getElem_cons_succ, List.getElem_cons_zero, List.setIfInBounds_toArray, List.set_cons_zero, List.set_cons_succ, Array.toArray_toList]
  refine wpAnyH_take (i := 14) (v := p4) rfl (by kernel_rfl) (by kernel_rfl) (by kernel_rfl) (fun _ _ _ h => h) (Or.inl ⟨by rfl, ?_⟩) hHeld0 ?_
  · intro W hS
    have z0 := hS.1.two0
    have z1 := hS.1.two1
    have z2 := hS.2.two0
    have z3 := hS.2.two1
    go_simp
  simp only [Act.put, List.getElem_toArray, List.getElem_cons_succ, List.getElem_cons_zero, List.setIfInBounds_toArray, List.set_cons_zero, List.set_cons_succ, Array.toArray_toList]
  refine wpAnyH_ready (rs := [4]) (by kernel_rfl) (by simp) ?_
  refine AllReadyH.cons rfl (fun K hK => ?_) AllReadyH.nil
  go_simp
  refine (C1.out W0 B0.out).mono ?_
  rintro e W1 ⟨⟨y1, rfl, hv⟩, hb⟩
  have B1 : Hid (Below w.heap.size w W1) := B0.out.trans (hb.mono B0.out.size)
  have S1 : Hid (IHolds W1 w.heap.size 43 [p1, p2] ∧ IHolds W1 (w.heap.size + 1) 43 [p3, p4]) := ⟨S0.out.1.of_below hb, S0.out.2.of_below hb⟩
  have J1 : Hid (IHolds W1 (w.heap.size + 1 + 1) 43 [.slice none 0 0, .slice none 0 0]) := J0.out.of_below hb
  have Ny1 : Hid (NumV W1 10 X1 y1) := hv
  clear hv
  clear hb B0 S0 J0
  go_wp2_with fail
  refine hK.out _ _ S1.out (fun hHeld1 => ?_)
  clear hK K
  try simp only [Act.put, List.getElem_toArray, List.getElem_cons_succ, List.getElem_cons_zero, List.setIfInBounds_toArray, List.set_cons_zero, List.set_cons_succ, Array.toArray_toList]
  refine wpAnyH_ready (rs := [9]) (by kernel_rfl) (by simp) ?_
  refine AllReadyH.cons rfl (fun K hK => ?_) AllReadyH.nil
  go_simp
  refine (C2.out W1 B1.out).mono ?_
  rintro e W2 ⟨⟨y2, rfl, hv⟩, hb⟩
  have B2 : Hid (Below w.heap.size w W2) := B1.out.trans (hb.mono B1.out.size)
  have S2 : Hid (IHolds W2 w.heap.size 43 [p1, p2] ∧ IHolds W2 (w.heap.size + 1) 43 [p3, p4]) := ⟨S1.out.1.of_below hb, S1.out.2.of_below hb⟩
  have J2 : Hid (IHolds W2 (w.heap.size + 1 + 1) 43 [.slice none 0 0, .slice none 0 0]) := J1.out.of_below hb
  have Ny1 : Hid (NumV W2 10 X1 y1) := Ny1.out.of_below hb
  have Ny2 : Hid (NumV W2 10 X2 y2) := hv
  clear hv
  clear hb B1 S1 J1
  go_wp2_with fail
  refine hK.out _ _ S2.out (fun hHeld2 => ?_)
  clear hK K
  try simp only [Act.put, List.getElem_toArray, List.getElem_cons_succ, List.getElem_cons_zero, List.setIfInBounds_toArray, List.set_cons_zero, List.set_cons_succ, Array.toArray_toList]
  refine wpAnyH_ready (rs := [10]) (by kernel_rfl) (by simp) ?_
  refine AllReadyH.cons rfl (fun K hK => ?_) AllReadyH.nil
  go_simp
  refine (C3.out W2 y1 y2 Ny1.out Ny2.out).mono ?_
  rintro e W3 ⟨⟨y3, rfl, hv⟩, hb⟩
  have B3 : Hid (Below w.heap.size w W3) := B2.out.trans (hb.mono B2.out.size)
  have S3 : Hid (IHolds W3 w.heap.size 43 [p1, p2] ∧ IHolds W3 (w.heap.size + 1) 43 [p3, p4]) := ⟨S2.out.1.of_below hb, S2.out.2.of_below hb⟩
  have J3 : Hid (IHolds W3 (w.heap.size + 1 + 1) 43 [.slice none 0 0, .slice none 0 0]) := J2.out.of_below hb
  have Ny1 : Hid (NumV W3 10 X1 y1) := Ny1.out.of_below hb
  have Ny2 : Hid (NumV W3 10 X2 y2) := Ny2.out.of_below hb
  have Ny3 : Hid (NumV W3 10 X y3) := hv
  clear hv
  clear hb B2 S2 J2
  go_wp2_with fail
  refine hK.out _ _ S3.out (fun hHeld3 => ?_)
  clear hK K
  try simp only [Act.put, List.getElem_toArray, List.getElem_cons_succ, List.getElem_cons_zero, List.setIfInBounds_toArray, List.set_cons_zero, List.set_cons_succ, Array.toArray_toList]
  refine wpAnyH_ready (rs := [15]) (by kernel_rfl) (by simp) ?_
  refine AllReadyH.cons rfl (fun K hK => ?_) AllReadyH.nil
  go_simp
  refine (C4.out W3 B3.out).mono ?_
  rintro e W4 ⟨⟨y4, rfl, hv⟩, hb⟩
  have B4 : Hid (Below w.heap.size w W4) := B3.out.trans (hb.mono B3.out.size)
  have S4 : Hid (IHolds W4 w.heap.size 43 [p1, p2] ∧ IHolds W4 (w.heap.size + 1) 43 [p3, p4]) := ⟨S3.out.1.of_below hb, S3.out.2.of_below hb⟩
  have J4 : Hid (IHolds W4 (w.heap.size + 1 + 1) 43 [.slice none 0 0, .slice none 0 0]) := J3.out.of_below hb
  have Ny1 : Hid (NumV W4 10 X1 y1) := Ny1.out.of_below hb
  have Ny2 : Hid (NumV W4 10 X2 y2) := Ny2.out.of_below hb
  have Ny3 : Hid (NumV W4 10 X y3) := Ny3.out.of_below hb
  have Ny4 : Hid (NumV W4 10 Y y4) := hv
  clear hv
  clear hb B3 S3 J3
  go_wp2_with fail
  refine hK.out _ _ S4.out (fun hHeld4 => ?_)
  clear hK K
  try simp only [Act.put, List.getElem_toArray, List.getElem_cons_succ, List.getElem_cons_zero, List.setIfInBounds_toArray, List.set_cons_zero, List.set_cons_succ, Array.toArray_toList]
  refine wpAnyH_ready (rs := [16]) (by kernel_rfl) (by simp) ?_
  refine AllReadyH.cons rfl (fun K hK => ?_) AllReadyH.nil
  go_simp
  refine (CL.out W4 y3 y4 Ny3.out Ny4.out).mono ?_
  rintro e W5 ⟨⟨u1, u2, rfl, hv, hv2⟩, hb⟩
  have B5 : Hid (Below w.heap.size w W5) := B4.out.trans (hb.mono B4.out.size)
  have S5 : Hid (IHolds W5 w.heap.size 43 [p1, p2] ∧ IHolds W5 (w.heap.size + 1) 43 [p3, p4]) := ⟨S4.out.1.of_below hb, S4.out.2.of_below hb⟩
  have J5 : Hid (IHolds W5 (w.heap.size + 1 + 1) 43 [.slice none 0 0, .slice none 0 0]) := J4.out.of_below hb
  have Ny1 : Hid (NumV W5 10 X1 y1) := Ny1.out.of_below hb
  have Ny2 : Hid (NumV W5 10 X2 y2) := Ny2.out.of_below hb
  have Ny3 : Hid (NumV W5 10 X y3) := Ny3.out.of_below hb
  have Ny4 : Hid (NumV W5 10 Y y4) := Ny4.out.of_below hb
  have Nu1 : Hid (NumV W5 10 (X / Nat.gcd X Y) u1) := hv
  clear hv
  have Nu2 : Hid (NumV W5 10 (Y / Nat.gcd X Y) u2) := hv2
  clear hv2
  clear hb B4 S4 J4
  obtain ⟨x1, L1, k1, rfl⟩ : ∃ a L c, u1 = .slice a L c := by obtain ⟨a, cap, h, _⟩ := Nu1.out; exact ⟨_, _, _, h⟩
  obtain ⟨x2, L2, k2, rfl⟩ : ∃ a L c, u2 = .slice a L c := by obtain ⟨a, cap, h, _⟩ := Nu2.out; exact ⟨_, _, _, h⟩
  go_wp2_with fail
  refine hK.out _ _ S5.out (fun hHeld5 => ?_)
  clear hK K
  try simp only [Act.put, List.getElem_toArray, List.getElem_cons_succ, List.getElem_cons_zero, List.setIfInBounds_toArray, List.set_cons_zero, List.set_cons_succ, Array.toArray_toList]
  refine wpAnyH_ready (rs := [17]) (by kernel_rfl) (by simp) ?_
  refine AllReadyH.cons rfl (fun K hK => ?_) AllReadyH.nil
  have I3 := J5.out
  have c0 := I3.two0
  have c1 := I3.two1
  have f0 : ∀ i, W5.frozen? ⟨w.heap.size + 1 + 1, i, none⟩ = false := fun i => I3.frozen i
  have I4 := (I3.set 0 (.slice x1 L1 k1)).set 1 (.slice x2 L2 k2)
  have hBut : But (w.heap.size + 1 + 1) W5 ((W5.setCell ⟨w.heap.size + 1 + 1, 0, none⟩ (.slice x1 L1 k1)).setCell ⟨w.heap.size + 1 + 1, 1, none⟩ (.slice x2 L2 k2)) := ((But.refl _ W5).setCell 0 _).setCell 1 _
  have UZ : Hid (NumV ((W5.setCell ⟨w.heap.size + 1 + 1, 0, none⟩ (.slice x1 L1 k1)).setCell ⟨w.heap.size + 1 + 1, 1, none⟩ (.slice x2 L2 k2)) 10 (X / Nat.gcd X Y) (.slice x1 L1 k1)) := Nu1.out.apart I3 (by simp) hBut
  have XZ : Hid (NumV ((W5.setCell ⟨w.heap.size + 1 + 1, 0, none⟩ (.slice x1 L1 k1)).setCell ⟨w.heap.size + 1 + 1, 1, none⟩ (.slice x2 L2 k2)) 10 (Y / Nat.gcd X Y) (.slice x2 L2 k2)) := Nu2.out.apart I3 (by simp) hBut
  have BZ : Hid (Below w.heap.size w ((W5.setCell ⟨w.heap.size + 1 + 1, 0, none⟩ (.slice x1 L1 k1)).setCell ⟨w.heap.size + 1 + 1, 1, none⟩ (.slice x2 L2 k2))) := (B5.out.setCell (by show w.heap.size ≤ w.heap.size + 1 + 1; omega) _).setCell (by show w.heap.size ≤ w.heap.size + 1 + 1; omega) _
  have SZ : Hid (IHolds ((W5.setCell ⟨w.heap.size + 1 + 1, 0, none⟩ (.slice x1 L1 k1)).setCell ⟨w.heap.size + 1 + 1, 1, none⟩ (.slice x2 L2 k2)) w.heap.size 43 [p1, p2] ∧ IHolds ((W5.setCell ⟨w.heap.size + 1 + 1, 0, none⟩ (.slice x1 L1 k1)).setCell ⟨w.heap.size + 1 + 1, 1, none⟩ (.slice x2 L2 k2)) (w.heap.size + 1) 43 [p3, p4]) := ⟨S5.out.1.of_but hBut (by omega), S5.out.2.of_but hBut (by omega)⟩
  have E0 : Hid (((W5.setCell ⟨w.heap.size + 1 + 1, 0, none⟩ (.slice x1 L1 k1)).setCell ⟨w.heap.size + 1 + 1, 1, none⟩ (.slice x2 L2 k2)).cell? ⟨w.heap.size + 1 + 1, 0, none⟩ = some (.slice x1 L1 k1)) := I4.cell 0 (by simp)
  have E1 : Hid (((W5.setCell ⟨w.heap.size + 1 + 1, 0, none⟩ (.slice x1 L1 k1)).setCell ⟨w.heap.size + 1 + 1, 1, none⟩ (.slice x2 L2 k2)).cell? ⟨w.heap.size + 1 + 1, 1, none⟩ = some (.slice x2 L2 k2)) := I4.cell 1 (by simp)
  clear I3 I4 hBut B5 S5 J5
  go_simp
  go_wp2_with fail
  refine hK.out _ _ SZ.out (fun hHeldZ => ?_)
  clear hK K c0 c1 f0
  try simp only [Act.put, List.getElem_toArray, List.getElem_cons_succ, List.getElem_cons_zero, List.setIfInBounds_toArray, List.set_cons_zero, List.set_cons_succ, Array.toArray_toList]
  generalize ((W5.setCell ⟨w.heap.size + 1 + 1, 0, none⟩ (.slice x1 L1 k1)).setCell ⟨w.heap.size + 1 + 1, 1, none⟩ (.slice x2 L2 k2)) = WZ at *
  refine wpAnyH_done (by kernel_rfl) ?_ _
  clear hHeld0 hHeld1 hHeld2 hHeld3 hHeld4 hHeld5 hHeldZ
  go_wp2_with fail
  exact bodyPost_ret (v := .agg #[.slice x1 L1 k1, .slice x2 L2 k2]) (by simp [results, Tryd.results30, go_sem, E0.out, E1.out]) rfl ⟨⟨_, _, rfl, UZ.out, XZ.out⟩, BZ.out⟩

set_option maxRecDepth 100000 in
set_option maxHeartbeats 2000000 in
theorem refMinusV {w : World} {n1 d1 n2 d2 : Nat} {p1 p2 p3 p4 : Value} (hN : NumV w 10 n1 p1 ∧ NumV w 10 d1 p2 ∧ NumV w 10 n2 p3 ∧ NumV w 10 d2 p4) (hle : n2 * d1 ≤ n1 * d2) (h1 : d1 * d2 ≠ 0)
    (l1 : (dg 10 n1).length ≤ 400000) (l2 : (dg 10 d1).length ≤ 400000) (l3 : (dg 10 n2).length ≤ 400000) (l4 : (dg 10 d2).length ≤ 400000) :
    Calls Tryd.prog 36 #[.agg #[p1, p2], .agg #[p3, p4]] w fun e w' => (∃ u1 u2, e = .returned (.agg #[u1, u2]) ∧ NumV w' 10 ((n1 * d2 - n2 * d1) / Nat.gcd (n1 * d2 - n2 * d1) (d1 * d2)) u1 ∧ NumV w' 10 ((d1 * d2) / Nat.gcd (n1 * d2 - n2 * d1) (d1 * d2)) u2) ∧ Below w.heap.size w w' := by
  obtain ⟨q1, q2, q3, q4⟩ := hN
  have Q1 : Hid (∀ W, Below w.heap.size w W → NumV W 10 n1 p1) := fun W hW => q1.of_below hW
  have Q2 : Hid (∀ W, Below w.heap.size w W → NumV W 10 d1 p2) := fun W hW => q2.of_below hW
  have Q3 : Hid (∀ W, Below w.heap.size w W → NumV W 10 n2 p3) := fun W hW => q3.of_below hW
  have Q4 : Hid (∀ W, Below w.heap.size w W → NumV W 10 d2 p4) := fun W hW => q4.of_below hW
  clear q1 q2 q3 q4
  have LA := dg_len_mul ten n1 d2
  have LB := dg_len_mul ten n2 d1
  have LDEN := dg_len_mul ten d1 d2
  have LNUM : (dg 10 (n1 * d2 - n2 * d1)).length ≤ 800000 := Nat.le_trans (dg_len_mono ten (Nat.sub_le _ _)) (by omega)
  have C1 : Hid (∀ W, Below w.heap.size w W → Calls Tryd.prog 16 #[p1, p4] W fun e w' => (∃ v, e = .returned v ∧ NumV w' 10 (n1 * d2) v) ∧ Below W.heap.size W w') := fun W hW => refMulV (Q1.out W hW) (Q4.out W hW) (by omega) (by omega)
  have C2 : Hid (∀ W, Below w.heap.size w W → Calls Tryd.prog 16 #[p3, p2] W fun e w' => (∃ v, e = .returned v ∧ NumV w' 10 (n2 * d1) v) ∧ Below W.heap.size W w') := fun W hW => refMulV (Q3.out W hW) (Q2.out W hW) (by omega) (by omega)
  have C4 : Hid (∀ W, Below w.heap.size w W → Calls Tryd.prog 16 #[p2, p4] W fun e w' => (∃ v, e = .returned v ∧ NumV w' 10 (d1 * d2) v) ∧ Below W.heap.size W w') := fun W hW => refMulV (Q2.out W hW) (Q4.out W hW) (by omega) (by omega)
  have C3 : Hid (∀ W v v', NumV W 10 (n1 * d2) v → NumV W 10 (n2 * d1) v' → Calls Tryd.prog 20 #[v, v'] W fun e w' => (∃ u, e = .returned u ∧ NumV w' 10 (n1 * d2 - n2 * d1) u) ∧ Below W.heap.size W w') := fun W v v' g1 g2 => refSubV g1 g2 (by omega) hle
  have CL : Hid (∀ W v v', NumV W 10 (n1 * d2 - n2 * d1) v → NumV W 10 (d1 * d2) v' → Calls Tryd.prog 40 #[v, v'] W fun e w' => (∃ u1 u2, e = .returned (.agg #[u1, u2]) ∧ NumV w' 10 ((n1 * d2 - n2 * d1) / Nat.gcd (n1 * d2 - n2 * d1) (d1 * d2)) u1 ∧ NumV w' 10 ((d1 * d2) / Nat.gcd (n1 * d2 - n2 * d1) (d1 * d2)) u2) ∧ Below W.heap.size W w') := fun W v v' g1 g2 => refLowestV g1 g2 h1 (by have := LNUM; omega) (by have := LDEN; omega)
  clear LA LB LNUM LDEN h1 l1 l2 l3 l4 hle
  generalize n1 * d2 - n2 * d1 = X at *
  generalize n1 * d2 = X1 at *
  generalize n2 * d1 = X2 at *
  generalize d1 * d2 = Y at *
  go_enter Tryd.func36, Tryd.ntmps36
  go_wp2_with fail
  obtain ⟨W3, hW3⟩ : ∃ W3, W3 = ((w.alloc (.cells #[p1, p2] 43)).alloc (.cells #[p3, p4] 43)).alloc (.cells #[.slice none 0 0, .slice none 0 0] 43) := ⟨_, rfl⟩
  have q1 : IHolds W3 w.heap.size 43 [p1, p2] := by rw [hW3]; exact ((IHolds.new w 43 [p1, p2]).alloc _).alloc _
  have q2 : IHolds W3 (w.heap.size + 1) 43 [p3, p4] := by
    have := (IHolds.new (w.alloc (.cells #[p1, p2] 43)) 43 [p3, p4])
    rw [World.size_alloc] at this
    rw [hW3]
    exact this.alloc _
  have q3 : IHolds W3 (w.heap.size + 1 + 1) 43 [.slice none 0 0, .slice none 0 0] := by
    have := (IHolds.new ((w.alloc (.cells #[p1, p2] 43)).alloc (.cells #[p3, p4] 43)) 43 [.slice none 0 0, .slice none 0 0])
    rw [World.size_alloc, World.size_alloc] at this
    rw [hW3]
    exact this
  have J0 : Hid (IHolds W3.drew (w.heap.size + 1 + 1) 43 [.slice none 0 0, .slice none 0 0]) := q3.drew
  clear q3
  have B0 : Hid (Below w.heap.size w W3.drew) := by
    have b : Below w.heap.size w W3 := by rw [hW3]; exact (((Below.refl _ w).alloc (Nat.le_refl _) _).alloc (by simp) _).alloc (by simp; omega) _
    exact b.drew
  rw [← hW3]
  clear hW3
  have S0 : Hid (IHolds W3.drew w.heap.size 43 [p1, p2] ∧ IHolds W3.drew (w.heap.size + 1) 43 [p3, p4]) := ⟨q1.drew, q2.drew⟩
  clear q1 q2
  refine wp_region_held_drew (S := fun W => IHolds W w.heap.size 43 [p1, p2] ∧ IHolds W (w.heap.size + 1) 43 [p3, p4]) (by kernel_rfl) S0.out (fun hHeld0 => ?_)
  generalize W3.drew = W0 at *
  refine wpAnyH_take (i := 0) (v := .pointer (some ⟨w.heap.size, 0, none⟩)) rfl (by kernel_rfl) (by kernel_rfl) (by kernel_rfl) (fun _ _ _ h => h) (Or.inl ⟨by rfl, ?_⟩) hHeld0 ?_
  · intro W hS
    have z0 := hS.1.two0
    have z1 := hS.1.two1
    have z2 := hS.2.two0
    have z3 := hS.2.two1
    go_simp
  simp only [Act.put, List.getElem_toArray, List.getElem_cons_succ, List.getElem_cons_zero, List.setIfInBounds_toArray, List.set_cons_zero, List.set_cons_succ, Array.toArray_toList]
  refine wpAnyH_take (i := 1) (v := p1) rfl (by kernel_rfl) (by kernel_rfl) (by kernel_rfl) (fun _ _ _ h => h) (Or.inl ⟨by rfl, ?_⟩) hHeld0 ?_
  · intro W hS
    have z0 := hS.1.two0
    have z1 := hS.1.two1
    have z2 := hS.2.two0
    have z3 := hS.2.two1
    go_simp
  simp only [Act.put, List.getElem_toArray, List.getElem_cons_succ, List.getElem_cons_zero, List.setIfInBounds_toArray, List.set_cons_zero, List.set_cons_succ, Array.toArray_toList]
  refine wpAnyH_take (i := 2) (v := .pointer (some ⟨w.heap.size + 1, 1, none⟩)) rfl (by kernel_rfl) (by kernel_rfl) (by kernel_rfl) (fun _ _ _ h => h) (Or.inl ⟨by rfl, ?_⟩) hHeld0 ?_
  · intro W hS
    have z0 := hS.1.two0
    have z1 := hS.1.two1
    have z2 := hS.2.two0
    have z3 := hS.2.two1
    go_simp
  simp only [Act.put, List.getElem_toArray, List.getElem_cons_succ, List.getElem_cons_zero, List.setIfInBounds_toArray, List.set_cons_zero, List.set_cons_succ, Array.toArray_toList]
  refine wpAnyH_take (i := 3) (v := p4) rfl (by kernel_rfl) (by kernel_rfl) (by kernel_rfl) (fun _ _ _ h => h) (Or.inl ⟨by rfl, ?_⟩) hHeld0 ?_
  · intro W hS
    have z0 := hS.1.two0
    have z1 := hS.1.two1
    have z2 := hS.2.two0
    have z3 := hS.2.two1
    go_simp
  simp only [Act.put, List.getElem_toArray, List.getElem_cons_succ, List.getElem_cons_zero, List.setIfInBounds_toArray, List.set_cons_zero, List.set_cons_succ, Array.toArray_toList]
  refine wpAnyH_take (i := 5) (v := .pointer (some ⟨w.heap.size + 1, 0, none⟩)) rfl (by kernel_rfl) (by kernel_rfl) (by kernel_rfl) (fun _ _ _ h => h) (Or.inl ⟨by rfl, ?_⟩) hHeld0 ?_
  · intro W hS
    have z0 := hS.1.two0
    have z1 := hS.1.two1
    have z2 := hS.2.two0
    have z3 := hS.2.two1
    go_simp
  simp only [Act.put, List.getElem_toArray, List.getElem_cons_succ, List.getElem_cons_zero, List.setIfInBounds_toArray, List.set_cons_zero, List.set_cons_succ, Array.toArray_toList]
  refine wpAnyH_take (i := 6) (v := p3) rfl (by kernel_rfl) (by kernel_rfl) (by kernel_rfl) (fun _ _ _ h => h) (Or.inl ⟨by rfl, ?_⟩) hHeld0 ?_
  · intro W hS
    have z0 := hS.1.two0
    have z1 := hS.1.two1
    have z2 := hS.2.two0
    have z3 := hS.2.two1
    go_simp
  simp only [Act.put, List.getElem_toArray, List.getElem_cons_succ, List.getElem_cons_zero, List.setIfInBounds_toArray, List.set_cons_zero, List.set_cons_succ, Array.toArray_toList]
  refine wpAnyH_take (i := 7) (v := .pointer (some ⟨w.heap.size, 1, none⟩)) rfl (by kernel_rfl) (by kernel_rfl) (by kernel_rfl) (fun _ _ _ h => h) (Or.inl ⟨by rfl, ?_⟩) hHeld0 ?_
  · intro W hS
    have z0 := hS.1.two0
    have z1 := hS.1.two1
    have z2 := hS.2.two0
    have z3 := hS.2.two1
    go_simp
  simp only [Act.put, List.getElem_toArray, List.getElem_cons_succ, List.getElem_cons_zero, List.setIfInBounds_toArray, List.set_cons_zero, List.set_cons_succ, Array.toArray_toList]
  refine wpAnyH_take (i := 8) (v := p2) rfl (by kernel_rfl) (by kernel_rfl) (by kernel_rfl) (fun _ _ _ h => h) (Or.inl ⟨by rfl, ?_⟩) hHeld0 ?_
  · intro W hS
    have z0 := hS.1.two0
    have z1 := hS.1.two1
    have z2 := hS.2.two0
    have z3 := hS.2.two1
    go_simp
  simp only [Act.put, List.getElem_toArray, List.getElem_cons_succ, List.getElem_cons_zero, List.setIfInBounds_toArray, List.set_cons_zero, List.set_cons_succ, Array.toArray_toList]
  refine wpAnyH_take (i := 11) (v := .pointer (some ⟨w.heap.size, 1, none⟩)) rfl (by kernel_rfl) (by kernel_rfl) (by kernel_rfl) (fun _ _ _ h => h) (Or.inl ⟨by rfl, ?_⟩) hHeld0 ?_
  · intro W hS
    have z0 := hS.1.two0
    have z1 := hS.1.two1
    have z2 := hS.2.two0
    have z3 := hS.2.two1
    go_simp
  simp only [Act.put, List.getElem_toArray, List.getElem_cons_succ, List.getElem_cons_zero, List.setIfInBounds_toArray, List.set_cons_zero, List.set_cons_succ, Array.toArray_toList]
  refine wpAnyH_take (i := 12) (v := p2) rfl (by kernel_rfl) (by kernel_rfl) (by kernel_rfl) (fun _ _ _ h => h) (Or.inl ⟨by rfl, ?_⟩) hHeld0 ?_
  · intro W hS
    have z0 := hS.1.two0
    have z1 := hS.1.two1
    have z2 := hS.2.two0
    have z3 := hS.2.two1
    go_simp
  simp only [Act.put, List.getElem_toArray, List.getElem_cons_succ, List.getElem_cons_zero, List.setIfInBounds_toArray, List.set_cons_zero, List.set_cons_succ, Array.toArray_toList]
  refine wpAnyH_take (i := 13) (v := .pointer (some ⟨w.heap.size + 1, 1, none⟩)) rfl (by kernel_rfl) (by kernel_rfl) (by kernel_rfl) (fun _ _ _ h => h) (Or.inl ⟨by rfl, ?_⟩) hHeld0 ?_
  · intro W hS
    have z0 := hS.1.two0
    have z1 := hS.1.two1
    have z2 := hS.2.two0
    have z3 := hS.2.two1
    go_simp
  simp only [Act.put, List.getElem_toArray, List.getElem_cons_succ, List.getElem_cons_zero, List.setIfInBounds_toArray, List.set_cons_zero, List.set_cons_succ, Array.toArray_toList]
  refine wpAnyH_take (i := 14) (v := p4) rfl (by kernel_rfl) (by kernel_rfl) (by kernel_rfl) (fun _ _ _ h => h) (Or.inl ⟨by rfl, ?_⟩) hHeld0 ?_
  · intro W hS
    have z0 := hS.1.two0
    have z1 := hS.1.two1
    have z2 := hS.2.two0
    have z3 := hS.2.two1
    go_simp
  simp only [Act.put, List.getElem_toArray, List.getElem_cons_succ, List.getElem_cons_zero, List.setIfInBounds_toArray, List.set_cons_zero, List.set_cons_succ, Array.toArray_toList]
  refine wpAnyH_ready (rs := [4]) (by kernel_rfl) (by simp) ?_
  refine AllReadyH.cons rfl (fun K hK => ?_) AllReadyH.nil
  go_simp
  refine (C1.out W0 B0.out).mono ?_
  rintro e W1 ⟨⟨y1, rfl, hv⟩, hb⟩
  have B1 : Hid (Below w.heap.size w W1) := B0.out.trans (hb.mono B0.out.size)
  have S1 : Hid (IHolds W1 w.heap.size 43 [p1, p2] ∧ IHolds W1 (w.heap.size + 1) 43 [p3, p4]) := ⟨S0.out.1.of_below hb, S0.out.2.of_below hb⟩
  have J1 : Hid (IHolds W1 (w.heap.size + 1 + 1) 43 [.slice none 0 0, .slice none 0 0]) := J0.out.of_below hb
  have Ny1 : Hid (NumV W1 10 X1 y1) := hv
  clear hv
  clear hb B0 S0 J0
  go_wp2_with fail
  refine hK.out _ _ S1.out (fun hHeld1 => ?_)
  clear hK K
  try simp only [Act.put, List.getElem_toArray, List.getElem_cons_succ, List.getElem_cons_zero, List.setIfInBounds_toArray, List.set_cons_zero, List.set_cons_succ, Array.toArray_toList]
  refine wpAnyH_ready (rs := [9]) (by kernel_rfl) (by simp) ?_
  refine AllReadyH.cons rfl (fun K hK => ?_) AllReadyH.nil
  go_simp
  refine (C2.out W1 B1.out).mono ?_
  rintro e W2 ⟨⟨y2, rfl, hv⟩, hb⟩
  have B2 : Hid (Below w.heap.size w W2) := B1.out.trans (hb.mono B1.out.size)
  have S2 : Hid (IHolds W2 w.heap.size 43 [p1, p2] ∧ IHolds W2 (w.heap.size + 1) 43 [p3, p4]) := ⟨S1.out.1.of_below hb, S1.out.2.of_below hb⟩
  have J2 : Hid (IHolds W2 (w.heap.size + 1 + 1) 43 [.slice none 0 0, .slice none 0 0]) := J1.out.of_below hb
  have Ny1 : Hid (NumV W2 10 X1 y1) := Ny1.out.of_below hb
  have Ny2 : Hid (NumV W2 10 X2 y2) := hv
  clear hv
  clear hb B1 S1 J1
  go_wp2_with fail
  refine hK.out _ _ S2.out (fun hHeld2 => ?_)
  clear hK K
  try simp only [Act.put, List.getElem_toArray, List.getElem_cons_succ, List.getElem_cons_zero, List.setIfInBounds_toArray, List.set_cons_zero, List.set_cons_succ, Array.toArray_toList]
  refine wpAnyH_ready (rs := [10]) (by kernel_rfl) (by simp) ?_
  refine AllReadyH.cons rfl (fun K hK => ?_) AllReadyH.nil
  go_simp
  refine (C3.out W2 y1 y2 Ny1.out Ny2.out).mono ?_
  rintro e W3 ⟨⟨y3, rfl, hv⟩, hb⟩
  have B3 : Hid (Below w.heap.size w W3) := B2.out.trans (hb.mono B2.out.size)
  have S3 : Hid (IHolds W3 w.heap.size 43 [p1, p2] ∧ IHolds W3 (w.heap.size + 1) 43 [p3, p4]) := ⟨S2.out.1.of_below hb, S2.out.2.of_below hb⟩
  have J3 : Hid (IHolds W3 (w.heap.size + 1 + 1) 43 [.slice none 0 0, .slice none 0 0]) := J2.out.of_below hb
  have Ny1 : Hid (NumV W3 10 X1 y1) := Ny1.out.of_below hb
  have Ny2 : Hid (NumV W3 10 X2 y2) := Ny2.out.of_below hb
  have Ny3 : Hid (NumV W3 10 X y3) := hv
  clear hv
  clear hb B2 S2 J2
  go_wp2_with fail
  refine hK.out _ _ S3.out (fun hHeld3 => ?_)
  clear hK K
  try simp only [Act.put, List.getElem_toArray, List.getElem_cons_succ, List.getElem_cons_zero, List.setIfInBounds_toArray, List.set_cons_zero, List.set_cons_succ, Array.toArray_toList]
  refine wpAnyH_ready (rs := [15]) (by kernel_rfl) (by simp) ?_
  refine AllReadyH.cons rfl (fun K hK => ?_) AllReadyH.nil
  go_simp
  refine (C4.out W3 B3.out).mono ?_
  rintro e W4 ⟨⟨y4, rfl, hv⟩, hb⟩
  have B4 : Hid (Below w.heap.size w W4) := B3.out.trans (hb.mono B3.out.size)
  have S4 : Hid (IHolds W4 w.heap.size 43 [p1, p2] ∧ IHolds W4 (w.heap.size + 1) 43 [p3, p4]) := ⟨S3.out.1.of_below hb, S3.out.2.of_below hb⟩
  have J4 : Hid (IHolds W4 (w.heap.size + 1 + 1) 43 [.slice none 0 0, .slice none 0 0]) := J3.out.of_below hb
  have Ny1 : Hid (NumV W4 10 X1 y1) := Ny1.out.of_below hb
  have Ny2 : Hid (NumV W4 10 X2 y2) := Ny2.out.of_below hb
  have Ny3 : Hid (NumV W4 10 X y3) := Ny3.out.of_below hb
  have Ny4 : Hid (NumV W4 10 Y y4) := hv
  clear hv
  clear hb B3 S3 J3
  go_wp2_with fail
  refine hK.out _ _ S4.out (fun hHeld4 => ?_)
  clear hK K
  try simp only [Act.put, List.getElem_toArray, List.getElem_cons_succ, List.getElem_cons_zero, List.setIfInBounds_toArray, List.set_cons_zero, List.set_cons_succ, Array.toArray_toList]
  refine wpAnyH_ready (rs := [16]) (by kernel_rfl) (by simp) ?_
  refine AllReadyH.cons rfl (fun K hK => ?_) AllReadyH.nil
  go_simp
  refine (CL.out W4 y3 y4 Ny3.out Ny4.out).mono ?_
  rintro e W5 ⟨⟨u1, u2, rfl, hv, hv2⟩, hb⟩
  have B5 : Hid (Below w.heap.size w W5) := B4.out.trans (hb.mono B4.out.size)
  have S5 : Hid (IHolds W5 w.heap.size 43 [p1, p2] ∧ IHolds W5 (w.heap.size + 1) 43 [p3, p4]) := ⟨S4.out.1.of_below hb, S4.out.2.of_below hb⟩
  have J5 : Hid (IHolds W5 (w.heap.size + 1 + 1) 43 [.slice none 0 0, .slice none 0 0]) := J4.out.of_below hb
  have Ny1 : Hid (NumV W5 10 X1 y1) := Ny1.out.of_below hb
  have Ny2 : Hid (NumV W5 10 X2 y2) := Ny2.out.of_below hb
  have Ny3 : Hid (NumV W5 10 X y3) := Ny3.out.of_below hb
  have Ny4 : Hid (NumV W5 10 Y y4) := Ny4.out.of_below hb
  have Nu1 : Hid (NumV W5 10 (X / Nat.gcd X Y) u1) := hv
  clear hv
  have Nu2 : Hid (NumV W5 10 (Y / Nat.gcd X Y) u2) := hv2
  clear hv2
  clear hb B4 S4 J4
  obtain ⟨x1, L1, k1, rfl⟩ : ∃ a L c, u1 = .slice a L c := by obtain ⟨a, cap, h, _⟩ := Nu1.out; exact ⟨_, _, _, h⟩
  obtain ⟨x2, L2, k2, rfl⟩ : ∃ a L c, u2 = .slice a L c := by obtain ⟨a, cap, h, _⟩ := Nu2.out; exact ⟨_, _, _, h⟩
  go_wp2_with fail
  refine hK.out _ _ S5.out (fun hHeld5 => ?_)
  clear hK K
  try simp only [Act.put, List.getElem_toArray, List.getElem_cons_succ, List.getElem_cons_zero, List.setIfInBounds_toArray, List.set_cons_zero, List.set_cons_succ, Array.toArray_toList]
  refine wpAnyH_ready (rs := [17]) (by kernel_rfl) (by simp) ?_
  refine AllReadyH.cons rfl (fun K hK => ?_) AllReadyH.nil
  have I3 := J5.out
  have c0 := I3.two0
  have c1 := I3.two1
  have f0 : ∀ i, W5.frozen? ⟨w.heap.size + 1 + 1, i, none⟩ = false := fun i => I3.frozen i
  have I4 := (I3.set 0 (.slice x1 L1 k1)).set 1 (.slice x2 L2 k2)
  have hBut : But (w.heap.size + 1 + 1) W5 ((W5.setCell ⟨w.heap.size + 1 + 1, 0, none⟩ (.slice x1 L1 k1)).setCell ⟨w.heap.size + 1 + 1, 1, none⟩ (.slice x2 L2 k2)) := ((But.refl _ W5).setCell 0 _).setCell 1 _
  have UZ : Hid (NumV ((W5.setCell ⟨w.heap.size + 1 + 1, 0, none⟩ (.slice x1 L1 k1)).setCell ⟨w.heap.size + 1 + 1, 1, none⟩ (.slice x2 L2 k2)) 10 (X / Nat.gcd X Y) (.slice x1 L1 k1)) := Nu1.out.apart I3 (by simp) hBut
  have XZ : Hid (NumV ((W5.setCell ⟨w.heap.size + 1 + 1, 0, none⟩ (.slice x1 L1 k1)).setCell ⟨w.heap.size + 1 + 1, 1, none⟩ (.slice x2 L2 k2)) 10 (Y / Nat.gcd X Y) (.slice x2 L2 k2)) := Nu2.out.apart I3 (by simp) hBut
  have BZ : Hid (Below w.heap.size w ((W5.setCell ⟨w.heap.size + 1 + 1, 0, none⟩ (.slice x1 L1 k1)).setCell ⟨w.heap.size + 1 + 1, 1, none⟩ (.slice x2 L2 k2))) := (B5.out.setCell (by show w.heap.size ≤ w.heap.size + 1 + 1; omega) _).setCell (by show w.heap.size ≤ w.heap.size + 1 + 1; omega) _
  have SZ : Hid (IHolds ((W5.setCell ⟨w.heap.size + 1 + 1, 0, none⟩ (.slice x1 L1 k1)).setCell ⟨w.heap.size + 1 + 1, 1, none⟩ (.slice x2 L2 k2)) w.heap.size 43 [p1, p2] ∧ IHolds ((W5.setCell ⟨w.heap.size + 1 + 1, 0, none⟩ (.slice x1 L1 k1)).setCell ⟨w.heap.size + 1 + 1, 1, none⟩ (.slice x2 L2 k2)) (w.heap.size + 1) 43 [p3, p4]) := ⟨S5.out.1.of_but hBut (by omega), S5.out.2.of_but hBut (by omega)⟩
  have E0 : Hid (((W5.setCell ⟨w.heap.size + 1 + 1, 0, none⟩ (.slice x1 L1 k1)).setCell ⟨w.heap.size + 1 + 1, 1, none⟩ (.slice x2 L2 k2)).cell? ⟨w.heap.size + 1 + 1, 0, none⟩ = some (.slice x1 L1 k1)) := I4.cell 0 (by simp)
  have E1 : Hid (((W5.setCell ⟨w.heap.size + 1 + 1, 0, none⟩ (.slice x1 L1 k1)).setCell ⟨w.heap.size + 1 + 1, 1, none⟩ (.slice x2 L2 k2)).cell? ⟨w.heap.size + 1 + 1, 1, none⟩ = some (.slice x2 L2 k2)) := I4.cell 1 (by simp)
  clear I3 I4 hBut B5 S5 J5
  go_simp
  go_wp2_with fail
  refine hK.out _ _ SZ.out (fun hHeldZ => ?_)
  clear hK K c0 c1 f0
  try simp only [Act.put, List.getElem_toArray, List.getElem_cons_succ, List.getElem_cons_zero, List.setIfInBounds_toArray, List.set_cons_zero, List.set_cons_succ, Array.toArray_toList]
  generalize ((W5.setCell ⟨w.heap.size + 1 + 1, 0, none⟩ (.slice x1 L1 k1)).setCell ⟨w.heap.size + 1 + 1, 1, none⟩ (.slice x2 L2 k2)) = WZ at *
  refine wpAnyH_done (by kernel_rfl) ?_ _
  clear hHeld0 hHeld1 hHeld2 hHeld3 hHeld4 hHeld5 hHeldZ
  go_wp2_with fail
  exact bodyPost_ret (v := .agg #[.slice x1 L1 k1, .slice x2 L2 k2]) (by simp [results, Tryd.results36, go_sem, E0.out, E1.out]) rfl ⟨⟨_, _, rfl, UZ.out, XZ.out⟩, BZ.out⟩

set_option maxRecDepth 100000 in
set_option maxHeartbeats 2000000 in
theorem refOrderV {w : World} {n1 d1 n2 d2 : Nat} {p1 p2 p3 p4 : Value} (hN : NumV w 10 n1 p1 ∧ NumV w 10 d1 p2 ∧ NumV w 10 n2 p3 ∧ NumV w 10 d2 p4)
    (l1 : (dg 10 n1).length ≤ 400000) (l2 : (dg 10 d1).length ≤ 400000) (l3 : (dg 10 n2).length ≤ 400000) (l4 : (dg 10 d2).length ≤ 400000) :
    Calls Tryd.prog 34 #[.agg #[p1, p2], .agg #[p3, p4]] w fun e w' => e = .returned (.int .i64 (cmp3 ((n1 * d2 : Nat) : Int) ((n2 * d1 : Nat) : Int))) ∧ Below w.heap.size w w' := by
  obtain ⟨q1, q2, q3, q4⟩ := hN
  have Q1 : Hid (∀ W, Below w.heap.size w W → NumV W 10 n1 p1) := fun W hW => q1.of_below hW
  have Q2 : Hid (∀ W, Below w.heap.size w W → NumV W 10 d1 p2) := fun W hW => q2.of_below hW
  have Q3 : Hid (∀ W, Below w.heap.size w W → NumV W 10 n2 p3) := fun W hW => q3.of_below hW
  have Q4 : Hid (∀ W, Below w.heap.size w W → NumV W 10 d2 p4) := fun W hW => q4.of_below hW
  clear q1 q2 q3 q4
  have LA := dg_len_mul ten n1 d2
  have LB := dg_len_mul ten n2 d1
  have C1 : Hid (∀ W, Below w.heap.size w W → Calls Tryd.prog 16 #[p1, p4] W fun e w' => (∃ v, e = .returned v ∧ NumV w' 10 (n1 * d2) v) ∧ Below W.heap.size W w') := fun W hW => refMulV (Q1.out W hW) (Q4.out W hW) (by omega) (by omega)
  have C2 : Hid (∀ W, Below w.heap.size w W → Calls Tryd.prog 16 #[p3, p2] W fun e w' => (∃ v, e = .returned v ∧ NumV w' 10 (n2 * d1) v) ∧ Below W.heap.size W w') := fun W hW => refMulV (Q3.out W hW) (Q2.out W hW) (by omega) (by omega)
  have C3 : Hid (∀ W v v', NumV W 10 (n1 * d2) v → NumV W 10 (n2 * d1) v' → Calls Tryd.prog 18 #[v, v'] W fun e w' => e = .returned (.int .i64 (cmp3 ((n1 * d2 : Nat) : Int) ((n2 * d1 : Nat) : Int))) ∧ Below W.heap.size W w') := fun W v v' g1 g2 => refCompareV g1 g2 (by omega) (by omega)
  clear LA LB l1 l2 l3 l4
  generalize cmp3 ((n1 * d2 : Nat) : Int) ((n2 * d1 : Nat) : Int) = Z at *
  generalize n1 * d2 = X1 at *
  generalize n2 * d1 = X2 at *
  go_enter Tryd.func34, Tryd.ntmps34
  go_wp2_with fail
  obtain ⟨W3, hW3⟩ : ∃ W3, W3 = (w.alloc (.cells #[p1, p2] 43)).alloc (.cells #[p3, p4] 43) := ⟨_, rfl⟩
  have q1 : IHolds W3 w.heap.size 43 [p1, p2] := by rw [hW3]; exact ((IHolds.new w 43 [p1, p2]).alloc _)
  have q2 : IHolds W3 (w.heap.size + 1) 43 [p3, p4] := by
    have := (IHolds.new (w.alloc (.cells #[p1, p2] 43)) 43 [p3, p4])
    rw [World.size_alloc] at this
    rw [hW3]
    exact this
  have B0 : Hid (Below w.heap.size w W3.drew) := by
    have b : Below w.heap.size w W3 := by rw [hW3]; exact ((Below.refl _ w).alloc (Nat.le_refl _) _).alloc (by simp) _
    exact b.drew
  rw [← hW3]
  clear hW3
  have S0 : Hid (IHolds W3.drew w.heap.size 43 [p1, p2] ∧ IHolds W3.drew (w.heap.size + 1) 43 [p3, p4]) := ⟨q1.drew, q2.drew⟩
  clear q1 q2
  refine wp_region_held_drew (S := fun W => IHolds W w.heap.size 43 [p1, p2] ∧ IHolds W (w.heap.size + 1) 43 [p3, p4]) (by kernel_rfl) S0.out (fun hHeld0 => ?_)
  generalize W3.drew = W0 at *
  refine wpAnyH_take (i := 0) (v := .pointer (some ⟨w.heap.size, 0, none⟩)) rfl (by kernel_rfl) (by kernel_rfl) (by kernel_rfl) (fun _ _ _ h => h) (Or.inl ⟨by rfl, ?_⟩) hHeld0 ?_
  · intro W hS
    have z0 := hS.1.two0
    have z1 := hS.1.two1
    have z2 := hS.2.two0
    have z3 := hS.2.two1
    go_simp
  simp only [Act.put, List.getElem_toArray, List.getElem_cons_succ, List.getElem_cons_zero, List.setIfInBounds_toArray, List.set_cons_zero, List.set_cons_succ, Array.toArray_toList]
  refine wpAnyH_take (i := 1) (v := p1) rfl (by kernel_rfl) (by kernel_rfl) (by kernel_rfl) (fun _ _ _ h => h) (Or.inl ⟨by rfl, ?_⟩) hHeld0 ?_
  · intro W hS
    have z0 := hS.1.two0
    have z1 := hS.1.two1
    have z2 := hS.2.two0
    have z3 := hS.2.two1
    go_simp
  simp only [Act.put, List.getElem_toArray, List.getElem_cons_succ, List.getElem_cons_zero, List.setIfInBounds_toArray, List.set_cons_zero, List.set_cons_succ, Array.toArray_toList]
  refine wpAnyH_take (i := 2) (v := .pointer (some ⟨w.heap.size + 1, 1, none⟩)) rfl (by kernel_rfl) (by kernel_rfl) (by kernel_rfl) (fun _ _ _ h => h) (Or.inl ⟨by rfl, ?_⟩) hHeld0 ?_
  · intro W hS
    have z0 := hS.1.two0
    have z1 := hS.1.two1
    have z2 := hS.2.two0
    have z3 := hS.2.two1
    go_simp
  simp only [Act.put, List.getElem_toArray, List.getElem_cons_succ, List.getElem_cons_zero, List.setIfInBounds_toArray, List.set_cons_zero, List.set_cons_succ, Array.toArray_toList]
  refine wpAnyH_take (i := 3) (v := p4) rfl (by kernel_rfl) (by kernel_rfl) (by kernel_rfl) (fun _ _ _ h => h) (Or.inl ⟨by rfl, ?_⟩) hHeld0 ?_
  · intro W hS
    have z0 := hS.1.two0
    have z1 := hS.1.two1
    have z2 := hS.2.two0
    have z3 := hS.2.two1
    go_simp
  simp only [Act.put, List.getElem_toArray, List.getElem_cons_succ, List.getElem_cons_zero, List.setIfInBounds_toArray, List.set_cons_zero, List.set_cons_succ, Array.toArray_toList]
  refine wpAnyH_take (i := 5) (v := .pointer (some ⟨w.heap.size + 1, 0, none⟩)) rfl (by kernel_rfl) (by kernel_rfl) (by kernel_rfl) (fun _ _ _ h => h) (Or.inl ⟨by rfl, ?_⟩) hHeld0 ?_
  · intro W hS
    have z0 := hS.1.two0
    have z1 := hS.1.two1
    have z2 := hS.2.two0
    have z3 := hS.2.two1
    go_simp
  simp only [Act.put, List.getElem_toArray, List.getElem_cons_succ, List.getElem_cons_zero, List.setIfInBounds_toArray, List.set_cons_zero, List.set_cons_succ, Array.toArray_toList]
  refine wpAnyH_take (i := 6) (v := p3) rfl (by kernel_rfl) (by kernel_rfl) (by kernel_rfl) (fun _ _ _ h => h) (Or.inl ⟨by rfl, ?_⟩) hHeld0 ?_
  · intro W hS
    have z0 := hS.1.two0
    have z1 := hS.1.two1
    have z2 := hS.2.two0
    have z3 := hS.2.two1
    go_simp
  simp only [Act.put, List.getElem_toArray, List.getElem_cons_succ, List.getElem_cons_zero, List.setIfInBounds_toArray, List.set_cons_zero, List.set_cons_succ, Array.toArray_toList]
  refine wpAnyH_take (i := 7) (v := .pointer (some ⟨w.heap.size, 1, none⟩)) rfl (by kernel_rfl) (by kernel_rfl) (by kernel_rfl) (fun _ _ _ h => h) (Or.inl ⟨by rfl, ?_⟩) hHeld0 ?_
  · intro W hS
    have z0 := hS.1.two0
    have z1 := hS.1.two1
    have z2 := hS.2.two0
    have z3 := hS.2.two1
    go_simp
  simp only [Act.put, List.getElem_toArray, List.getElem_cons_succ, List.getElem_cons_zero, List.setIfInBounds_toArray, List.set_cons_zero, List.set_cons_succ, Array.toArray_toList]
  refine wpAnyH_take (i := 8) (v := p2) rfl (by kernel_rfl) (by kernel_rfl) (by kernel_rfl) (fun _ _ _ h => h) (Or.inl ⟨by rfl, ?_⟩) hHeld0 ?_
  · intro W hS
    have z0 := hS.1.two0
    have z1 := hS.1.two1
    have z2 := hS.2.two0
    have z3 := hS.2.two1
    go_simp
  simp only [Act.put, List.getElem_toArray, List.getElem_cons_succ, List.getElem_cons_zero, List.setIfInBounds_toArray, List.set_cons_zero, List.set_cons_succ, Array.toArray_toList]
  refine wpAnyH_ready (rs := [4]) (by kernel_rfl) (by simp) ?_
  refine AllReadyH.cons rfl (fun K hK => ?_) AllReadyH.nil
  go_simp
  refine (C1.out W0 B0.out).mono ?_
  rintro e W1 ⟨⟨y1, rfl, hv⟩, hb⟩
  have B1 : Hid (Below w.heap.size w W1) := B0.out.trans (hb.mono B0.out.size)
  have S1 : Hid (IHolds W1 w.heap.size 43 [p1, p2] ∧ IHolds W1 (w.heap.size + 1) 43 [p3, p4]) := ⟨S0.out.1.of_below hb, S0.out.2.of_below hb⟩
  have Ny1 : Hid (NumV W1 10 X1 y1) := hv
  clear hv
  clear hb B0 S0
  go_wp2_with fail
  refine hK.out _ _ S1.out (fun hHeld1 => ?_)
  clear hK K
  try simp only [Act.put, List.getElem_toArray, List.getElem_cons_succ, List.getElem_cons_zero, List.setIfInBounds_toArray, List.set_cons_zero, List.set_cons_succ, Array.toArray_toList]
  refine wpAnyH_ready (rs := [9]) (by kernel_rfl) (by simp) ?_
  refine AllReadyH.cons rfl (fun K hK => ?_) AllReadyH.nil
  go_simp
  refine (C2.out W1 B1.out).mono ?_
  rintro e W2 ⟨⟨y2, rfl, hv⟩, hb⟩
  have B2 : Hid (Below w.heap.size w W2) := B1.out.trans (hb.mono B1.out.size)
  have S2 : Hid (IHolds W2 w.heap.size 43 [p1, p2] ∧ IHolds W2 (w.heap.size + 1) 43 [p3, p4]) := ⟨S1.out.1.of_below hb, S1.out.2.of_below hb⟩
  have Ny1 : Hid (NumV W2 10 X1 y1) := Ny1.out.of_below hb
  have Ny2 : Hid (NumV W2 10 X2 y2) := hv
  clear hv
  clear hb B1 S1
  go_wp2_with fail
  refine hK.out _ _ S2.out (fun hHeld2 => ?_)
  clear hK K
  try simp only [Act.put, List.getElem_toArray, List.getElem_cons_succ, List.getElem_cons_zero, List.setIfInBounds_toArray, List.set_cons_zero, List.set_cons_succ, Array.toArray_toList]
  refine wpAnyH_ready (rs := [10]) (by kernel_rfl) (by simp) ?_
  refine AllReadyH.cons rfl (fun K hK => ?_) AllReadyH.nil
  go_simp
  refine (C3.out W2 y1 y2 Ny1.out Ny2.out).mono ?_
  rintro e W3 ⟨rfl, hb⟩
  have B3 : Hid (Below w.heap.size w W3) := B2.out.trans (hb.mono B2.out.size)
  have S3 : Hid (IHolds W3 w.heap.size 43 [p1, p2] ∧ IHolds W3 (w.heap.size + 1) 43 [p3, p4]) := ⟨S2.out.1.of_below hb, S2.out.2.of_below hb⟩
  have Ny1 : Hid (NumV W3 10 X1 y1) := Ny1.out.of_below hb
  have Ny2 : Hid (NumV W3 10 X2 y2) := Ny2.out.of_below hb
  clear hb B2 S2
  go_wp2_with fail
  refine hK.out _ _ S3.out (fun hHeld3 => ?_)
  clear hK K
  try simp only [Act.put, List.getElem_toArray, List.getElem_cons_succ, List.getElem_cons_zero, List.setIfInBounds_toArray, List.set_cons_zero, List.set_cons_succ, Array.toArray_toList]
  refine wpAnyH_take (i := 11) (v := .int .i64 Z) rfl (by kernel_rfl) (by kernel_rfl) (by kernel_rfl) (fun _ _ _ h => h) (Or.inl ⟨by rfl, ?_⟩) hHeld3 ?_
  · intro W hS
    have z0 := hS.1.two0
    have z1 := hS.1.two1
    have z2 := hS.2.two0
    have z3 := hS.2.two1
    go_simp
  simp only [Act.put, List.getElem_toArray, List.getElem_cons_succ, List.getElem_cons_zero, List.setIfInBounds_toArray, List.set_cons_zero, List.set_cons_succ, Array.toArray_toList]
  refine wpAnyH_done (by kernel_rfl) ?_ _
  clear hHeld0 hHeld1 hHeld2 hHeld3
  go_wp2_with fail
  go_ret
  exact ⟨rfl, B3.out⟩
end Go.Proofs.YtnahindcgedbaaaDoor
