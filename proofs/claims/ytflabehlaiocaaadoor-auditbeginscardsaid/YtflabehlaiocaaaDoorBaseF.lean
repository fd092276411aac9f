/- The walks of isOne and by. -/
import Derived.Test.YtflabehlaiocaaaDoorKd
import Derived.Test.YtflabehlaiocaaaDoorBaseE
import Derived.Test.YtflabehlaiocaaaDoorKc
set_option linter.unusedSimpArgs false
set_option linter.unusedVariables false
namespace Go.Proofs.YtflabehlaiocaaaDoor
open Go.RowKit Go.Deep Go.PlainAid

set_option maxRecDepth 100000 in
set_option maxHeartbeats 1000000 in
theorem isOneV {w : World} {n : Nat} {v : Value} (h : NumV w 1000000000 n v) (hb : (dg 1000000000 n).length ≤ 1000000) :
    Calls Tryd.prog 51 #[v] w fun e w' => e = .returned (.bool (n == 1)) ∧ w' = w := by
  obtain ⟨a, cap, rfl, hc, hr⟩ := h
  have hv := vl_dg bigBase n
  have hm := dg_mem bigBase n
  have h11 : n = 1 → (dg 1000000000 n).length = 1 := by
    rintro rfl
    rw [dg_pos bigBase (by omega)]
    simp [dg_zero]
  generalize dg 1000000000 n = l at *
  by_cases hl : l.length = 1
  · obtain ⟨d, rfl⟩ := List.length_eq_one_iff.1 hl
    obtain ⟨b, o, rfl, e1⟩ := hr 0 (by simp)
    have hd : d < 1000000000 := hm d (by simp)
    have hnd : d = n := by simpa [vl] using hv
    have e2 : w.cell? ⟨b, o, none⟩ = some (.int .i64 (d : Int)) := e1
    subst hnd
    clear e1 hr hv hm hl h11
    by_cases h1 : d = 1
    · subst h1
      go_enter Tryd.func51, Tryd.ntmps51
      go_wp2_with fail
      go_ret
      exact ⟨rfl, rfl⟩
    · have h2 : ((d : Int) == 1) = false := beq_eq_false_iff_ne.2 (by omega)
      rw [beq_eq_false_iff_ne.2 h1]
      go_enter Tryd.func51, Tryd.ntmps51
      go_wp2_with fail
      go_ret
      exact ⟨rfl, rfl⟩
  · have h1 : n ≠ 1 := by
      intro h
      exact hl (h11 h)
    have h2 : ((l.length : Int) == 1) = false := beq_eq_false_iff_ne.2 (by omega)
    rw [beq_eq_false_iff_ne.2 h1]
    clear hl hr hv hm h11
    go_enter Tryd.func51, Tryd.ntmps51
    go_wp2_with fail
    go_ret
    exact ⟨rfl, rfl⟩

set_option maxRecDepth 100000 in
set_option maxHeartbeats 1000000 in
theorem byV {w : World} {n m : Nat} {v1 v2 : Value} (h1 : NumV w 1000000000 n v1) (h2 : NumV w 1000000000 m v2) (hm : m ≠ 0) (b1 : (dg 1000000000 n).length ≤ 900000) (b2 : (dg 1000000000 m).length ≤ 900000) :
    Calls Tryd.prog 41 #[v1, v2] w fun e w' => (∃ v, e = .returned v ∧ NumV w' 1000000000 (n / m) v) ∧ Below w.heap.size w w' := by
  have Z := isOneV h2 (by omega)
  by_cases h : m = 1
  · subst h
    have HN : Hid (NumV w 1000000000 (n / 1) v1) := by show NumV _ _ _ _; rw [Nat.div_one]; exact h1
    clear h1 h2
    go_enter Tryd.func41, Tryd.ntmps41
    go_wp2_with fail
    refine Z.mono ?_
    rintro e w1 ⟨rfl, rfl⟩
    go_wp2_with fail
    go_ret
    exact ⟨⟨_, rfl, HN.out⟩, Below.refl _ _⟩
  · rw [beq_eq_false_iff_ne.2 h] at Z
    have O := overV h1 h2 hm (by omega) (by omega)
    clear h1 h2 b1 b2
    generalize n / m = q at *
    generalize n % m = r at *
    go_enter Tryd.func41, Tryd.ntmps41
    go_wp2_with fail
    refine Z.mono ?_
    rintro e w1 ⟨rfl, rfl⟩
    go_wp2_with fail
    refine O.mono ?_
    rintro e w2 ⟨⟨u1, u2, rfl, g1, g2⟩, hb⟩
    have G1 : Hid (NumV w2 1000000000 q u1) := g1
    have HB : Hid (Below w1.heap.size w1 w2) := hb
    clear g1 g2 hb
    go_wp2_with fail
    go_ret
    exact ⟨⟨_, rfl, G1.out⟩, HB.out⟩
end Go.Proofs.YtflabehlaiocaaaDoor

/- The walk of lowest. -/
set_option linter.unusedSimpArgs false
set_option linter.unusedVariables false
namespace Go.Proofs.YtflabehlaiocaaaDoor
open Go.RowKit Go.Deep Go.PlainAid

set_option maxRecDepth 100000 in
set_option maxHeartbeats 1000000 in
theorem lowestV {w : World} {n m : Nat} {v1 v2 : Value} (h1 : NumV w 1000000000 n v1) (h2 : NumV w 1000000000 m v2) (hm : m ≠ 0) (b1 : (dg 1000000000 n).length ≤ 900000) (b2 : (dg 1000000000 m).length ≤ 900000) :
    Calls Tryd.prog 28 #[v1, v2] w fun e w' => (∃ u1 u2, e = .returned (.agg #[u1, u2]) ∧ NumV w' 1000000000 (n / Nat.gcd n m) u1 ∧ NumV w' 1000000000 (m / Nat.gcd n m) u2) ∧ Below w.heap.size w w' := by
  have A1 : Hid (∀ W, Below w.heap.size w W → NumV W 1000000000 n v1) := fun W hW => h1.of_below hW
  have A2 : Hid (∀ W, Below w.heap.size w W → NumV W 1000000000 m v2) := fun W hW => h2.of_below hW
  have hg : Nat.gcd n m ≠ 0 := by
    have := Nat.gcd_pos_of_pos_right n (Nat.pos_of_ne_zero hm)
    omega
  have bg : (dg 1000000000 (Nat.gcd n m)).length ≤ 900000 := Nat.le_trans (dg_len_mono bigBase (Nat.gcd_le_right n (Nat.pos_of_ne_zero hm))) b2
  have CG : Hid (∀ W, Below w.heap.size w W → Calls Tryd.prog 40 #[v1, v2] W fun e w' => (∃ v, e = .returned v ∧ NumV w' 1000000000 (Nat.gcd n m) v) ∧ Below W.heap.size W w') := fun W hW => gcdV (A1.out W hW) (A2.out W hW) (by omega) (by omega)
  have D1 : Hid (∀ W v, Below w.heap.size w W → NumV W 1000000000 (Nat.gcd n m) v → Calls Tryd.prog 41 #[v1, v] W fun e w' => (∃ u, e = .returned u ∧ NumV w' 1000000000 (n / Nat.gcd n m) u) ∧ Below W.heap.size W w') := fun W v hW hv => byV (A1.out W hW) hv hg b1 bg
  have D2 : Hid (∀ W v, Below w.heap.size w W → NumV W 1000000000 (Nat.gcd n m) v → Calls Tryd.prog 41 #[v2, v] W fun e w' => (∃ u, e = .returned u ∧ NumV w' 1000000000 (m / Nat.gcd n m) u) ∧ Below W.heap.size W w') := fun W v hW hv => byV (A2.out W hW) hv hg b2 bg
  clear h1 h2 hg bg b1 b2 A1 A2
  generalize Nat.gcd n m = g at *
  have B0 : Hid (Below w.heap.size w (w.alloc (.cells #[.slice none 0 0, .slice none 0 0] 39))) := (Below.refl _ w).alloc (Nat.le_refl _) _
  have I0 : Hid (IHolds (w.alloc (.cells #[.slice none 0 0, .slice none 0 0] 39)) w.heap.size 39 [.slice none 0 0, .slice none 0 0]) := IHolds.new w 39 _
  go_enter Tryd.func28, Tryd.ntmps28
  go_wp2_with fail
  generalize w.alloc (.cells #[.slice none 0 0, .slice none 0 0] 39) = W0 at *
  refine (CG.out W0 B0.out).mono ?_
  rintro e W1 ⟨⟨v, rfl, hv⟩, hb⟩
  have B1 : Hid (Below w.heap.size w W1) := B0.out.trans (hb.mono B0.out.size)
  have I1 : Hid (IHolds W1 w.heap.size 39 [.slice none 0 0, .slice none 0 0]) := I0.out.of_below hb
  have N1 : Hid (NumV W1 1000000000 g v) := hv
  clear hv hb B0 I0
  go_wp2_with fail
  refine (D1.out W1 v B1.out N1.out).mono ?_
  rintro e W2 ⟨⟨u1, rfl, hv⟩, hb⟩
  have B2 : Hid (Below w.heap.size w W2) := B1.out.trans (hb.mono B1.out.size)
  have I2 : Hid (IHolds W2 w.heap.size 39 [.slice none 0 0, .slice none 0 0]) := I1.out.of_below hb
  have N2 : Hid (NumV W2 1000000000 g v) := N1.out.of_below hb
  have U2 : Hid (NumV W2 1000000000 (n / g) u1) := hv
  clear hv hb B1 I1 N1
  go_wp2_with fail
  refine (D2.out W2 v B2.out N2.out).mono ?_
  rintro e W3 ⟨⟨u2, rfl, hv⟩, hb⟩
  have B3 : Hid (Below w.heap.size w W3) := B2.out.trans (hb.mono B2.out.size)
  have I3 := I2.out.of_below hb
  have U3 : Hid (NumV W3 1000000000 (n / g) u1) := U2.out.of_below hb
  have X3 : Hid (NumV W3 1000000000 (m / g) u2) := hv
  clear hv hb B2 I2 N2 U2
  obtain ⟨x1, L1, k1, rfl⟩ : ∃ a L c, u1 = .slice a L c := by obtain ⟨a, cap, h, _⟩ := U3.out; exact ⟨_, _, _, h⟩
  obtain ⟨x2, L2, k2, rfl⟩ : ∃ a L c, u2 = .slice a L c := by obtain ⟨a, cap, h, _⟩ := X3.out; exact ⟨_, _, _, h⟩
  have c0 : W3.cell? ⟨w.heap.size, 0, none⟩ = some (.slice none 0 0) := I3.cell 0 (by simp)
  have c1 : W3.cell? ⟨w.heap.size, 1, none⟩ = some (.slice none 0 0) := I3.cell 1 (by simp)
  have f0 : ∀ i, W3.frozen? ⟨w.heap.size, i, none⟩ = false := fun i => I3.frozen i
  have I4 := (I3.set 0 (.slice x1 L1 k1)).set 1 (.slice x2 L2 k2)
  have hBut : But w.heap.size W3 ((W3.setCell ⟨w.heap.size, 0, none⟩ (.slice x1 L1 k1)).setCell ⟨w.heap.size, 1, none⟩ (.slice x2 L2 k2)) := ((But.refl _ W3).setCell 0 (.slice x1 L1 k1)).setCell 1 _
  have U4 : Hid (NumV ((W3.setCell ⟨w.heap.size, 0, none⟩ (.slice x1 L1 k1)).setCell ⟨w.heap.size, 1, none⟩ (.slice x2 L2 k2)) 1000000000 (n / g) (.slice x1 L1 k1)) := U3.out.apart I3 (by simp) hBut
  have X4 : Hid (NumV ((W3.setCell ⟨w.heap.size, 0, none⟩ (.slice x1 L1 k1)).setCell ⟨w.heap.size, 1, none⟩ (.slice x2 L2 k2)) 1000000000 (m / g) (.slice x2 L2 k2)) := X3.out.apart I3 (by simp) hBut
  have B4 : Hid (Below w.heap.size w ((W3.setCell ⟨w.heap.size, 0, none⟩ (.slice x1 L1 k1)).setCell ⟨w.heap.size, 1, none⟩ (.slice x2 L2 k2))) := (B3.out.setCell (Nat.le_refl _) _).setCell (Nat.le_refl _) _
  have E0 : Hid (((W3.setCell ⟨w.heap.size, 0, none⟩ (.slice x1 L1 k1)).setCell ⟨w.heap.size, 1, none⟩ (.slice x2 L2 k2)).cell? ⟨w.heap.size, 0, none⟩ = some (.slice x1 L1 k1)) := I4.cell 0 (by simp)
  have E1 : Hid (((W3.setCell ⟨w.heap.size, 0, none⟩ (.slice x1 L1 k1)).setCell ⟨w.heap.size, 1, none⟩ (.slice x2 L2 k2)).cell? ⟨w.heap.size, 1, none⟩ = some (.slice x2 L2 k2)) := I4.cell 1 (by simp)
  clear I3 I4 hBut U3 X3 B3
  go_wp2_with fail
  clear c0 c1 f0
  generalize (W3.setCell ⟨w.heap.size, 0, none⟩ (.slice x1 L1 k1)).setCell ⟨w.heap.size, 1, none⟩ (.slice x2 L2 k2) = W5 at *
  exact bodyPost_ret (v := .agg #[.slice x1 L1 k1, .slice x2 L2 k2]) (by simp [results, Tryd.results28, go_sem, E0.out, E1.out]) rfl ⟨⟨_, _, rfl, U4.out, X4.out⟩, B4.out⟩
end Go.Proofs.YtflabehlaiocaaaDoor

/- The walk of fractions compared. -/
set_option linter.unusedSimpArgs false
set_option linter.unusedVariables false
namespace Go.Proofs.YtflabehlaiocaaaDoor
open Go.RowKit Go.Deep Go.PlainAid

theorem timesV {W : World} {n m : Nat} {v1 v2 : Value} (h1 : NumV W 1000000000 n v1) (h2 : NumV W 1000000000 m v2) (b1 : (dg 1000000000 n).length ≤ 1000000) (b2 : (dg 1000000000 m).length ≤ 1000000) :
    Calls Tryd.prog 38 #[v1, v2] W fun e w' => (∃ v, e = .returned v ∧ NumV w' 1000000000 (n * m) v) ∧ Below W.heap.size W w' := by
  obtain ⟨a1, c1, rfl, k1, r1⟩ := h1
  obtain ⟨a2, c2, rfl, k2, r2⟩ := h2
  exact times_any W a1 a2 c1 c2 n m r1 r2 b1 b2

set_option maxRecDepth 100000 in
set_option maxHeartbeats 2000000 in
theorem fracCompareV {w : World} {n1 d1 n2 d2 : Nat} {p1 p2 p3 p4 : Value} (hN : NumV w 1000000000 n1 p1 ∧ NumV w 1000000000 d1 p2 ∧ NumV w 1000000000 n2 p3 ∧ NumV w 1000000000 d2 p4)
    (l1 : (dg 1000000000 n1).length ≤ 400000) (l2 : (dg 1000000000 d1).length ≤ 400000) (l3 : (dg 1000000000 n2).length ≤ 400000) (l4 : (dg 1000000000 d2).length ≤ 400000) :
    Calls Tryd.prog 25 #[.agg #[p1, p2], .agg #[p3, p4]] w fun e w' => e = .returned (.int .i64 (cmp3 ((n1 * d2 : Nat) : Int) ((n2 * d1 : Nat) : Int))) ∧ Below w.heap.size w w' := by
  obtain ⟨q1, q2, q3, q4⟩ := hN
  have Q1 : Hid (∀ W, Below w.heap.size w W → NumV W 1000000000 n1 p1) := fun W hW => q1.of_below hW
  have Q2 : Hid (∀ W, Below w.heap.size w W → NumV W 1000000000 d1 p2) := fun W hW => q2.of_below hW
  have Q3 : Hid (∀ W, Below w.heap.size w W → NumV W 1000000000 n2 p3) := fun W hW => q3.of_below hW
  have Q4 : Hid (∀ W, Below w.heap.size w W → NumV W 1000000000 d2 p4) := fun W hW => q4.of_below hW
  clear q1 q2 q3 q4
  have LA := dg_len_mul bigBase n1 d2
  have LB := dg_len_mul bigBase n2 d1
  have C1 : Hid (∀ W, Below w.heap.size w W → Calls Tryd.prog 38 #[p1, p4] W fun e w' => (∃ v, e = .returned v ∧ NumV w' 1000000000 (n1 * d2) v) ∧ Below W.heap.size W w') := fun W hW => timesV (Q1.out W hW) (Q4.out W hW) (by omega) (by omega)
  have C2 : Hid (∀ W, Below w.heap.size w W → Calls Tryd.prog 38 #[p3, p2] W fun e w' => (∃ v, e = .returned v ∧ NumV w' 1000000000 (n2 * d1) v) ∧ Below W.heap.size W w') := fun W hW => timesV (Q3.out W hW) (Q2.out W hW) (by omega) (by omega)
  have C3 : Hid (∀ W v v', NumV W 1000000000 (n1 * d2) v → NumV W 1000000000 (n2 * d1) v' → Calls Tryd.prog 39 #[v, v'] W fun e w' => e = .returned (.int .i64 (cmp3 ((n1 * d2 : Nat) : Int) ((n2 * d1 : Nat) : Int))) ∧ Below W.heap.size W w') := fun W v v' g1 g2 => compareV g1 g2 (by omega) (by omega)
  clear LA LB l1 l2 l3 l4
  generalize cmp3 ((n1 * d2 : Nat) : Int) ((n2 * d1 : Nat) : Int) = Z at *
  generalize n1 * d2 = X1 at *
  generalize n2 * d1 = X2 at *
  go_enter Tryd.func25, Tryd.ntmps25
  go_wp2_with fail
  obtain ⟨W3, hW3⟩ : ∃ W3, W3 = (w.alloc (.cells #[p1, p2] 39)).alloc (.cells #[p3, p4] 39) := ⟨_, rfl⟩
  have q1 : IHolds W3 w.heap.size 39 [p1, p2] := by rw [hW3]; exact ((IHolds.new w 39 [p1, p2]).alloc _)
  have q2 : IHolds W3 (w.heap.size + 1) 39 [p3, p4] := by
    have := (IHolds.new (w.alloc (.cells #[p1, p2] 39)) 39 [p3, p4])
    rw [World.size_alloc] at this
    rw [hW3]
    exact this
  have B0 : Hid (Below w.heap.size w W3.drew) := by
    have b : Below w.heap.size w W3 := by rw [hW3]; exact ((Below.refl _ w).alloc (Nat.le_refl _) _).alloc (by simp) _
    exact b.drew
  rw [← hW3]
  clear hW3
  have S0 : Hid (IHolds W3.drew w.heap.size 39 [p1, p2] ∧ IHolds W3.drew (w.heap.size + 1) 39 [p3, p4]) := ⟨q1.drew, q2.drew⟩
  clear q1 q2
  refine wp_region_held_drew (S := fun W => IHolds W w.heap.size 39 [p1, p2] ∧ IHolds W (w.heap.size + 1) 39 [p3, p4]) (by kernel_rfl) S0.out (fun hHeld0 => ?_)
  generalize W3.drew = W0 at *
  refine wpAnyH_take (i := 0) (v := .pointer (some ⟨w.heap.size, 0, none⟩)) rfl (by kernel_rfl) (by kernel_rfl) (by kernel_rfl) (fun _ _ _ h => h) (Or.inl ⟨by rfl, ?_⟩) hHeld0 ?_
  · intro W hS
    have z0 := hS.1.two0
    have z1 := hS.1.two1
    have z2 := hS.2.two0
    have z3 := hS.2.two1
    go_simp
  simp only [Act.put, List.getElem_toArray, List.getElem_cons_succ, List.getElem_cons_zero, List.setIfInBounds_toArray, List.set_cons_zero, List.set_cons_succ, Array.toArray_toList]
  refine wpAnyH_take (i := 1) (v := p1) rfl (by kernel_rfl) (by kernel_rfl) (by kernel_rfl) (fun _ _ _ h => h) (Or.inl ⟨by rfl, ?_⟩) hHeld0 ?_
  · intro W hS
    have z0 := hS.1.two0
    have z1 := hS.1.two1
    have z2 := hS.2.two0
    have z3 := hS.2.two1
    go_simp
  simp only [Act.put, List.getElem_toArray, List.getElem_cons_succ, List.getElem_cons_zero, List.setIfInBounds_toArray, List.set_cons_zero, List.set_cons_succ, Array.toArray_toList]
  refine wpAnyH_take (i := 2) (v := .pointer (some ⟨w.heap.size + 1, 1, none⟩)) rfl (by kernel_rfl) (by kernel_rfl) (by kernel_rfl) (fun _ _ _ h => h) (Or.inl ⟨by rfl, ?_⟩) hHeld0 ?_
  · intro W hS
    have z0 := hS.1.two0
    have z1 := hS.1.two1
    have z2 := hS.2.two0
    have z3 := hS.2.two1
    go_simp
  simp only [Act.put, List.getElem_toArray, List.getElem_cons_succ, List.getElem_cons_zero, List.setIfInBounds_toArray, List.set_cons_zero, List.set_cons_succ, Array.toArray_toList]
  refine wpAnyH_take (i := 3) (v := p4) rfl (by kernel_rfl) (by kernel_rfl) (by kernel_rfl) (fun _ _ _ h => h) (Or.inl ⟨by rfl, ?_⟩) hHeld0 ?_
  · intro W hS
    have z0 := hS.1.two0
    have z1 := hS.1.two1
    have z2 := hS.2.two0
    have z3 := hS.2.two1
    go_simp
  simp only [Act.put, List.getElem_toArray, List.getElem_cons_succ, List.getElem_cons_zero, List.setIfInBounds_toArray, List.set_cons_zero, List.set_cons_succ, Array.toArray_toList]
  refine wpAnyH_take (i := 5) (v := .pointer (some ⟨w.heap.size + 1, 0, none⟩)) rfl (by kernel_rfl) (by kernel_rfl) (by kernel_rfl) (fun _ _ _ h => h) (Or.inl ⟨by rfl, ?_⟩) hHeld0 ?_
  · intro W hS
    have z0 := hS.1.two0
    have z1 := hS.1.two1
    have z2 := hS.2.two0
    have z3 := hS.2.two1
    go_simp
  simp only [Act.put, List.getElem_toArray, List.getElem_cons_succ, List.getElem_cons_zero, List.setIfInBounds_toArray, List.set_cons_zero, List.set_cons_succ, Array.toArray_toList]
  refine wpAnyH_take (i := 6) (v := p3) rfl (by kernel_rfl) (by kernel_rfl) (by kernel_rfl) (fun _ _ _ h => h) (Or.inl ⟨by rfl, ?_⟩) hHeld0 ?_
  · intro W hS
    have z0 := hS.1.two0
    have z1 := hS.1.two1
    have z2 := hS.2.two0
    have z3 := hS.2.two1
    go_simp
  simp only [Act.put, List.getElem_toArray, List.getElem_cons_succ, List.getElem_cons_zero, List.setIfInBounds_toArray, List.set_cons_zero, List.set_cons_succ, Array.toArray_toList]
  refine wpAnyH_take (i := 7) (v := .pointer (some ⟨w.heap.size, 1, none⟩)) rfl (by kernel_rfl) (by kernel_rfl) (by kernel_rfl) (fun _ _ _ h => h) (Or.inl ⟨by rfl, ?_⟩) hHeld0 ?_
  · intro W hS
    have z0 := hS.1.two0
    have z1 := hS.1.two1
    have z2 := hS.2.two0
    have z3 := hS.2.two1
    go_simp
  simp only [Act.put, List.getElem_toArray, List.getElem_cons_succ, List.getElem_cons_zero, List.setIfInBounds_toArray, List.set_cons_zero, List.set_cons_succ, Array.toArray_toList]
  refine wpAnyH_take (i := 8) (v := p2) rfl (by kernel_rfl) (by kernel_rfl) (by kernel_rfl) (fun _ _ _ h => h) (Or.inl ⟨by rfl, ?_⟩) hHeld0 ?_
  · intro W hS
    have z0 := hS.1.two0
    have z1 := hS.1.two1
    have z2 := hS.2.two0
    have z3 := hS.2.two1
    go_simp
  simp only [Act.put, List.getElem_toArray, List.getElem_cons_succ, List.getElem_cons_zero, List.setIfInBounds_toArray, List.set_cons_zero, List.set_cons_succ, Array.toArray_toList]
  refine wpAnyH_ready (rs := [4]) (by kernel_rfl) (by simp) ?_
  refine AllReadyH.cons rfl (fun K hK => ?_) AllReadyH.nil
  go_simp
  refine (C1.out W0 B0.out).mono ?_
  rintro e W1 ⟨⟨y1, rfl, hv⟩, hb⟩
  have B1 : Hid (Below w.heap.size w W1) := B0.out.trans (hb.mono B0.out.size)
  have S1 : Hid (IHolds W1 w.heap.size 39 [p1, p2] ∧ IHolds W1 (w.heap.size + 1) 39 [p3, p4]) := ⟨S0.out.1.of_below hb, S0.out.2.of_below hb⟩
  have Ny1 : Hid (NumV W1 1000000000 X1 y1) := hv
  clear hv
  clear hb B0 S0
  go_wp2_with fail
  refine hK.out _ _ S1.out (fun hHeld1 => ?_)
  clear hK K
  try simp only [Act.put, List.getElem_toArray, List.getElem_cons_succ, List.getElem_cons_zero, List.setIfInBounds_toArray, List.set_cons_zero, List.set_cons_succ, Array.toArray_toList]
  refine wpAnyH_ready (rs := [9]) (by kernel_rfl) (by simp) ?_
  refine AllReadyH.cons rfl (fun K hK => ?_) AllReadyH.nil
  go_simp
  refine (C2.out W1 B1.out).mono ?_
  rintro e W2 ⟨⟨y2, rfl, hv⟩, hb⟩
  have B2 : Hid (Below w.heap.size w W2) := B1.out.trans (hb.mono B1.out.size)
  have S2 : Hid (IHolds W2 w.heap.size 39 [p1, p2] ∧ IHolds W2 (w.heap.size + 1) 39 [p3, p4]) := ⟨S1.out.1.of_below hb, S1.out.2.of_below hb⟩
  have Ny1 : Hid (NumV W2 1000000000 X1 y1) := Ny1.out.of_below hb
  have Ny2 : Hid (NumV W2 1000000000 X2 y2) := hv
  clear hv
  clear hb B1 S1
  go_wp2_with fail
  refine hK.out _ _ S2.out (fun hHeld2 => ?_)
  clear hK K
  try simp only [Act.put, List.getElem_toArray, List.getElem_cons_succ, List.getElem_cons_zero, List.setIfInBounds_toArray, List.set_cons_zero, List.set_cons_succ, Array.toArray_toList]
  refine wpAnyH_ready (rs := [10]) (by kernel_rfl) (by simp) ?_
  refine AllReadyH.cons rfl (fun K hK => ?_) AllReadyH.nil
  go_simp
  refine (C3.out W2 y1 y2 Ny1.out Ny2.out).mono ?_
  rintro e W3 ⟨rfl, hb⟩
  have B3 : Hid (Below w.heap.size w W3) := B2.out.trans (hb.mono B2.out.size)
  have S3 : Hid (IHolds W3 w.heap.size 39 [p1, p2] ∧ IHolds W3 (w.heap.size + 1) 39 [p3, p4]) := ⟨S2.out.1.of_below hb, S2.out.2.of_below hb⟩
  have Ny1 : Hid (NumV W3 1000000000 X1 y1) := Ny1.out.of_below hb
  have Ny2 : Hid (NumV W3 1000000000 X2 y2) := Ny2.out.of_below hb
  clear hb B2 S2
  go_wp2_with fail
  refine hK.out _ _ S3.out (fun hHeld3 => ?_)
  clear hK K
  try simp only [Act.put, List.getElem_toArray, List.getElem_cons_succ, List.getElem_cons_zero, List.setIfInBounds_toArray, List.set_cons_zero, List.set_cons_succ, Array.toArray_toList]
  refine wpAnyH_take (i := 11) (v := .int .i64 Z) rfl (by kernel_rfl) (by kernel_rfl) (by kernel_rfl) (fun _ _ _ h => h) (Or.inl ⟨by rfl, ?_⟩) hHeld3 ?_
  · intro W hS
    have z0 := hS.1.two0
    have z1 := hS.1.two1
    have z2 := hS.2.two0
    have z3 := hS.2.two1
    go_simp
  simp only [Act.put, List.getElem_toArray, List.getElem_cons_succ, List.getElem_cons_zero, List.setIfInBounds_toArray, List.set_cons_zero, List.set_cons_succ, Array.toArray_toList]
  refine wpAnyH_done (by kernel_rfl) ?_ _
  clear hHeld0 hHeld1 hHeld2 hHeld3
  go_wp2_with fail
  go_ret
  exact ⟨rfl, B3.out⟩
end Go.Proofs.YtflabehlaiocaaaDoor

/- The walk of a fraction's texts. -/
set_option linter.unusedSimpArgs false
set_option linter.unusedVariables false
namespace Go.Proofs.YtflabehlaiocaaaDoor
open Go.RowKit Go.Deep Go.PlainAid

set_option maxRecDepth 100000 in
set_option maxHeartbeats 2000000 in
theorem fracV {w : World} {n d : Nat} {p1 p2 : Value} (h1 : NumV w 1000000000 n p1) (h2 : NumV w 1000000000 d p2) (b1 : (dg 1000000000 n).length ≤ 1000000) (b2 : (dg 1000000000 d).length ≤ 1000000) :
    Calls Tryd.prog 30 #[.agg #[p1, p2]] w fun e w' => e = .returned (.agg #[.string ⟨(txt n).toArray⟩, .string ⟨(txt d).toArray⟩]) ∧ Below w.heap.size w w' := by
  have C1 : Hid (∀ W, Below w.heap.size w W → Calls Tryd.prog 43 #[p1] W fun e w' => e = .returned (.string ⟨(txt n).toArray⟩) ∧ Below W.heap.size W w') := fun W hW => textV (h1.of_below hW) b1
  have C2 : Hid (∀ W, Below w.heap.size w W → Calls Tryd.prog 43 #[p2] W fun e w' => e = .returned (.string ⟨(txt d).toArray⟩) ∧ Below W.heap.size W w') := fun W hW => textV (h2.of_below hW) b2
  clear h1 h2 b1 b2
  generalize (⟨(txt n).toArray⟩ : ByteArray) = T1 at *
  generalize (⟨(txt d).toArray⟩ : ByteArray) = T2 at *
  go_enter Tryd.func30, Tryd.ntmps30
  go_wp2_with fail
  obtain ⟨W3, hW3⟩ : ∃ W3, W3 = (w.alloc (.cells #[p1, p2] 39)).alloc (.cells #[.string ⟨#[]⟩, .string ⟨#[]⟩] 24) := ⟨_, rfl⟩
  have q1 : IHolds W3 w.heap.size 39 [p1, p2] := by rw [hW3]; exact (IHolds.new w 39 [p1, p2]).alloc _
  have q2 : IHolds W3 (w.heap.size + 1) 24 [.string ⟨#[]⟩, .string ⟨#[]⟩] := by
    have := IHolds.new (w.alloc (.cells #[p1, p2] 39)) 24 [.string ⟨#[]⟩, .string ⟨#[]⟩]
    rw [World.size_alloc] at this
    rw [hW3]
    exact this
  have B0 : Hid (Below w.heap.size w W3.drew) := by
    have b : Below w.heap.size w W3 := by rw [hW3]; exact ((Below.refl _ w).alloc (Nat.le_refl _) _).alloc (by simp) _
    exact b.drew
  rw [← hW3]
  clear hW3
  have S0 : Hid (IHolds W3.drew w.heap.size 39 [p1, p2]) := q1.drew
  have J0 : Hid (IHolds W3.drew (w.heap.size + 1) 24 [.string ⟨#[]⟩, .string ⟨#[]⟩]) := q2.drew
  clear q1 q2
  refine wp_region_held_drew (S := fun W => IHolds W w.heap.size 39 [p1, p2]) (by kernel_rfl) S0.out (fun hHeld0 => ?_)
  generalize W3.drew = W0 at *
  refine wpAnyH_take (i := 0) (v := .pointer (some ⟨w.heap.size, 0, none⟩)) rfl (by kernel_rfl) (by kernel_rfl) (by kernel_rfl) (fun _ _ _ h => h) (Or.inl ⟨by rfl, ?_⟩) hHeld0 ?_
  · intro W hS
    have hS' : IHolds W w.heap.size 39 [p1, p2] := hS
    have z0 := hS'.two0
    have z1 := hS'.two1
    go_simp
  simp only [Act.put, List.getElem_toArray, List.getElem_cons_succ, List.getElem_cons_zero, List.setIfInBounds_toArray, List.set_cons_zero, List.set_cons_succ, Array.toArray_toList]
  refine wpAnyH_take (i := 1) (v := p1) rfl (by kernel_rfl) (by kernel_rfl) (by kernel_rfl) (fun _ _ _ h => h) (Or.inl ⟨by rfl, ?_⟩) hHeld0 ?_
  · intro W hS
    have hS' : IHolds W w.heap.size 39 [p1, p2] := hS
    have z0 := hS'.two0
    have z1 := hS'.two1
    go_simp
  simp only [Act.put, List.getElem_toArray, List.getElem_cons_succ, List.getElem_cons_zero, List.setIfInBounds_toArray, List.set_cons_zero, List.set_cons_succ, Array.toArray_toList]
  refine wpAnyH_take (i := 3) (v := .pointer (some ⟨w.heap.size, 1, none⟩)) rfl (by kernel_rfl) (by kernel_rfl) (by kernel_rfl) (fun _ _ _ h => h) (Or.inl ⟨by rfl, ?_⟩) hHeld0 ?_
  · intro W hS
    have hS' : IHolds W w.heap.size 39 [p1, p2] := hS
    have z0 := hS'.two0
    have z1 := hS'.two1
    go_simp
  simp only [Act.put, List.getElem_toArray, List.getElem_cons_succ, List.getElem_cons_zero, List.setIfInBounds_toArray, List.set_cons_zero, List.set_cons_succ, Array.toArray_toList]
  refine wpAnyH_take (i := 4) (v := p2) rfl (by kernel_rfl) (by kernel_rfl) (by kernel_rfl) (fun _ _ _ h => h) (Or.inl ⟨by rfl, ?_⟩) hHeld0 ?_
  · intro W hS
    have hS' : IHolds W w.heap.size 39 [p1, p2] := hS
    have z0 := hS'.two0
    have z1 := hS'.two1
    go_simp
  simp only [Act.put, List.getElem_toArray, List.getElem_cons_succ, List.getElem_cons_zero, List.setIfInBounds_toArray, List.set_cons_zero, List.set_cons_succ, Array.toArray_toList]
  refine wpAnyH_ready (rs := [2]) (by kernel_rfl) (by simp) ?_
  refine AllReadyH.cons rfl (fun K hK => ?_) AllReadyH.nil
  go_simp
  refine (C1.out W0 B0.out).mono ?_
  rintro e W1 ⟨rfl, hb⟩
  have B1 : Hid (Below w.heap.size w W1) := B0.out.trans (hb.mono B0.out.size)
  have S1 : Hid (IHolds W1 w.heap.size 39 [p1, p2]) := S0.out.of_below hb
  have J1 : Hid (IHolds W1 (w.heap.size + 1) 24 [.string ⟨#[]⟩, .string ⟨#[]⟩]) := J0.out.of_below hb
  clear hb B0 S0 J0
  go_wp2_with fail
  refine hK.out _ _ S1.out (fun hHeld1 => ?_)
  clear hK K
  try simp only [Act.put, List.getElem_toArray, List.getElem_cons_succ, List.getElem_cons_zero, List.setIfInBounds_toArray, List.set_cons_zero, List.set_cons_succ, Array.toArray_toList]
  refine wpAnyH_ready (rs := [5]) (by kernel_rfl) (by simp) ?_
  refine AllReadyH.cons rfl (fun K hK => ?_) AllReadyH.nil
  go_simp
  refine (C2.out W1 B1.out).mono ?_
  rintro e W2 ⟨rfl, hb⟩
  have B2 : Hid (Below w.heap.size w W2) := B1.out.trans (hb.mono B1.out.size)
  have S2 : Hid (IHolds W2 w.heap.size 39 [p1, p2]) := S1.out.of_below hb
  have J2 : Hid (IHolds W2 (w.heap.size + 1) 24 [.string ⟨#[]⟩, .string ⟨#[]⟩]) := J1.out.of_below hb
  clear hb B1 S1 J1
  go_wp2_with fail
  refine hK.out _ _ S2.out (fun hHeld2 => ?_)
  clear hK K
  try simp only [Act.put, List.getElem_toArray, List.getElem_cons_succ, List.getElem_cons_zero, List.setIfInBounds_toArray, List.set_cons_zero, List.set_cons_succ, Array.toArray_toList]
  refine wpAnyH_take (i := 6) (v := .agg #[.string T1, .string T2]) rfl (by kernel_rfl) (by kernel_rfl) (by kernel_rfl) (fun _ _ _ h => h) (Or.inl ⟨by rfl, ?_⟩) hHeld2 ?_
  · intro W hS
    have hS' : IHolds W w.heap.size 39 [p1, p2] := hS
    have z0 := hS'.two0
    have z1 := hS'.two1
    go_simp
  simp only [Act.put, List.getElem_toArray, List.getElem_cons_succ, List.getElem_cons_zero, List.setIfInBounds_toArray, List.set_cons_zero, List.set_cons_succ, Array.toArray_toList]
  refine wpAnyH_ready (rs := [7]) (by kernel_rfl) (by simp) ?_
  refine AllReadyH.cons rfl (fun K hK => ?_) AllReadyH.nil
  have I3 := J2.out
  have c0 := I3.two0
  have c1 := I3.two1
  have f0 : ∀ i, W2.frozen? ⟨w.heap.size + 1, i, none⟩ = false := fun i => I3.frozen i
  have I4 := (I3.set 0 (.string T1)).set 1 (.string T2)
  have hBut : But (w.heap.size + 1) W2 ((W2.setCell ⟨w.heap.size + 1, 0, none⟩ (.string T1)).setCell ⟨w.heap.size + 1, 1, none⟩ (.string T2)) := ((But.refl _ W2).setCell 0 _).setCell 1 _
  have BZ : Hid (Below w.heap.size w ((W2.setCell ⟨w.heap.size + 1, 0, none⟩ (.string T1)).setCell ⟨w.heap.size + 1, 1, none⟩ (.string T2))) := (B2.out.setCell (by show w.heap.size ≤ w.heap.size + 1; omega) _).setCell (by show w.heap.size ≤ w.heap.size + 1; omega) _
  have SZ : Hid (IHolds ((W2.setCell ⟨w.heap.size + 1, 0, none⟩ (.string T1)).setCell ⟨w.heap.size + 1, 1, none⟩ (.string T2)) w.heap.size 39 [p1, p2]) := S2.out.of_but hBut (by omega)
  have E0 : Hid (((W2.setCell ⟨w.heap.size + 1, 0, none⟩ (.string T1)).setCell ⟨w.heap.size + 1, 1, none⟩ (.string T2)).cell? ⟨w.heap.size + 1, 0, none⟩ = some (.string T1)) := I4.cell 0 (by simp)
  have E1 : Hid (((W2.setCell ⟨w.heap.size + 1, 0, none⟩ (.string T1)).setCell ⟨w.heap.size + 1, 1, none⟩ (.string T2)).cell? ⟨w.heap.size + 1, 1, none⟩ = some (.string T2)) := I4.cell 1 (by simp)
  clear I3 I4 hBut B2 S2 J2
  go_simp
  go_wp2_with fail
  refine hK.out _ _ SZ.out (fun hHeldZ => ?_)
  clear hK K c0 c1 f0
  try simp only [Act.put, List.getElem_toArray, List.getElem_cons_succ, List.getElem_cons_zero, List.setIfInBounds_toArray, List.set_cons_zero, List.set_cons_succ, Array.toArray_toList]
  generalize ((W2.setCell ⟨w.heap.size + 1, 0, none⟩ (.string T1)).setCell ⟨w.heap.size + 1, 1, none⟩ (.string T2)) = WZ at *
  refine wpAnyH_done (by kernel_rfl) ?_ _
  clear hHeld0 hHeld1 hHeld2 hHeldZ
  go_wp2_with fail
  exact bodyPost_ret (v := .agg #[.string T1, .string T2]) (by simp [results, Tryd.results30, go_sem, E0.out, E1.out]) rfl ⟨rfl, BZ.out⟩
end Go.Proofs.YtflabehlaiocaaaDoor

