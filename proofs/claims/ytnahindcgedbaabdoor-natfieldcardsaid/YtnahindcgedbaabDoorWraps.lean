/- Sums and differences of fractions. -/
import Derived.Test.YtnahindcgedbaabDoorJoined
set_option linter.unusedSimpArgs false
set_option linter.unusedVariables false
namespace Go.Proofs.YtnahindcgedbaabDoor
open Go.RowKit Go.Deep Go.PlainAid

set_option maxRecDepth 100000 in
set_option maxHeartbeats 4000000 in
theorem plus73 {w : World} {p1 p2 p3 p4 : Value} (N D : Nat) (C1 : Hid (∀ W, Below w.heap.size w W → Calls Tryd.prog 35 #[.agg #[p1, p2], .agg #[p3, p4], .func (.func 41) #[] #[]] W fun e w' => (∃ u1 u2, e = .returned (.agg #[u1, u2]) ∧ NumV w' 1000000000 N u1 ∧ NumV w' 1000000000 D u2) ∧ Below W.heap.size W w')) :
    Calls Tryd.prog 30 #[.agg #[p1, p2], .agg #[p3, p4]] w fun e w' => (∃ u1 u2, e = .returned (.agg #[u1, u2]) ∧ NumV w' 1000000000 N u1 ∧ NumV w' 1000000000 D u2) ∧ Below w.heap.size w w' := by
  go_enter Tryd.func30, Tryd.ntmps30
  go_wp2_with fail
  obtain ⟨U1, hU1⟩ : ∃ X, X = (((w.alloc (.cells #[p1, p2] 38)).alloc (.cells #[p3, p4] 38)).alloc (.cells #[(.slice none 0 0), (.slice none 0 0)] 38)) := ⟨_, rfl⟩
  have Jf : Hid (IHolds U1 (w.heap.size) 38 [p1, p2]) := by
    have q := IHolds.new w 38 [p1, p2]
    show IHolds _ _ _ _
    rw [hU1]
    exact ((q.alloc _).alloc _)
  have Jg : Hid (IHolds U1 (w.heap.size + 1) 38 [p3, p4]) := by
    have q := IHolds.new (w.alloc (.cells #[p1, p2] 38)) 38 [p3, p4]
    simp only [World.size_alloc, Nat.add_assoc, Nat.reduceAdd] at q
    show IHolds _ _ _ _
    rw [hU1]
    exact (q.alloc _)
  have Jr : Hid (IHolds U1 (w.heap.size + 2) 38 [(.slice none 0 0), (.slice none 0 0)]) := by
    have q := IHolds.new ((w.alloc (.cells #[p1, p2] 38)).alloc (.cells #[p3, p4] 38)) 38 [(.slice none 0 0), (.slice none 0 0)]
    simp only [World.size_alloc, Nat.add_assoc, Nat.reduceAdd] at q
    show IHolds _ _ _ _
    rw [hU1]
    exact q
  have B : Hid (Below w.heap.size w U1) := by
    show Below _ _ _
    rw [hU1]
    exact ((((Below.refl _ w).alloc (Nat.le_refl _) _).alloc (by simp only [World.size_alloc]; omega) _).alloc (by simp only [World.size_alloc]; omega) _)
  rw [← hU1]
  clear hU1
  refine (C1.out U1 B.out).mono ?_
  rintro e U2 ⟨⟨u1, u2, rfl, hv, hv'⟩, hb⟩
  have Nu1 : Hid (NumV U2 1000000000 (N) u1) := hv
  have Nu2 : Hid (NumV U2 1000000000 (D) u2) := hv'
  clear hv hv'
  replace B := aB B hb
  replace Jf := aJ Jf hb
  replace Jg := aJ Jg hb
  replace Jr := aJ Jr hb
  clear hb
  obtain ⟨u1_a, u1_l, u1_c, rfl⟩ := sN Nu1
  obtain ⟨u2_a, u2_l, u2_c, rfl⟩ := sN Nu2
  obtain ⟨zr_0, zr_1⟩ := cJ Jr
  have f0 := fJ Jr
  have hBut : But (w.heap.size + 2) U2 ((U2.setCell ⟨w.heap.size + 2, 0, none⟩ (.slice u1_a u1_l u1_c)).setCell ⟨w.heap.size + 2, 1, none⟩ (.slice u2_a u2_l u2_c)) := (((But.refl _ U2).setCell 0 (.slice u1_a u1_l u1_c)).setCell 1 (.slice u2_a u2_l u2_c))
  have I4 : Hid (IHolds _ (w.heap.size + 2) 38 [(.slice u1_a u1_l u1_c), (.slice u2_a u2_l u2_c)]) := ((Jr.out.set 0 (.slice u1_a u1_l u1_c)).set 1 (.slice u2_a u2_l u2_c))
  replace B : Hid (Below w.heap.size w ((U2.setCell ⟨w.heap.size + 2, 0, none⟩ (.slice u1_a u1_l u1_c)).setCell ⟨w.heap.size + 2, 1, none⟩ (.slice u2_a u2_l u2_c))) := ((B.out.setCell (by first | exact Nat.le_refl _ | exact ge_r.out | (show w.heap.size ≤ w.heap.size + 2; omega)) _).setCell (by first | exact Nat.le_refl _ | exact ge_r.out | (show w.heap.size ≤ w.heap.size + 2; omega)) _)
  replace Jf := tJ Jf hBut (by omega)
  replace Jg := tJ Jg hBut (by omega)
  replace Nu1 := tN Nu1 Jr (by simp) hBut
  replace Nu2 := tN Nu2 Jr (by simp) hBut
  replace Jr := I4
  clear I4 hBut
  go_wp2_with fail
  clear zr_0 zr_1
  clear f0
  generalize ((U2.setCell ⟨w.heap.size + 2, 0, none⟩ (.slice u1_a u1_l u1_c)).setCell ⟨w.heap.size + 2, 1, none⟩ (.slice u2_a u2_l u2_c)) = U3 at *
  have E0 : Hid (U3.cell? ⟨w.heap.size + 2, 0, none⟩ = some ((.slice u1_a u1_l u1_c))) := IHolds.cell (l := [(.slice u1_a u1_l u1_c), (.slice u2_a u2_l u2_c)]) (t := 38) (b := w.heap.size + 2) (w := U3) Jr.out 0 (by simp)
  have E1 : Hid (U3.cell? ⟨w.heap.size + 2, 1, none⟩ = some ((.slice u2_a u2_l u2_c))) := IHolds.cell (l := [(.slice u1_a u1_l u1_c), (.slice u2_a u2_l u2_c)]) (t := 38) (b := w.heap.size + 2) (w := U3) Jr.out 1 (by simp)
  exact bodyPost_ret (v := .agg #[(.slice u1_a u1_l u1_c), (.slice u2_a u2_l u2_c)]) (by simp [results, Tryd.results30, go_sem, E0.out, E1.out]) rfl ⟨⟨_, _, rfl, Nu1.out, Nu2.out⟩, B.out⟩
set_option maxRecDepth 100000 in
set_option maxHeartbeats 4000000 in
theorem minus81 {w : World} {p1 p2 p3 p4 : Value} (N D : Nat) (C1 : Hid (∀ W, Below w.heap.size w W → Calls Tryd.prog 35 #[.agg #[p1, p2], .agg #[p3, p4], .func (.func 36) #[] #[]] W fun e w' => (∃ u1 u2, e = .returned (.agg #[u1, u2]) ∧ NumV w' 1000000000 N u1 ∧ NumV w' 1000000000 D u2) ∧ Below W.heap.size W w')) :
    Calls Tryd.prog 17 #[.agg #[p1, p2], .agg #[p3, p4]] w fun e w' => (∃ u1 u2, e = .returned (.agg #[u1, u2]) ∧ NumV w' 1000000000 N u1 ∧ NumV w' 1000000000 D u2) ∧ Below w.heap.size w w' := by
  go_enter Tryd.func17, Tryd.ntmps17
  go_wp2_with fail
  obtain ⟨U1, hU1⟩ : ∃ X, X = (((w.alloc (.cells #[p1, p2] 38)).alloc (.cells #[p3, p4] 38)).alloc (.cells #[(.slice none 0 0), (.slice none 0 0)] 38)) := ⟨_, rfl⟩
  have Jf : Hid (IHolds U1 (w.heap.size) 38 [p1, p2]) := by
    have q := IHolds.new w 38 [p1, p2]
    show IHolds _ _ _ _
    rw [hU1]
    exact ((q.alloc _).alloc _)
  have Jg : Hid (IHolds U1 (w.heap.size + 1) 38 [p3, p4]) := by
    have q := IHolds.new (w.alloc (.cells #[p1, p2] 38)) 38 [p3, p4]
    simp only [World.size_alloc, Nat.add_assoc, Nat.reduceAdd] at q
    show IHolds _ _ _ _
    rw [hU1]
    exact (q.alloc _)
  have Jr : Hid (IHolds U1 (w.heap.size + 2) 38 [(.slice none 0 0), (.slice none 0 0)]) := by
    have q := IHolds.new ((w.alloc (.cells #[p1, p2] 38)).alloc (.cells #[p3, p4] 38)) 38 [(.slice none 0 0), (.slice none 0 0)]
    simp only [World.size_alloc, Nat.add_assoc, Nat.reduceAdd] at q
    show IHolds _ _ _ _
    rw [hU1]
    exact q
  have B : Hid (Below w.heap.size w U1) := by
    show Below _ _ _
    rw [hU1]
    exact ((((Below.refl _ w).alloc (Nat.le_refl _) _).alloc (by simp only [World.size_alloc]; omega) _).alloc (by simp only [World.size_alloc]; omega) _)
  rw [← hU1]
  clear hU1
  refine (C1.out U1 B.out).mono ?_
  rintro e U2 ⟨⟨u1, u2, rfl, hv, hv'⟩, hb⟩
  have Nu1 : Hid (NumV U2 1000000000 (N) u1) := hv
  have Nu2 : Hid (NumV U2 1000000000 (D) u2) := hv'
  clear hv hv'
  replace B := aB B hb
  replace Jf := aJ Jf hb
  replace Jg := aJ Jg hb
  replace Jr := aJ Jr hb
  clear hb
  obtain ⟨u1_a, u1_l, u1_c, rfl⟩ := sN Nu1
  obtain ⟨u2_a, u2_l, u2_c, rfl⟩ := sN Nu2
  obtain ⟨zr_0, zr_1⟩ := cJ Jr
  have f0 := fJ Jr
  have hBut : But (w.heap.size + 2) U2 ((U2.setCell ⟨w.heap.size + 2, 0, none⟩ (.slice u1_a u1_l u1_c)).setCell ⟨w.heap.size + 2, 1, none⟩ (.slice u2_a u2_l u2_c)) := (((But.refl _ U2).setCell 0 (.slice u1_a u1_l u1_c)).setCell 1 (.slice u2_a u2_l u2_c))
  have I4 : Hid (IHolds _ (w.heap.size + 2) 38 [(.slice u1_a u1_l u1_c), (.slice u2_a u2_l u2_c)]) := ((Jr.out.set 0 (.slice u1_a u1_l u1_c)).set 1 (.slice u2_a u2_l u2_c))
  replace B : Hid (Below w.heap.size w ((U2.setCell ⟨w.heap.size + 2, 0, none⟩ (.slice u1_a u1_l u1_c)).setCell ⟨w.heap.size + 2, 1, none⟩ (.slice u2_a u2_l u2_c))) := ((B.out.setCell (by first | exact Nat.le_refl _ | exact ge_r.out | (show w.heap.size ≤ w.heap.size + 2; omega)) _).setCell (by first | exact Nat.le_refl _ | exact ge_r.out | (show w.heap.size ≤ w.heap.size + 2; omega)) _)
  replace Jf := tJ Jf hBut (by omega)
  replace Jg := tJ Jg hBut (by omega)
  replace Nu1 := tN Nu1 Jr (by simp) hBut
  replace Nu2 := tN Nu2 Jr (by simp) hBut
  replace Jr := I4
  clear I4 hBut
  go_wp2_with fail
  clear zr_0 zr_1
  clear f0
  generalize ((U2.setCell ⟨w.heap.size + 2, 0, none⟩ (.slice u1_a u1_l u1_c)).setCell ⟨w.heap.size + 2, 1, none⟩ (.slice u2_a u2_l u2_c)) = U3 at *
  have E0 : Hid (U3.cell? ⟨w.heap.size + 2, 0, none⟩ = some ((.slice u1_a u1_l u1_c))) := IHolds.cell (l := [(.slice u1_a u1_l u1_c), (.slice u2_a u2_l u2_c)]) (t := 38) (b := w.heap.size + 2) (w := U3) Jr.out 0 (by simp)
  have E1 : Hid (U3.cell? ⟨w.heap.size + 2, 1, none⟩ = some ((.slice u2_a u2_l u2_c))) := IHolds.cell (l := [(.slice u1_a u1_l u1_c), (.slice u2_a u2_l u2_c)]) (t := 38) (b := w.heap.size + 2) (w := U3) Jr.out 1 (by simp)
  exact bodyPost_ret (v := .agg #[(.slice u1_a u1_l u1_c), (.slice u2_a u2_l u2_c)]) (by simp [results, Tryd.results17, go_sem, E0.out, E1.out]) rfl ⟨⟨_, _, rfl, Nu1.out, Nu2.out⟩, B.out⟩
theorem plusFrV {w : World} {n1 d1 n2 d2 : Nat} {p1 p2 p3 p4 : Value} (hN : NumV w 1000000000 n1 p1 ∧ NumV w 1000000000 d1 p2 ∧ NumV w 1000000000 n2 p3 ∧ NumV w 1000000000 d2 p4)
    (l1 : (dg 1000000000 n1).length ≤ 400000) (l2 : (dg 1000000000 d1).length ≤ 400000) (l3 : (dg 1000000000 n2).length ≤ 400000) (l4 : (dg 1000000000 d2).length ≤ 400000) (h1 : d1 ≠ 0) (h2 : d2 ≠ 0) :
    Calls Tryd.prog 30 #[.agg #[p1, p2], .agg #[p3, p4]] w fun e w' => (∃ u1 u2, e = .returned (.agg #[u1, u2]) ∧ NumV w' 1000000000 ((n1 * (d2 / Nat.gcd d1 d2) + n2 * (d1 / Nat.gcd d1 d2)) / Nat.gcd (n1 * (d2 / Nat.gcd d1 d2) + n2 * (d1 / Nat.gcd d1 d2)) (Nat.gcd d1 d2)) u1 ∧ NumV w' 1000000000 (d1 / Nat.gcd d1 d2 * (d2 / Nat.gcd (n1 * (d2 / Nat.gcd d1 d2) + n2 * (d1 / Nat.gcd d1 d2)) (Nat.gcd d1 d2))) u2) ∧ Below w.heap.size w w' :=
  plus73 _ _ (fun W hW => joinedPlusV ⟨hN.1.of_below hW, hN.2.1.of_below hW, hN.2.2.1.of_below hW, hN.2.2.2.of_below hW⟩ l1 l2 l3 l4 h1 h2)
theorem minusFrV {w : World} {n1 d1 n2 d2 : Nat} {p1 p2 p3 p4 : Value} (hN : NumV w 1000000000 n1 p1 ∧ NumV w 1000000000 d1 p2 ∧ NumV w 1000000000 n2 p3 ∧ NumV w 1000000000 d2 p4)
    (l1 : (dg 1000000000 n1).length ≤ 400000) (l2 : (dg 1000000000 d1).length ≤ 400000) (l3 : (dg 1000000000 n2).length ≤ 400000) (l4 : (dg 1000000000 d2).length ≤ 400000) (h1 : d1 ≠ 0) (h2 : d2 ≠ 0) (hle : n2 * (d1 / Nat.gcd d1 d2) ≤ n1 * (d2 / Nat.gcd d1 d2)) :
    Calls Tryd.prog 17 #[.agg #[p1, p2], .agg #[p3, p4]] w fun e w' => (∃ u1 u2, e = .returned (.agg #[u1, u2]) ∧ NumV w' 1000000000 ((n1 * (d2 / Nat.gcd d1 d2) - n2 * (d1 / Nat.gcd d1 d2)) / Nat.gcd (n1 * (d2 / Nat.gcd d1 d2) - n2 * (d1 / Nat.gcd d1 d2)) (Nat.gcd d1 d2)) u1 ∧ NumV w' 1000000000 (d1 / Nat.gcd d1 d2 * (d2 / Nat.gcd (n1 * (d2 / Nat.gcd d1 d2) - n2 * (d1 / Nat.gcd d1 d2)) (Nat.gcd d1 d2))) u2) ∧ Below w.heap.size w w' :=
  minus81 _ _ (fun W hW => joinedMinusV ⟨hN.1.of_below hW, hN.2.1.of_below hW, hN.2.2.1.of_below hW, hN.2.2.2.of_below hW⟩ l1 l2 l3 l4 h1 h2 hle)
end Go.Proofs.YtnahindcgedbaabDoor
