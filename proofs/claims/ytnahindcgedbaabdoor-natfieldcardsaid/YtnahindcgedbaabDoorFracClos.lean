/- What is done with two fractions that were read. -/
import Derived.Test.YtnahindcgedbaabDoorWraps
import Derived.Test.YtnahindcgedbaabDoorTimesFrac
set_option linter.unusedSimpArgs false
set_option linter.unusedVariables false
namespace Go.Proofs.YtnahindcgedbaabDoor
open Go.RowKit Go.Deep Go.PlainAid

theorem cop_parts {d1 d2 : Nat} (h1 : d1 ≠ 0) : Nat.Coprime (d1 / Nat.gcd d1 d2) (d2 / Nat.gcd d1 d2) :=
  Nat.coprime_div_gcd_div_gcd (Nat.gcd_pos_of_pos_left d2 (Nat.pos_of_ne_zero h1))
theorem cop_of_dvd {n d f : Nat} (h : Nat.gcd n d = 1) (hf : f ∣ d) : Nat.Coprime n f := Nat.Coprime.coprime_dvd_right hf h
theorem part_mul (d1 d2 : Nat) : Nat.gcd d1 d2 * (d1 / Nat.gcd d1 d2) = d1 ∧ Nat.gcd d1 d2 * (d2 / Nat.gcd d1 d2) = d2 :=
  ⟨Nat.mul_div_cancel' (Nat.gcd_dvd_left d1 d2), Nat.mul_div_cancel' (Nat.gcd_dvd_right d1 d2)⟩
theorem plus_lowest {n1 d1 n2 d2 : Nat} (h1 : d1 ≠ 0) (h2 : d2 ≠ 0) (g1 : Nat.gcd n1 d1 = 1) (g2 : Nat.gcd n2 d2 = 1) :
    (n1 * (d2 / Nat.gcd d1 d2) + n2 * (d1 / Nat.gcd d1 d2)) / Nat.gcd (n1 * (d2 / Nat.gcd d1 d2) + n2 * (d1 / Nat.gcd d1 d2)) (Nat.gcd d1 d2) = (n1 * d2 + n2 * d1) / Nat.gcd (n1 * d2 + n2 * d1) (d1 * d2)
    ∧ d1 / Nat.gcd d1 d2 * (d2 / Nat.gcd (n1 * (d2 / Nat.gcd d1 d2) + n2 * (d1 / Nat.gcd d1 d2)) (Nat.gcd d1 d2)) = d1 * d2 / Nat.gcd (n1 * d2 + n2 * d1) (d1 * d2) := by
  have hc : Nat.gcd d1 d2 ≠ 0 := by have := Nat.gcd_pos_of_pos_left d2 (Nat.pos_of_ne_zero h1); omega
  have cp := cop_parts (d2 := d2) h1
  obtain ⟨e1, e2⟩ := part_mul d1 d2
  have c1 : Nat.Coprime n1 (d1 / Nat.gcd d1 d2) := cop_of_dvd g1 ⟨Nat.gcd d1 d2, by rw [Nat.mul_comm]; exact e1.symm⟩
  have c2 : Nat.Coprime n2 (d2 / Nat.gcd d1 d2) := cop_of_dvd g2 ⟨Nat.gcd d1 d2, by rw [Nat.mul_comm]; exact e2.symm⟩
  generalize d1 / Nat.gcd d1 d2 = f at *
  generalize d2 / Nat.gcd d1 d2 = g at *
  generalize Nat.gcd d1 d2 = c at *
  have j := join_parts hc (cop_sum (b := n2) c1 cp.symm) (cop_sum' (a := n1) c2 cp)
  have es : c * (n1 * g + n2 * f) = n1 * d2 + n2 * d1 := by rw [← e1, ← e2]; grind
  rw [es, e1, e2] at j
  exact ⟨j.1.symm, j.2.symm⟩
theorem minus_le {n1 d1 n2 d2 : Nat} (h1 : d1 ≠ 0) (hle : n2 * d1 ≤ n1 * d2) : n2 * (d1 / Nat.gcd d1 d2) ≤ n1 * (d2 / Nat.gcd d1 d2) := by
  have hc : 0 < Nat.gcd d1 d2 := Nat.gcd_pos_of_pos_left d2 (Nat.pos_of_ne_zero h1)
  obtain ⟨e1, e2⟩ := part_mul d1 d2
  generalize d1 / Nat.gcd d1 d2 = f at *
  generalize d2 / Nat.gcd d1 d2 = g at *
  generalize Nat.gcd d1 d2 = c at *
  rw [← e1, ← e2] at hle
  have a1 : c * (n2 * f) = n2 * (c * f) := by grind
  have a2 : c * (n1 * g) = n1 * (c * g) := by grind
  have a3 : c * (n2 * f) ≤ c * (n1 * g) := by omega
  exact Nat.le_of_mul_le_mul_left a3 hc
theorem minus_lowest {n1 d1 n2 d2 : Nat} (h1 : d1 ≠ 0) (h2 : d2 ≠ 0) (g1 : Nat.gcd n1 d1 = 1) (g2 : Nat.gcd n2 d2 = 1) (hle : n2 * d1 ≤ n1 * d2) :
    (n1 * (d2 / Nat.gcd d1 d2) - n2 * (d1 / Nat.gcd d1 d2)) / Nat.gcd (n1 * (d2 / Nat.gcd d1 d2) - n2 * (d1 / Nat.gcd d1 d2)) (Nat.gcd d1 d2) = (n1 * d2 - n2 * d1) / Nat.gcd (n1 * d2 - n2 * d1) (d1 * d2)
    ∧ d1 / Nat.gcd d1 d2 * (d2 / Nat.gcd (n1 * (d2 / Nat.gcd d1 d2) - n2 * (d1 / Nat.gcd d1 d2)) (Nat.gcd d1 d2)) = d1 * d2 / Nat.gcd (n1 * d2 - n2 * d1) (d1 * d2) := by
  have hc : Nat.gcd d1 d2 ≠ 0 := by have := Nat.gcd_pos_of_pos_left d2 (Nat.pos_of_ne_zero h1); omega
  have cp := cop_parts (d2 := d2) h1
  have hl := minus_le h1 hle
  obtain ⟨e1, e2⟩ := part_mul d1 d2
  have c1 : Nat.Coprime n1 (d1 / Nat.gcd d1 d2) := cop_of_dvd g1 ⟨Nat.gcd d1 d2, by rw [Nat.mul_comm]; exact e1.symm⟩
  have c2 : Nat.Coprime n2 (d2 / Nat.gcd d1 d2) := cop_of_dvd g2 ⟨Nat.gcd d1 d2, by rw [Nat.mul_comm]; exact e2.symm⟩
  generalize d1 / Nat.gcd d1 d2 = f at *
  generalize d2 / Nat.gcd d1 d2 = g at *
  generalize Nat.gcd d1 d2 = c at *
  have j := join_parts hc (cop_diff (b := n2) c1 cp.symm hl) (cop_diff' (a := n1) c2 cp hl)
  have es : c * (n1 * g - n2 * f) = n1 * d2 - n2 * d1 := by
    rw [← e1, ← e2, Nat.mul_sub]
    have a1 : c * (n2 * f) = n2 * (c * f) := by grind
    have a2 : c * (n1 * g) = n1 * (c * g) := by grind
    rw [a1, a2]
  rw [es, e1, e2] at j
  exact ⟨j.1.symm, j.2.symm⟩
theorem times_gcd {n1 d1 n2 d2 : Nat} (h1 : d1 ≠ 0) (h2 : d2 ≠ 0) (g1 : Nat.gcd n1 d1 = 1) (g2 : Nat.gcd n2 d2 = 1) : Nat.gcd (n1 * n2) (d1 * d2) = Nat.gcd n1 d2 * Nat.gcd n2 d1 := by
  obtain ⟨e1, e2⟩ := part_mul n1 d2
  obtain ⟨e3, e4⟩ := part_mul n2 d1
  have hp1 : 0 < Nat.gcd n1 d2 := Nat.gcd_pos_of_pos_right n1 (Nat.pos_of_ne_zero h2)
  have hp2 : 0 < Nat.gcd n2 d1 := Nat.gcd_pos_of_pos_right n2 (Nat.pos_of_ne_zero h1)
  have cp1 := Nat.coprime_div_gcd_div_gcd hp1
  have cp2 := Nat.coprime_div_gcd_div_gcd hp2
  generalize n1 / Nat.gcd n1 d2 = x at *
  generalize d2 / Nat.gcd n1 d2 = y at *
  generalize n2 / Nat.gcd n2 d1 = u at *
  generalize d1 / Nat.gcd n2 d1 = v at *
  generalize Nat.gcd n1 d2 = a at *
  generalize Nat.gcd n2 d1 = b at *
  have cxv : Nat.Coprime x v := Nat.Coprime.coprime_dvd_left ⟨a, by rw [Nat.mul_comm]; exact e1.symm⟩ (cop_of_dvd g1 ⟨b, by rw [Nat.mul_comm]; exact e4.symm⟩)
  have cuy : Nat.Coprime u y := Nat.Coprime.coprime_dvd_left ⟨b, by rw [Nat.mul_comm]; exact e3.symm⟩ (cop_of_dvd g2 ⟨a, by rw [Nat.mul_comm]; exact e2.symm⟩)
  have k1 : n1 * n2 = (a * b) * (x * u) := by rw [← e1, ← e3]; grind
  have k2 : d1 * d2 = (a * b) * (v * y) := by rw [← e2, ← e4]; grind
  rw [k1, k2, Nat.gcd_mul_left]
  have : Nat.Coprime (x * u) (v * y) := Nat.Coprime.mul_left (Nat.Coprime.mul_right cxv cp1) (Nat.Coprime.mul_right cp2 cuy)
  rw [this, Nat.mul_one]
theorem times_lowest {n1 d1 n2 d2 : Nat} (h1 : d1 ≠ 0) (h2 : d2 ≠ 0) (g1 : Nat.gcd n1 d1 = 1) (g2 : Nat.gcd n2 d2 = 1) :
    n1 / Nat.gcd n1 d2 * (n2 / Nat.gcd n2 d1) = n1 * n2 / Nat.gcd (n1 * n2) (d1 * d2) ∧ d2 / Nat.gcd n1 d2 * (d1 / Nat.gcd n2 d1) = d1 * d2 / Nat.gcd (n1 * n2) (d1 * d2) := by
  rw [times_gcd h1 h2 g1 g2]
  refine ⟨Nat.div_mul_div_comm (Nat.gcd_dvd_left n1 d2) (Nat.gcd_dvd_left n2 d1), ?_⟩
  rw [Nat.div_mul_div_comm (Nat.gcd_dvd_right n1 d2) (Nat.gcd_dvd_right n2 d1), Nat.mul_comm d2 d1]

set_option maxRecDepth 100000 in
set_option maxHeartbeats 2000000 in
theorem plusC_any {w : World} {p1 p2 p3 p4 : Value} (N D : Nat) (T1 T2 : ByteArray) (C1 : Hid (∀ W, Below w.heap.size w W → Calls Tryd.prog 30 #[.agg #[p1, p2], .agg #[p3, p4]] W fun e w' => (∃ u1 u2, e = .returned (.agg #[u1, u2]) ∧ NumV w' 1000000000 N u1 ∧ NumV w' 1000000000 D u2) ∧ Below W.heap.size W w')) (C2 : Hid (∀ W u1 u2, NumV W 1000000000 N u1 → NumV W 1000000000 D u2 → Calls Tryd.prog 18 #[.agg #[u1, u2]] W fun e w' => e = .returned (.agg #[.string T1, .string T2]) ∧ Below W.heap.size W w')) :
    Calls Tryd.prog 29 #[.agg #[p1, p2], .agg #[p3, p4]] w fun e w' => e = .returned (.tuple #[.agg #[.string T1, .string T2], .int .i64 0]) ∧ Below w.heap.size w w' := by
  go_enter Tryd.func29, Tryd.ntmps29
  go_wp2_with fail
  obtain ⟨U1, hU1⟩ : ∃ X, X = (((w.alloc (.cells #[p1, p2] 38)).alloc (.cells #[p3, p4] 38)).alloc (.cells #[(.string ⟨#[]⟩), (.string ⟨#[]⟩)] 23)) := ⟨_, rfl⟩
  have Jf : Hid (IHolds U1 (w.heap.size) 38 [p1, p2]) := by
    have q := IHolds.new w 38 [p1, p2]
    show IHolds _ _ _ _
    rw [hU1]
    exact ((q.alloc _).alloc _)
  have Jg : Hid (IHolds U1 (w.heap.size + 1) 38 [p3, p4]) := by
    have q := IHolds.new (w.alloc (.cells #[p1, p2] 38)) 38 [p3, p4]
    simp only [World.size_alloc, Nat.add_assoc, Nat.reduceAdd] at q
    show IHolds _ _ _ _
    rw [hU1]
    exact (q.alloc _)
  have Jr : Hid (IHolds U1 (w.heap.size + 2) 23 [(.string ⟨#[]⟩), (.string ⟨#[]⟩)]) := by
    have q := IHolds.new ((w.alloc (.cells #[p1, p2] 38)).alloc (.cells #[p3, p4] 38)) 23 [(.string ⟨#[]⟩), (.string ⟨#[]⟩)]
    simp only [World.size_alloc, Nat.add_assoc, Nat.reduceAdd] at q
    show IHolds _ _ _ _
    rw [hU1]
    exact q
  have B : Hid (Below w.heap.size w U1) := by
    show Below _ _ _
    rw [hU1]
    exact ((((Below.refl _ w).alloc (Nat.le_refl _) _).alloc (by simp only [World.size_alloc]; omega) _).alloc (by simp only [World.size_alloc]; omega) _)
  rw [← hU1]
  clear hU1
  refine (C1.out U1 B.out).mono ?_
  rintro e U2 ⟨⟨u1, u2, rfl, hv, hv'⟩, hb⟩
  have Nu1 : Hid (NumV U2 1000000000 (N) u1) := hv
  have Nu2 : Hid (NumV U2 1000000000 (D) u2) := hv'
  clear hv hv'
  replace B := aB B hb
  replace Jf := aJ Jf hb
  replace Jg := aJ Jg hb
  replace Jr := aJ Jr hb
  clear hb
  go_wp2_with fail
  refine (C2.out U2 u1 u2 Nu1.out Nu2.out).mono ?_
  rintro e U3 ⟨rfl, hb⟩
  replace B := aB B hb
  replace Jf := aJ Jf hb
  replace Jg := aJ Jg hb
  replace Jr := aJ Jr hb
  replace Nu1 := aN Nu1 hb
  replace Nu2 := aN Nu2 hb
  clear hb
  obtain ⟨zr_0, zr_1⟩ := cJ Jr
  have f0 := fJ Jr
  have hBut : But (w.heap.size + 2) U3 ((U3.setCell ⟨w.heap.size + 2, 0, none⟩ (.string T1)).setCell ⟨w.heap.size + 2, 1, none⟩ (.string T2)) := (((But.refl _ U3).setCell 0 (.string T1)).setCell 1 (.string T2))
  have I4 : Hid (IHolds _ (w.heap.size + 2) 23 [(.string T1), (.string T2)]) := ((Jr.out.set 0 (.string T1)).set 1 (.string T2))
  replace B : Hid (Below w.heap.size w ((U3.setCell ⟨w.heap.size + 2, 0, none⟩ (.string T1)).setCell ⟨w.heap.size + 2, 1, none⟩ (.string T2))) := ((B.out.setCell (by first | exact Nat.le_refl _ | exact ge_r.out | (show w.heap.size ≤ w.heap.size + 2; omega)) _).setCell (by first | exact Nat.le_refl _ | exact ge_r.out | (show w.heap.size ≤ w.heap.size + 2; omega)) _)
  replace Jf := tJ Jf hBut (by omega)
  replace Jg := tJ Jg hBut (by omega)
  replace Nu1 := tN Nu1 Jr (by simp) hBut
  replace Nu2 := tN Nu2 Jr (by simp) hBut
  replace Jr := I4
  clear I4 hBut
  go_wp2_with fail
  clear zr_0 zr_1
  clear f0
  generalize ((U3.setCell ⟨w.heap.size + 2, 0, none⟩ (.string T1)).setCell ⟨w.heap.size + 2, 1, none⟩ (.string T2)) = U4 at *
  have E0 : Hid (U4.cell? ⟨w.heap.size + 2, 0, none⟩ = some ((.string T1))) := IHolds.cell (l := [(.string T1), (.string T2)]) (t := 23) (b := w.heap.size + 2) (w := U4) Jr.out 0 (by simp)
  have E1 : Hid (U4.cell? ⟨w.heap.size + 2, 1, none⟩ = some ((.string T2))) := IHolds.cell (l := [(.string T1), (.string T2)]) (t := 23) (b := w.heap.size + 2) (w := U4) Jr.out 1 (by simp)
  exact bodyPost_ret (v := .tuple #[.agg #[(.string T1), (.string T2)], .int .i64 0]) (by simp [results, Tryd.results29, go_sem, E0.out, E1.out]) rfl ⟨rfl, B.out⟩
set_option maxRecDepth 100000 in
set_option maxHeartbeats 2000000 in
theorem timesC_any {w : World} {p1 p2 p3 p4 : Value} (N D : Nat) (T1 T2 : ByteArray) (C1 : Hid (∀ W, Below w.heap.size w W → Calls Tryd.prog 21 #[.agg #[p1, p2], .agg #[p3, p4]] W fun e w' => (∃ u1 u2, e = .returned (.agg #[u1, u2]) ∧ NumV w' 1000000000 N u1 ∧ NumV w' 1000000000 D u2) ∧ Below W.heap.size W w')) (C2 : Hid (∀ W u1 u2, NumV W 1000000000 N u1 → NumV W 1000000000 D u2 → Calls Tryd.prog 18 #[.agg #[u1, u2]] W fun e w' => e = .returned (.agg #[.string T1, .string T2]) ∧ Below W.heap.size W w')) :
    Calls Tryd.prog 28 #[.agg #[p1, p2], .agg #[p3, p4]] w fun e w' => e = .returned (.tuple #[.agg #[.string T1, .string T2], .int .i64 0]) ∧ Below w.heap.size w w' := by
  go_enter Tryd.func28, Tryd.ntmps28
  go_wp2_with fail
  obtain ⟨U1, hU1⟩ : ∃ X, X = (((w.alloc (.cells #[p1, p2] 38)).alloc (.cells #[p3, p4] 38)).alloc (.cells #[(.string ⟨#[]⟩), (.string ⟨#[]⟩)] 23)) := ⟨_, rfl⟩
  have Jf : Hid (IHolds U1 (w.heap.size) 38 [p1, p2]) := by
    have q := IHolds.new w 38 [p1, p2]
    show IHolds _ _ _ _
    rw [hU1]
    exact ((q.alloc _).alloc _)
  have Jg : Hid (IHolds U1 (w.heap.size + 1) 38 [p3, p4]) := by
    have q := IHolds.new (w.alloc (.cells #[p1, p2] 38)) 38 [p3, p4]
    simp only [World.size_alloc, Nat.add_assoc, Nat.reduceAdd] at q
    show IHolds _ _ _ _
    rw [hU1]
    exact (q.alloc _)
  have Jr : Hid (IHolds U1 (w.heap.size + 2) 23 [(.string ⟨#[]⟩), (.string ⟨#[]⟩)]) := by
    have q := IHolds.new ((w.alloc (.cells #[p1, p2] 38)).alloc (.cells #[p3, p4] 38)) 23 [(.string ⟨#[]⟩), (.string ⟨#[]⟩)]
    simp only [World.size_alloc, Nat.add_assoc, Nat.reduceAdd] at q
    show IHolds _ _ _ _
    rw [hU1]
    exact q
  have B : Hid (Below w.heap.size w U1) := by
    show Below _ _ _
    rw [hU1]
    exact ((((Below.refl _ w).alloc (Nat.le_refl _) _).alloc (by simp only [World.size_alloc]; omega) _).alloc (by simp only [World.size_alloc]; omega) _)
  rw [← hU1]
  clear hU1
  refine (C1.out U1 B.out).mono ?_
  rintro e U2 ⟨⟨u1, u2, rfl, hv, hv'⟩, hb⟩
  have Nu1 : Hid (NumV U2 1000000000 (N) u1) := hv
  have Nu2 : Hid (NumV U2 1000000000 (D) u2) := hv'
  clear hv hv'
  replace B := aB B hb
  replace Jf := aJ Jf hb
  replace Jg := aJ Jg hb
  replace Jr := aJ Jr hb
  clear hb
  go_wp2_with fail
  refine (C2.out U2 u1 u2 Nu1.out Nu2.out).mono ?_
  rintro e U3 ⟨rfl, hb⟩
  replace B := aB B hb
  replace Jf := aJ Jf hb
  replace Jg := aJ Jg hb
  replace Jr := aJ Jr hb
  replace Nu1 := aN Nu1 hb
  replace Nu2 := aN Nu2 hb
  clear hb
  obtain ⟨zr_0, zr_1⟩ := cJ Jr
  have f0 := fJ Jr
  have hBut : But (w.heap.size + 2) U3 ((U3.setCell ⟨w.heap.size + 2, 0, none⟩ (.string T1)).setCell ⟨w.heap.size + 2, 1, none⟩ (.string T2)) := (((But.refl _ U3).setCell 0 (.string T1)).setCell 1 (.string T2))
  have I4 : Hid (IHolds _ (w.heap.size + 2) 23 [(.string T1), (.string T2)]) := ((Jr.out.set 0 (.string T1)).set 1 (.string T2))
  replace B : Hid (Below w.heap.size w ((U3.setCell ⟨w.heap.size + 2, 0, none⟩ (.string T1)).setCell ⟨w.heap.size + 2, 1, none⟩ (.string T2))) := ((B.out.setCell (by first | exact Nat.le_refl _ | exact ge_r.out | (show w.heap.size ≤ w.heap.size + 2; omega)) _).setCell (by first | exact Nat.le_refl _ | exact ge_r.out | (show w.heap.size ≤ w.heap.size + 2; omega)) _)
  replace Jf := tJ Jf hBut (by omega)
  replace Jg := tJ Jg hBut (by omega)
  replace Nu1 := tN Nu1 Jr (by simp) hBut
  replace Nu2 := tN Nu2 Jr (by simp) hBut
  replace Jr := I4
  clear I4 hBut
  go_wp2_with fail
  clear zr_0 zr_1
  clear f0
  generalize ((U3.setCell ⟨w.heap.size + 2, 0, none⟩ (.string T1)).setCell ⟨w.heap.size + 2, 1, none⟩ (.string T2)) = U4 at *
  have E0 : Hid (U4.cell? ⟨w.heap.size + 2, 0, none⟩ = some ((.string T1))) := IHolds.cell (l := [(.string T1), (.string T2)]) (t := 23) (b := w.heap.size + 2) (w := U4) Jr.out 0 (by simp)
  have E1 : Hid (U4.cell? ⟨w.heap.size + 2, 1, none⟩ = some ((.string T2))) := IHolds.cell (l := [(.string T1), (.string T2)]) (t := 23) (b := w.heap.size + 2) (w := U4) Jr.out 1 (by simp)
  exact bodyPost_ret (v := .tuple #[.agg #[(.string T1), (.string T2)], .int .i64 0]) (by simp [results, Tryd.results28, go_sem, E0.out, E1.out]) rfl ⟨rfl, B.out⟩
set_option maxRecDepth 100000 in
set_option maxHeartbeats 2000000 in
theorem orderC_any {w : World} {p1 p2 p3 p4 : Value} (z : Int) (C0 : Hid (∀ W, Below w.heap.size w W → Calls Tryd.prog 16 #[.agg #[p1, p2], .agg #[p3, p4]] W fun e w' => e = .returned (.int .i64 z) ∧ Below W.heap.size W w')) :
    Calls Tryd.prog 23 #[.agg #[p1, p2], .agg #[p3, p4]] w fun e w' => e = .returned (.tuple #[.int .i64 z, .int .i64 0]) ∧ Below w.heap.size w w' := by
  go_enter Tryd.func23, Tryd.ntmps23
  go_wp2_with fail
  obtain ⟨U1, hU1⟩ : ∃ X, X = ((w.alloc (.cells #[p1, p2] 38)).alloc (.cells #[p3, p4] 38)) := ⟨_, rfl⟩
  have Jf : Hid (IHolds U1 (w.heap.size) 38 [p1, p2]) := by
    have q := IHolds.new w 38 [p1, p2]
    show IHolds _ _ _ _
    rw [hU1]
    exact (q.alloc _)
  have Jg : Hid (IHolds U1 (w.heap.size + 1) 38 [p3, p4]) := by
    have q := IHolds.new (w.alloc (.cells #[p1, p2] 38)) 38 [p3, p4]
    simp only [World.size_alloc, Nat.add_assoc, Nat.reduceAdd] at q
    show IHolds _ _ _ _
    rw [hU1]
    exact q
  have B : Hid (Below w.heap.size w U1) := by
    show Below _ _ _
    rw [hU1]
    exact (((Below.refl _ w).alloc (Nat.le_refl _) _).alloc (by simp only [World.size_alloc]; omega) _)
  rw [← hU1]
  clear hU1
  refine (C0.out U1 B.out).mono ?_
  rintro e U2 ⟨rfl, hb⟩
  replace B := aB B hb
  replace Jf := aJ Jf hb
  replace Jg := aJ Jg hb
  clear hb
  go_wp2_with fail
  go_ret2
  exact ⟨rfl, B.out⟩
set_option maxRecDepth 100000 in
set_option maxHeartbeats 2000000 in
theorem minusC_low {w : World} {p1 p2 p3 p4 : Value} (z : Int) (hz : z < 0) (C0 : Hid (∀ W, Below w.heap.size w W → Calls Tryd.prog 16 #[.agg #[p1, p2], .agg #[p3, p4]] W fun e w' => e = .returned (.int .i64 z) ∧ Below W.heap.size W w'))  :
    Calls Tryd.prog 15 #[.agg #[p1, p2], .agg #[p3, p4]] w fun e w' => e = .returned (.tuple #[.agg #[.string ⟨#[]⟩, .string ⟨#[]⟩], .int .i64 4]) ∧ Below w.heap.size w w' := by
  go_enter Tryd.func15, Tryd.ntmps15
  go_wp2_with fail
  obtain ⟨U1, hU1⟩ : ∃ X, X = (((w.alloc (.cells #[p1, p2] 38)).alloc (.cells #[p3, p4] 38)).alloc (.cells #[(.string ⟨#[]⟩), (.string ⟨#[]⟩)] 23)) := ⟨_, rfl⟩
  have Jf : Hid (IHolds U1 (w.heap.size) 38 [p1, p2]) := by
    have q := IHolds.new w 38 [p1, p2]
    show IHolds _ _ _ _
    rw [hU1]
    exact ((q.alloc _).alloc _)
  have Jg : Hid (IHolds U1 (w.heap.size + 1) 38 [p3, p4]) := by
    have q := IHolds.new (w.alloc (.cells #[p1, p2] 38)) 38 [p3, p4]
    simp only [World.size_alloc, Nat.add_assoc, Nat.reduceAdd] at q
    show IHolds _ _ _ _
    rw [hU1]
    exact (q.alloc _)
  have Jr : Hid (IHolds U1 (w.heap.size + 2) 23 [(.string ⟨#[]⟩), (.string ⟨#[]⟩)]) := by
    have q := IHolds.new ((w.alloc (.cells #[p1, p2] 38)).alloc (.cells #[p3, p4] 38)) 23 [(.string ⟨#[]⟩), (.string ⟨#[]⟩)]
    simp only [World.size_alloc, Nat.add_assoc, Nat.reduceAdd] at q
    show IHolds _ _ _ _
    rw [hU1]
    exact q
  have B : Hid (Below w.heap.size w U1) := by
    show Below _ _ _
    rw [hU1]
    exact ((((Below.refl _ w).alloc (Nat.le_refl _) _).alloc (by simp only [World.size_alloc]; omega) _).alloc (by simp only [World.size_alloc]; omega) _)
  rw [← hU1]
  clear hU1
  refine (C0.out U1 B.out).mono ?_
  rintro e U2 ⟨rfl, hb⟩
  replace B := aB B hb
  replace Jf := aJ Jf hb
  replace Jg := aJ Jg hb
  replace Jr := aJ Jr hb
  clear hb
  obtain ⟨zr_0, zr_1⟩ := cJ Jr
  have f0 := fJ Jr
  have hBut : But (w.heap.size + 2) U2 ((U2.setCell ⟨w.heap.size + 2, 0, none⟩ (.string ⟨#[]⟩)).setCell ⟨w.heap.size + 2, 1, none⟩ (.string ⟨#[]⟩)) := (((But.refl _ U2).setCell 0 (.string ⟨#[]⟩)).setCell 1 (.string ⟨#[]⟩))
  have I4 : Hid (IHolds _ (w.heap.size + 2) 23 [(.string ⟨#[]⟩), (.string ⟨#[]⟩)]) := ((Jr.out.set 0 (.string ⟨#[]⟩)).set 1 (.string ⟨#[]⟩))
  replace B : Hid (Below w.heap.size w ((U2.setCell ⟨w.heap.size + 2, 0, none⟩ (.string ⟨#[]⟩)).setCell ⟨w.heap.size + 2, 1, none⟩ (.string ⟨#[]⟩))) := ((B.out.setCell (by first | exact Nat.le_refl _ | exact ge_r.out | (show w.heap.size ≤ w.heap.size + 2; omega)) _).setCell (by first | exact Nat.le_refl _ | exact ge_r.out | (show w.heap.size ≤ w.heap.size + 2; omega)) _)
  replace Jf := tJ Jf hBut (by omega)
  replace Jg := tJ Jg hBut (by omega)
  replace Jr := I4
  clear I4 hBut
  go_wp2_with fail
  clear zr_0 zr_1
  clear f0
  generalize ((U2.setCell ⟨w.heap.size + 2, 0, none⟩ (.string ⟨#[]⟩)).setCell ⟨w.heap.size + 2, 1, none⟩ (.string ⟨#[]⟩)) = U3 at *
  have E0 : Hid (U3.cell? ⟨w.heap.size + 2, 0, none⟩ = some ((.string ⟨#[]⟩))) := IHolds.cell (l := [(.string ⟨#[]⟩), (.string ⟨#[]⟩)]) (t := 23) (b := w.heap.size + 2) (w := U3) Jr.out 0 (by simp)
  have E1 : Hid (U3.cell? ⟨w.heap.size + 2, 1, none⟩ = some ((.string ⟨#[]⟩))) := IHolds.cell (l := [(.string ⟨#[]⟩), (.string ⟨#[]⟩)]) (t := 23) (b := w.heap.size + 2) (w := U3) Jr.out 1 (by simp)
  exact bodyPost_ret (v := .tuple #[.agg #[(.string ⟨#[]⟩), (.string ⟨#[]⟩)], .int .i64 4]) (by simp [results, Tryd.results15, go_sem, E0.out, E1.out]) rfl ⟨rfl, B.out⟩
set_option maxRecDepth 100000 in
set_option maxHeartbeats 2000000 in
theorem minusC_any {w : World} {p1 p2 p3 p4 : Value} (z : Int) (hz : ¬ z < 0) (C0 : Hid (∀ W, Below w.heap.size w W → Calls Tryd.prog 16 #[.agg #[p1, p2], .agg #[p3, p4]] W fun e w' => e = .returned (.int .i64 z) ∧ Below W.heap.size W w')) (N D : Nat) (T1 T2 : ByteArray) (C1 : Hid (∀ W, Below w.heap.size w W → Calls Tryd.prog 17 #[.agg #[p1, p2], .agg #[p3, p4]] W fun e w' => (∃ u1 u2, e = .returned (.agg #[u1, u2]) ∧ NumV w' 1000000000 N u1 ∧ NumV w' 1000000000 D u2) ∧ Below W.heap.size W w')) (C2 : Hid (∀ W u1 u2, NumV W 1000000000 N u1 → NumV W 1000000000 D u2 → Calls Tryd.prog 18 #[.agg #[u1, u2]] W fun e w' => e = .returned (.agg #[.string T1, .string T2]) ∧ Below W.heap.size W w')) :
    Calls Tryd.prog 15 #[.agg #[p1, p2], .agg #[p3, p4]] w fun e w' => e = .returned (.tuple #[.agg #[.string T1, .string T2], .int .i64 0]) ∧ Below w.heap.size w w' := by
  go_enter Tryd.func15, Tryd.ntmps15
  go_wp2_with fail
  obtain ⟨U1, hU1⟩ : ∃ X, X = (((w.alloc (.cells #[p1, p2] 38)).alloc (.cells #[p3, p4] 38)).alloc (.cells #[(.string ⟨#[]⟩), (.string ⟨#[]⟩)] 23)) := ⟨_, rfl⟩
  have Jf : Hid (IHolds U1 (w.heap.size) 38 [p1, p2]) := by
    have q := IHolds.new w 38 [p1, p2]
    show IHolds _ _ _ _
    rw [hU1]
    exact ((q.alloc _).alloc _)
  have Jg : Hid (IHolds U1 (w.heap.size + 1) 38 [p3, p4]) := by
    have q := IHolds.new (w.alloc (.cells #[p1, p2] 38)) 38 [p3, p4]
    simp only [World.size_alloc, Nat.add_assoc, Nat.reduceAdd] at q
    show IHolds _ _ _ _
    rw [hU1]
    exact (q.alloc _)
  have Jr : Hid (IHolds U1 (w.heap.size + 2) 23 [(.string ⟨#[]⟩), (.string ⟨#[]⟩)]) := by
    have q := IHolds.new ((w.alloc (.cells #[p1, p2] 38)).alloc (.cells #[p3, p4] 38)) 23 [(.string ⟨#[]⟩), (.string ⟨#[]⟩)]
    simp only [World.size_alloc, Nat.add_assoc, Nat.reduceAdd] at q
    show IHolds _ _ _ _
    rw [hU1]
    exact q
  have B : Hid (Below w.heap.size w U1) := by
    show Below _ _ _
    rw [hU1]
    exact ((((Below.refl _ w).alloc (Nat.le_refl _) _).alloc (by simp only [World.size_alloc]; omega) _).alloc (by simp only [World.size_alloc]; omega) _)
  rw [← hU1]
  clear hU1
  refine (C0.out U1 B.out).mono ?_
  rintro e U2 ⟨rfl, hb⟩
  replace B := aB B hb
  replace Jf := aJ Jf hb
  replace Jg := aJ Jg hb
  replace Jr := aJ Jr hb
  clear hb
  obtain ⟨zf_0, zf_1⟩ := cJ Jf
  obtain ⟨zg_0, zg_1⟩ := cJ Jg
  go_wp2_with fail
  clear zf_0 zf_1 zg_0 zg_1
  refine (C1.out U2 B.out).mono ?_
  rintro e U3 ⟨⟨u1, u2, rfl, hv, hv'⟩, hb⟩
  have Nu1 : Hid (NumV U3 1000000000 (N) u1) := hv
  have Nu2 : Hid (NumV U3 1000000000 (D) u2) := hv'
  clear hv hv'
  replace B := aB B hb
  replace Jf := aJ Jf hb
  replace Jg := aJ Jg hb
  replace Jr := aJ Jr hb
  clear hb
  go_wp2_with fail
  refine (C2.out U3 u1 u2 Nu1.out Nu2.out).mono ?_
  rintro e U4 ⟨rfl, hb⟩
  replace B := aB B hb
  replace Jf := aJ Jf hb
  replace Jg := aJ Jg hb
  replace Jr := aJ Jr hb
  replace Nu1 := aN Nu1 hb
  replace Nu2 := aN Nu2 hb
  clear hb
  obtain ⟨zr_0, zr_1⟩ := cJ Jr
  have f0 := fJ Jr
  have hBut : But (w.heap.size + 2) U4 ((U4.setCell ⟨w.heap.size + 2, 0, none⟩ (.string T1)).setCell ⟨w.heap.size + 2, 1, none⟩ (.string T2)) := (((But.refl _ U4).setCell 0 (.string T1)).setCell 1 (.string T2))
  have I4 : Hid (IHolds _ (w.heap.size + 2) 23 [(.string T1), (.string T2)]) := ((Jr.out.set 0 (.string T1)).set 1 (.string T2))
  replace B : Hid (Below w.heap.size w ((U4.setCell ⟨w.heap.size + 2, 0, none⟩ (.string T1)).setCell ⟨w.heap.size + 2, 1, none⟩ (.string T2))) := ((B.out.setCell (by first | exact Nat.le_refl _ | exact ge_r.out | (show w.heap.size ≤ w.heap.size + 2; omega)) _).setCell (by first | exact Nat.le_refl _ | exact ge_r.out | (show w.heap.size ≤ w.heap.size + 2; omega)) _)
  replace Jf := tJ Jf hBut (by omega)
  replace Jg := tJ Jg hBut (by omega)
  replace Nu1 := tN Nu1 Jr (by simp) hBut
  replace Nu2 := tN Nu2 Jr (by simp) hBut
  replace Jr := I4
  clear I4 hBut
  go_wp2_with fail
  clear zr_0 zr_1
  clear f0
  generalize ((U4.setCell ⟨w.heap.size + 2, 0, none⟩ (.string T1)).setCell ⟨w.heap.size + 2, 1, none⟩ (.string T2)) = U5 at *
  have E0 : Hid (U5.cell? ⟨w.heap.size + 2, 0, none⟩ = some ((.string T1))) := IHolds.cell (l := [(.string T1), (.string T2)]) (t := 23) (b := w.heap.size + 2) (w := U5) Jr.out 0 (by simp)
  have E1 : Hid (U5.cell? ⟨w.heap.size + 2, 1, none⟩ = some ((.string T2))) := IHolds.cell (l := [(.string T1), (.string T2)]) (t := 23) (b := w.heap.size + 2) (w := U5) Jr.out 1 (by simp)
  exact bodyPost_ret (v := .tuple #[.agg #[(.string T1), (.string T2)], .int .i64 0]) (by simp [results, Tryd.results15, go_sem, E0.out, E1.out]) rfl ⟨rfl, B.out⟩
set_option maxRecDepth 100000 in
set_option maxHeartbeats 2000000 in
theorem overC_zero {w : World} {p1 p2 : Value} {a3 a4 : Option Addr} {l3 c3 l4 c4 : Nat} (C0 : Hid (∀ W, Below w.heap.size w W → Calls Tryd.prog 20 #[.slice a3 l3 c3] W fun e w' => e = .returned (.bool true) ∧ w' = W))  :
    Calls Tryd.prog 19 #[.agg #[p1, p2], .agg #[.slice a3 l3 c3, .slice a4 l4 c4]] w fun e w' => e = .returned (.tuple #[.agg #[.string ⟨#[]⟩, .string ⟨#[]⟩], .int .i64 5]) ∧ Below w.heap.size w w' := by
  go_enter Tryd.func19, Tryd.ntmps19
  go_wp2_with fail
  obtain ⟨U1, hU1⟩ : ∃ X, X = (((w.alloc (.cells #[p1, p2] 38)).alloc (.cells #[(.slice a3 l3 c3), (.slice a4 l4 c4)] 38)).alloc (.cells #[(.string ⟨#[]⟩), (.string ⟨#[]⟩)] 23)) := ⟨_, rfl⟩
  have Jf : Hid (IHolds U1 (w.heap.size) 38 [p1, p2]) := by
    have q := IHolds.new w 38 [p1, p2]
    show IHolds _ _ _ _
    rw [hU1]
    exact ((q.alloc _).alloc _)
  have Jg : Hid (IHolds U1 (w.heap.size + 1) 38 [(.slice a3 l3 c3), (.slice a4 l4 c4)]) := by
    have q := IHolds.new (w.alloc (.cells #[p1, p2] 38)) 38 [(.slice a3 l3 c3), (.slice a4 l4 c4)]
    simp only [World.size_alloc, Nat.add_assoc, Nat.reduceAdd] at q
    show IHolds _ _ _ _
    rw [hU1]
    exact (q.alloc _)
  have Jr : Hid (IHolds U1 (w.heap.size + 2) 23 [(.string ⟨#[]⟩), (.string ⟨#[]⟩)]) := by
    have q := IHolds.new ((w.alloc (.cells #[p1, p2] 38)).alloc (.cells #[(.slice a3 l3 c3), (.slice a4 l4 c4)] 38)) 23 [(.string ⟨#[]⟩), (.string ⟨#[]⟩)]
    simp only [World.size_alloc, Nat.add_assoc, Nat.reduceAdd] at q
    show IHolds _ _ _ _
    rw [hU1]
    exact q
  have B : Hid (Below w.heap.size w U1) := by
    show Below _ _ _
    rw [hU1]
    exact ((((Below.refl _ w).alloc (Nat.le_refl _) _).alloc (by simp only [World.size_alloc]; omega) _).alloc (by simp only [World.size_alloc]; omega) _)
  rw [← hU1]
  clear hU1
  refine (C0.out U1 B.out).mono ?_
  rintro e V0 ⟨rfl, rfl⟩
  obtain ⟨zr_0, zr_1⟩ := cJ Jr
  have f0 := fJ Jr
  have hBut : But (w.heap.size + 2) V0 ((V0.setCell ⟨w.heap.size + 2, 0, none⟩ (.string ⟨#[]⟩)).setCell ⟨w.heap.size + 2, 1, none⟩ (.string ⟨#[]⟩)) := (((But.refl _ V0).setCell 0 (.string ⟨#[]⟩)).setCell 1 (.string ⟨#[]⟩))
  have I4 : Hid (IHolds _ (w.heap.size + 2) 23 [(.string ⟨#[]⟩), (.string ⟨#[]⟩)]) := ((Jr.out.set 0 (.string ⟨#[]⟩)).set 1 (.string ⟨#[]⟩))
  replace B : Hid (Below w.heap.size w ((V0.setCell ⟨w.heap.size + 2, 0, none⟩ (.string ⟨#[]⟩)).setCell ⟨w.heap.size + 2, 1, none⟩ (.string ⟨#[]⟩))) := ((B.out.setCell (by first | exact Nat.le_refl _ | exact ge_r.out | (show w.heap.size ≤ w.heap.size + 2; omega)) _).setCell (by first | exact Nat.le_refl _ | exact ge_r.out | (show w.heap.size ≤ w.heap.size + 2; omega)) _)
  replace Jf := tJ Jf hBut (by omega)
  replace Jg := tJ Jg hBut (by omega)
  replace Jr := I4
  clear I4 hBut
  go_wp2_with fail
  clear zr_0 zr_1
  clear f0
  generalize ((V0.setCell ⟨w.heap.size + 2, 0, none⟩ (.string ⟨#[]⟩)).setCell ⟨w.heap.size + 2, 1, none⟩ (.string ⟨#[]⟩)) = U2 at *
  have E0 : Hid (U2.cell? ⟨w.heap.size + 2, 0, none⟩ = some ((.string ⟨#[]⟩))) := IHolds.cell (l := [(.string ⟨#[]⟩), (.string ⟨#[]⟩)]) (t := 23) (b := w.heap.size + 2) (w := U2) Jr.out 0 (by simp)
  have E1 : Hid (U2.cell? ⟨w.heap.size + 2, 1, none⟩ = some ((.string ⟨#[]⟩))) := IHolds.cell (l := [(.string ⟨#[]⟩), (.string ⟨#[]⟩)]) (t := 23) (b := w.heap.size + 2) (w := U2) Jr.out 1 (by simp)
  exact bodyPost_ret (v := .tuple #[.agg #[(.string ⟨#[]⟩), (.string ⟨#[]⟩)], .int .i64 5]) (by simp [results, Tryd.results19, go_sem, E0.out, E1.out]) rfl ⟨rfl, B.out⟩
set_option maxRecDepth 100000 in
set_option maxHeartbeats 2000000 in
theorem overC_any {w : World} {p1 p2 : Value} {a3 a4 : Option Addr} {l3 c3 l4 c4 : Nat} (C0 : Hid (∀ W, Below w.heap.size w W → Calls Tryd.prog 20 #[.slice a3 l3 c3] W fun e w' => e = .returned (.bool false) ∧ w' = W)) (N D : Nat) (T1 T2 : ByteArray) (C1 : Hid (∀ W, Below w.heap.size w W → Calls Tryd.prog 21 #[.agg #[p1, p2], .agg #[.slice a4 l4 c4, .slice a3 l3 c3]] W fun e w' => (∃ u1 u2, e = .returned (.agg #[u1, u2]) ∧ NumV w' 1000000000 N u1 ∧ NumV w' 1000000000 D u2) ∧ Below W.heap.size W w')) (C2 : Hid (∀ W u1 u2, NumV W 1000000000 N u1 → NumV W 1000000000 D u2 → Calls Tryd.prog 18 #[.agg #[u1, u2]] W fun e w' => e = .returned (.agg #[.string T1, .string T2]) ∧ Below W.heap.size W w')) :
    Calls Tryd.prog 19 #[.agg #[p1, p2], .agg #[.slice a3 l3 c3, .slice a4 l4 c4]] w fun e w' => e = .returned (.tuple #[.agg #[.string T1, .string T2], .int .i64 0]) ∧ Below w.heap.size w w' := by
  go_enter Tryd.func19, Tryd.ntmps19
  go_wp2_with fail
  obtain ⟨U1, hU1⟩ : ∃ X, X = (((w.alloc (.cells #[p1, p2] 38)).alloc (.cells #[(.slice a3 l3 c3), (.slice a4 l4 c4)] 38)).alloc (.cells #[(.string ⟨#[]⟩), (.string ⟨#[]⟩)] 23)) := ⟨_, rfl⟩
  have Jf : Hid (IHolds U1 (w.heap.size) 38 [p1, p2]) := by
    have q := IHolds.new w 38 [p1, p2]
    show IHolds _ _ _ _
    rw [hU1]
    exact ((q.alloc _).alloc _)
  have Jg : Hid (IHolds U1 (w.heap.size + 1) 38 [(.slice a3 l3 c3), (.slice a4 l4 c4)]) := by
    have q := IHolds.new (w.alloc (.cells #[p1, p2] 38)) 38 [(.slice a3 l3 c3), (.slice a4 l4 c4)]
    simp only [World.size_alloc, Nat.add_assoc, Nat.reduceAdd] at q
    show IHolds _ _ _ _
    rw [hU1]
    exact (q.alloc _)
  have Jr : Hid (IHolds U1 (w.heap.size + 2) 23 [(.string ⟨#[]⟩), (.string ⟨#[]⟩)]) := by
    have q := IHolds.new ((w.alloc (.cells #[p1, p2] 38)).alloc (.cells #[(.slice a3 l3 c3), (.slice a4 l4 c4)] 38)) 23 [(.string ⟨#[]⟩), (.string ⟨#[]⟩)]
    simp only [World.size_alloc, Nat.add_assoc, Nat.reduceAdd] at q
    show IHolds _ _ _ _
    rw [hU1]
    exact q
  have B : Hid (Below w.heap.size w U1) := by
    show Below _ _ _
    rw [hU1]
    exact ((((Below.refl _ w).alloc (Nat.le_refl _) _).alloc (by simp only [World.size_alloc]; omega) _).alloc (by simp only [World.size_alloc]; omega) _)
  rw [← hU1]
  clear hU1
  refine (C0.out U1 B.out).mono ?_
  rintro e V0 ⟨rfl, rfl⟩
  obtain ⟨zf_0, zf_1⟩ := cJ Jf
  obtain ⟨zg_0, zg_1⟩ := cJ Jg
  go_wp2_with fail
  clear zf_0 zf_1 zg_0 zg_1
  refine (C1.out V0 B.out).mono ?_
  rintro e U2 ⟨⟨u1, u2, rfl, hv, hv'⟩, hb⟩
  have Nu1 : Hid (NumV U2 1000000000 (N) u1) := hv
  have Nu2 : Hid (NumV U2 1000000000 (D) u2) := hv'
  clear hv hv'
  replace B := aB B hb
  replace Jf := aJ Jf hb
  replace Jg := aJ Jg hb
  replace Jr := aJ Jr hb
  clear hb
  go_wp2_with fail
  refine (C2.out U2 u1 u2 Nu1.out Nu2.out).mono ?_
  rintro e U3 ⟨rfl, hb⟩
  replace B := aB B hb
  replace Jf := aJ Jf hb
  replace Jg := aJ Jg hb
  replace Jr := aJ Jr hb
  replace Nu1 := aN Nu1 hb
  replace Nu2 := aN Nu2 hb
  clear hb
  obtain ⟨zr_0, zr_1⟩ := cJ Jr
  have f0 := fJ Jr
  have hBut : But (w.heap.size + 2) U3 ((U3.setCell ⟨w.heap.size + 2, 0, none⟩ (.string T1)).setCell ⟨w.heap.size + 2, 1, none⟩ (.string T2)) := (((But.refl _ U3).setCell 0 (.string T1)).setCell 1 (.string T2))
  have I4 : Hid (IHolds _ (w.heap.size + 2) 23 [(.string T1), (.string T2)]) := ((Jr.out.set 0 (.string T1)).set 1 (.string T2))
  replace B : Hid (Below w.heap.size w ((U3.setCell ⟨w.heap.size + 2, 0, none⟩ (.string T1)).setCell ⟨w.heap.size + 2, 1, none⟩ (.string T2))) := ((B.out.setCell (by first | exact Nat.le_refl _ | exact ge_r.out | (show w.heap.size ≤ w.heap.size + 2; omega)) _).setCell (by first | exact Nat.le_refl _ | exact ge_r.out | (show w.heap.size ≤ w.heap.size + 2; omega)) _)
  replace Jf := tJ Jf hBut (by omega)
  replace Jg := tJ Jg hBut (by omega)
  replace Nu1 := tN Nu1 Jr (by simp) hBut
  replace Nu2 := tN Nu2 Jr (by simp) hBut
  replace Jr := I4
  clear I4 hBut
  go_wp2_with fail
  clear zr_0 zr_1
  clear f0
  generalize ((U3.setCell ⟨w.heap.size + 2, 0, none⟩ (.string T1)).setCell ⟨w.heap.size + 2, 1, none⟩ (.string T2)) = U4 at *
  have E0 : Hid (U4.cell? ⟨w.heap.size + 2, 0, none⟩ = some ((.string T1))) := IHolds.cell (l := [(.string T1), (.string T2)]) (t := 23) (b := w.heap.size + 2) (w := U4) Jr.out 0 (by simp)
  have E1 : Hid (U4.cell? ⟨w.heap.size + 2, 1, none⟩ = some ((.string T2))) := IHolds.cell (l := [(.string T1), (.string T2)]) (t := 23) (b := w.heap.size + 2) (w := U4) Jr.out 1 (by simp)
  exact bodyPost_ret (v := .tuple #[.agg #[(.string T1), (.string T2)], .int .i64 0]) (by simp [results, Tryd.results19, go_sem, E0.out, E1.out]) rfl ⟨rfl, B.out⟩
end Go.Proofs.YtnahindcgedbaabDoor
