/- The walks of what reads two fractions. -/
import Derived.Test.YtnahindcgedbaabDoorFracClos
import Derived.Test.YtnahindcgedbaabDoorReadFrac
set_option linter.unusedSimpArgs false
set_option linter.unusedVariables false
namespace Go.Proofs.YtnahindcgedbaabDoor
open Go.RowKit Go.Deep Go.PlainAid

set_option maxRecDepth 100000 in
set_option maxHeartbeats 2000000 in
theorem withTwo70_72 {n1 d1 n2 d2 : ByteArray} {N1 D1 N2 D2 : Nat} {w : World} (T1 T2 : ByteArray) (c : Int) (R1 : Hid (∀ W, Calls Tryd.prog 14 #[.agg #[.string n1, .string d1]] W fun e w' => (∃ u1 u2, e = .returned (.tuple #[.agg #[u1, u2], .int .i64 0]) ∧ NumV w' 1000000000 N1 u1 ∧ NumV w' 1000000000 D1 u2) ∧ Below W.heap.size W w')) (R2 : Hid (∀ W, Calls Tryd.prog 14 #[.agg #[.string n2, .string d2]] W fun e w' => (∃ u1 u2, e = .returned (.tuple #[.agg #[u1, u2], .int .i64 0]) ∧ NumV w' 1000000000 N2 u1 ∧ NumV w' 1000000000 D2 u2) ∧ Below W.heap.size W w'))
    (HF : Hid (∀ W p1 p2 p3 p4, NumV W 1000000000 N1 p1 → NumV W 1000000000 D1 p2 → NumV W 1000000000 N2 p3 → NumV W 1000000000 D2 p4 → Calls Tryd.prog 29 #[.agg #[p1, p2], .agg #[p3, p4]] W fun e w' => e = .returned (.tuple #[.agg #[.string T1, .string T2], .int .i64 c]) ∧ Below W.heap.size W w')) :
    Calls Tryd.prog 13 #[.func (.func 14) #[] #[], .agg #[.string n1, .string d1], .agg #[.string n2, .string d2], .func (.func 29) #[] #[]] w fun e w' => e = .returned (.tuple #[.agg #[.string T1, .string T2], .int .i64 c]) ∧ Below w.heap.size w w' := by
  go_enter Tryd.func13, Tryd.ntmps13
  go_wp2_with fail
  obtain ⟨U1, hU1⟩ : ∃ X, X = ((((w.alloc (.cells #[(.string n1), (.string d1)] 23)).alloc (.cells #[(.string n2), (.string d2)] 23)).alloc (.cells #[(.string ⟨#[]⟩), (.string ⟨#[]⟩)] 23)).alloc (.cells #[(.string ⟨#[]⟩), (.string ⟨#[]⟩)] 23)) := ⟨_, rfl⟩
  have Jx : Hid (IHolds U1 (w.heap.size) 23 [(.string n1), (.string d1)]) := by
    have q := IHolds.new w 23 [(.string n1), (.string d1)]
    show IHolds _ _ _ _
    rw [hU1]
    exact (((q.alloc _).alloc _).alloc _)
  have Jy : Hid (IHolds U1 (w.heap.size + 1) 23 [(.string n2), (.string d2)]) := by
    have q := IHolds.new (w.alloc (.cells #[(.string n1), (.string d1)] 23)) 23 [(.string n2), (.string d2)]
    simp only [World.size_alloc, Nat.add_assoc, Nat.reduceAdd] at q
    show IHolds _ _ _ _
    rw [hU1]
    exact ((q.alloc _).alloc _)
  have Jr : Hid (IHolds U1 (w.heap.size + 2) 23 [(.string ⟨#[]⟩), (.string ⟨#[]⟩)]) := by
    have q := IHolds.new ((w.alloc (.cells #[(.string n1), (.string d1)] 23)).alloc (.cells #[(.string n2), (.string d2)] 23)) 23 [(.string ⟨#[]⟩), (.string ⟨#[]⟩)]
    simp only [World.size_alloc, Nat.add_assoc, Nat.reduceAdd] at q
    show IHolds _ _ _ _
    rw [hU1]
    exact (q.alloc _)
  have Jo : Hid (IHolds U1 (w.heap.size + 3) 23 [(.string ⟨#[]⟩), (.string ⟨#[]⟩)]) := by
    have q := IHolds.new (((w.alloc (.cells #[(.string n1), (.string d1)] 23)).alloc (.cells #[(.string n2), (.string d2)] 23)).alloc (.cells #[(.string ⟨#[]⟩), (.string ⟨#[]⟩)] 23)) 23 [(.string ⟨#[]⟩), (.string ⟨#[]⟩)]
    simp only [World.size_alloc, Nat.add_assoc, Nat.reduceAdd] at q
    show IHolds _ _ _ _
    rw [hU1]
    exact q
  have B : Hid (Below w.heap.size w U1) := by
    show Below _ _ _
    rw [hU1]
    exact (((((Below.refl _ w).alloc (Nat.le_refl _) _).alloc (by simp only [World.size_alloc]; omega) _).alloc (by simp only [World.size_alloc]; omega) _).alloc (by simp only [World.size_alloc]; omega) _)
  rw [← hU1]
  clear hU1
  refine (R1.out U1).mono ?_
  rintro e U2 ⟨⟨p1, p2, rfl, hv, hv'⟩, hb⟩
  have Np1 : Hid (NumV U2 1000000000 N1 p1) := hv
  have Np2 : Hid (NumV U2 1000000000 D1 p2) := hv'
  clear hv hv'
  replace B := aB B hb
  replace Jx := aJ Jx hb
  replace Jy := aJ Jy hb
  replace Jr := aJ Jr hb
  replace Jo := aJ Jo hb
  clear hb
  obtain ⟨p1_a, p1_l, p1_c, rfl⟩ := sN Np1
  obtain ⟨p2_a, p2_l, p2_c, rfl⟩ := sN Np2
  have hb := nB U2 (.cells #[(.slice p1_a p1_l p1_c), (.slice p2_a p2_l p2_c)] 38)
  have Jf : Hid (IHolds (U2.alloc (.cells #[(.slice p1_a p1_l p1_c), (.slice p2_a p2_l p2_c)] 38)) U2.heap.size 38 [(.slice p1_a p1_l p1_c), (.slice p2_a p2_l p2_c)]) := IHolds.new _ _ _
  have ne_x_f := nJ Jx
  have ne_y_f := nJ Jy
  have ne_r_f := nJ Jr
  have ne_o_f := nJ Jo
  have ge_f : Hid (w.heap.size ≤ U2.heap.size) := B.out.size
  replace B := aB B hb
  replace Jx := aJ Jx hb
  replace Jy := aJ Jy hb
  replace Jr := aJ Jr hb
  replace Jo := aJ Jo hb
  replace Np1 := aN Np1 hb
  replace Np2 := aN Np2 hb
  clear hb
  obtain ⟨zy_0, zy_1⟩ := cJ Jy
  go_wp2_with fail
  clear zy_0 zy_1
  generalize (U2.alloc (.cells #[(.slice p1_a p1_l p1_c), (.slice p2_a p2_l p2_c)] 38)) = U3 at *
  generalize U2.heap.size = b4 at *
  refine (R2.out U3).mono ?_
  rintro e U5 ⟨⟨p3, p4, rfl, hv, hv'⟩, hb⟩
  have Np3 : Hid (NumV U5 1000000000 N2 p3) := hv
  have Np4 : Hid (NumV U5 1000000000 D2 p4) := hv'
  clear hv hv'
  replace B := aB B hb
  replace Jx := aJ Jx hb
  replace Jy := aJ Jy hb
  replace Jr := aJ Jr hb
  replace Jo := aJ Jo hb
  replace Jf := aJ Jf hb
  replace Np1 := aN Np1 hb
  replace Np2 := aN Np2 hb
  clear hb
  obtain ⟨p3_a, p3_l, p3_c, rfl⟩ := sN Np3
  obtain ⟨p4_a, p4_l, p4_c, rfl⟩ := sN Np4
  have hb := nB U5 (.cells #[(.slice p3_a p3_l p3_c), (.slice p4_a p4_l p4_c)] 38)
  have Jg : Hid (IHolds (U5.alloc (.cells #[(.slice p3_a p3_l p3_c), (.slice p4_a p4_l p4_c)] 38)) U5.heap.size 38 [(.slice p3_a p3_l p3_c), (.slice p4_a p4_l p4_c)]) := IHolds.new _ _ _
  have ne_x_g := nJ Jx
  have ne_y_g := nJ Jy
  have ne_r_g := nJ Jr
  have ne_o_g := nJ Jo
  have ne_f_g := nJ Jf
  have ge_g : Hid (w.heap.size ≤ U5.heap.size) := B.out.size
  replace B := aB B hb
  replace Jx := aJ Jx hb
  replace Jy := aJ Jy hb
  replace Jr := aJ Jr hb
  replace Jo := aJ Jo hb
  replace Jf := aJ Jf hb
  replace Np1 := aN Np1 hb
  replace Np2 := aN Np2 hb
  replace Np3 := aN Np3 hb
  replace Np4 := aN Np4 hb
  clear hb
  obtain ⟨zf_0, zf_1⟩ := cJ Jf
  go_wp2_with fail
  clear zf_0 zf_1
  generalize (U5.alloc (.cells #[(.slice p3_a p3_l p3_c), (.slice p4_a p4_l p4_c)] 38)) = U6 at *
  generalize U5.heap.size = b7 at *
  refine (HF.out U6 _ _ _ _ Np1.out Np2.out Np3.out Np4.out).mono ?_
  rintro e U8 ⟨rfl, hb⟩
  replace B := aB B hb
  replace Jx := aJ Jx hb
  replace Jy := aJ Jy hb
  replace Jr := aJ Jr hb
  replace Jo := aJ Jo hb
  replace Jf := aJ Jf hb
  replace Jg := aJ Jg hb
  replace Np1 := aN Np1 hb
  replace Np2 := aN Np2 hb
  replace Np3 := aN Np3 hb
  replace Np4 := aN Np4 hb
  clear hb
  obtain ⟨zr_0, zr_1⟩ := cJ Jr
  have f0 := fJ Jr
  have hBut : But (w.heap.size + 2) U8 ((U8.setCell ⟨w.heap.size + 2, 0, none⟩ (.string T1)).setCell ⟨w.heap.size + 2, 1, none⟩ (.string T2)) := (((But.refl _ U8).setCell 0 (.string T1)).setCell 1 (.string T2))
  have I4 : Hid (IHolds _ (w.heap.size + 2) 23 [(.string T1), (.string T2)]) := ((Jr.out.set 0 (.string T1)).set 1 (.string T2))
  replace B : Hid (Below w.heap.size w ((U8.setCell ⟨w.heap.size + 2, 0, none⟩ (.string T1)).setCell ⟨w.heap.size + 2, 1, none⟩ (.string T2))) := ((B.out.setCell (by first | exact Nat.le_refl _ | exact ge_r.out | (show w.heap.size ≤ w.heap.size + 2; omega)) _).setCell (by first | exact Nat.le_refl _ | exact ge_r.out | (show w.heap.size ≤ w.heap.size + 2; omega)) _)
  replace Jx := tJ Jx hBut (by first | omega | exact ne_x_r.out | exact fun h => ne_r_x.out h.symm)
  replace Jy := tJ Jy hBut (by first | omega | exact ne_y_r.out | exact fun h => ne_r_y.out h.symm)
  replace Jo := tJ Jo hBut (by first | omega | exact ne_o_r.out | exact fun h => ne_r_o.out h.symm)
  replace Jf := tJ Jf hBut (by first | omega | exact ne_f_r.out | exact fun h => ne_r_f.out h.symm)
  replace Jg := tJ Jg hBut (by first | omega | exact ne_g_r.out | exact fun h => ne_r_g.out h.symm)
  replace Np1 := tN Np1 Jr (by simp) hBut
  replace Np2 := tN Np2 Jr (by simp) hBut
  replace Np3 := tN Np3 Jr (by simp) hBut
  replace Np4 := tN Np4 Jr (by simp) hBut
  replace Jr := I4
  clear I4 hBut
  go_wp2_with fail
  clear zr_0 zr_1
  clear f0
  generalize ((U8.setCell ⟨w.heap.size + 2, 0, none⟩ (.string T1)).setCell ⟨w.heap.size + 2, 1, none⟩ (.string T2)) = U9 at *
  have E0 : Hid (U9.cell? ⟨w.heap.size + 2, 0, none⟩ = some ((.string T1))) := IHolds.cell (l := [(.string T1), (.string T2)]) (t := 23) (b := w.heap.size + 2) (w := U9) Jr.out 0 (by simp)
  have E1 : Hid (U9.cell? ⟨w.heap.size + 2, 1, none⟩ = some ((.string T2))) := IHolds.cell (l := [(.string T1), (.string T2)]) (t := 23) (b := w.heap.size + 2) (w := U9) Jr.out 1 (by simp)
  exact bodyPost_ret (v := .tuple #[.agg #[(.string T1), (.string T2)], .int .i64 c]) (by simp [results, Tryd.results13, go_sem, E0.out, E1.out]) rfl ⟨rfl, B.out⟩
set_option maxRecDepth 100000 in
set_option maxHeartbeats 2000000 in
theorem withTwo70_75 {n1 d1 n2 d2 : ByteArray} {N1 D1 N2 D2 : Nat} {w : World} (T1 T2 : ByteArray) (c : Int) (R1 : Hid (∀ W, Calls Tryd.prog 14 #[.agg #[.string n1, .string d1]] W fun e w' => (∃ u1 u2, e = .returned (.tuple #[.agg #[u1, u2], .int .i64 0]) ∧ NumV w' 1000000000 N1 u1 ∧ NumV w' 1000000000 D1 u2) ∧ Below W.heap.size W w')) (R2 : Hid (∀ W, Calls Tryd.prog 14 #[.agg #[.string n2, .string d2]] W fun e w' => (∃ u1 u2, e = .returned (.tuple #[.agg #[u1, u2], .int .i64 0]) ∧ NumV w' 1000000000 N2 u1 ∧ NumV w' 1000000000 D2 u2) ∧ Below W.heap.size W w'))
    (HF : Hid (∀ W p1 p2 p3 p4, NumV W 1000000000 N1 p1 → NumV W 1000000000 D1 p2 → NumV W 1000000000 N2 p3 → NumV W 1000000000 D2 p4 → Calls Tryd.prog 28 #[.agg #[p1, p2], .agg #[p3, p4]] W fun e w' => e = .returned (.tuple #[.agg #[.string T1, .string T2], .int .i64 c]) ∧ Below W.heap.size W w')) :
    Calls Tryd.prog 13 #[.func (.func 14) #[] #[], .agg #[.string n1, .string d1], .agg #[.string n2, .string d2], .func (.func 28) #[] #[]] w fun e w' => e = .returned (.tuple #[.agg #[.string T1, .string T2], .int .i64 c]) ∧ Below w.heap.size w w' := by
  go_enter Tryd.func13, Tryd.ntmps13
  go_wp2_with fail
  obtain ⟨U1, hU1⟩ : ∃ X, X = ((((w.alloc (.cells #[(.string n1), (.string d1)] 23)).alloc (.cells #[(.string n2), (.string d2)] 23)).alloc (.cells #[(.string ⟨#[]⟩), (.string ⟨#[]⟩)] 23)).alloc (.cells #[(.string ⟨#[]⟩), (.string ⟨#[]⟩)] 23)) := ⟨_, rfl⟩
  have Jx : Hid (IHolds U1 (w.heap.size) 23 [(.string n1), (.string d1)]) := by
    have q := IHolds.new w 23 [(.string n1), (.string d1)]
    show IHolds _ _ _ _
    rw [hU1]
    exact (((q.alloc _).alloc _).alloc _)
  have Jy : Hid (IHolds U1 (w.heap.size + 1) 23 [(.string n2), (.string d2)]) := by
    have q := IHolds.new (w.alloc (.cells #[(.string n1), (.string d1)] 23)) 23 [(.string n2), (.string d2)]
    simp only [World.size_alloc, Nat.add_assoc, Nat.reduceAdd] at q
    show IHolds _ _ _ _
    rw [hU1]
    exact ((q.alloc _).alloc _)
  have Jr : Hid (IHolds U1 (w.heap.size + 2) 23 [(.string ⟨#[]⟩), (.string ⟨#[]⟩)]) := by
    have q := IHolds.new ((w.alloc (.cells #[(.string n1), (.string d1)] 23)).alloc (.cells #[(.string n2), (.string d2)] 23)) 23 [(.string ⟨#[]⟩), (.string ⟨#[]⟩)]
    simp only [World.size_alloc, Nat.add_assoc, Nat.reduceAdd] at q
    show IHolds _ _ _ _
    rw [hU1]
    exact (q.alloc _)
  have Jo : Hid (IHolds U1 (w.heap.size + 3) 23 [(.string ⟨#[]⟩), (.string ⟨#[]⟩)]) := by
    have q := IHolds.new (((w.alloc (.cells #[(.string n1), (.string d1)] 23)).alloc (.cells #[(.string n2), (.string d2)] 23)).alloc (.cells #[(.string ⟨#[]⟩), (.string ⟨#[]⟩)] 23)) 23 [(.string ⟨#[]⟩), (.string ⟨#[]⟩)]
    simp only [World.size_alloc, Nat.add_assoc, Nat.reduceAdd] at q
    show IHolds _ _ _ _
    rw [hU1]
    exact q
  have B : Hid (Below w.heap.size w U1) := by
    show Below _ _ _
    rw [hU1]
    exact (((((Below.refl _ w).alloc (Nat.le_refl _) _).alloc (by simp only [World.size_alloc]; omega) _).alloc (by simp only [World.size_alloc]; omega) _).alloc (by simp only [World.size_alloc]; omega) _)
  rw [← hU1]
  clear hU1
  refine (R1.out U1).mono ?_
  rintro e U2 ⟨⟨p1, p2, rfl, hv, hv'⟩, hb⟩
  have Np1 : Hid (NumV U2 1000000000 N1 p1) := hv
  have Np2 : Hid (NumV U2 1000000000 D1 p2) := hv'
  clear hv hv'
  replace B := aB B hb
  replace Jx := aJ Jx hb
  replace Jy := aJ Jy hb
  replace Jr := aJ Jr hb
  replace Jo := aJ Jo hb
  clear hb
  obtain ⟨p1_a, p1_l, p1_c, rfl⟩ := sN Np1
  obtain ⟨p2_a, p2_l, p2_c, rfl⟩ := sN Np2
  have hb := nB U2 (.cells #[(.slice p1_a p1_l p1_c), (.slice p2_a p2_l p2_c)] 38)
  have Jf : Hid (IHolds (U2.alloc (.cells #[(.slice p1_a p1_l p1_c), (.slice p2_a p2_l p2_c)] 38)) U2.heap.size 38 [(.slice p1_a p1_l p1_c), (.slice p2_a p2_l p2_c)]) := IHolds.new _ _ _
  have ne_x_f := nJ Jx
  have ne_y_f := nJ Jy
  have ne_r_f := nJ Jr
  have ne_o_f := nJ Jo
  have ge_f : Hid (w.heap.size ≤ U2.heap.size) := B.out.size
  replace B := aB B hb
  replace Jx := aJ Jx hb
  replace Jy := aJ Jy hb
  replace Jr := aJ Jr hb
  replace Jo := aJ Jo hb
  replace Np1 := aN Np1 hb
  replace Np2 := aN Np2 hb
  clear hb
  obtain ⟨zy_0, zy_1⟩ := cJ Jy
  go_wp2_with fail
  clear zy_0 zy_1
  generalize (U2.alloc (.cells #[(.slice p1_a p1_l p1_c), (.slice p2_a p2_l p2_c)] 38)) = U3 at *
  generalize U2.heap.size = b4 at *
  refine (R2.out U3).mono ?_
  rintro e U5 ⟨⟨p3, p4, rfl, hv, hv'⟩, hb⟩
  have Np3 : Hid (NumV U5 1000000000 N2 p3) := hv
  have Np4 : Hid (NumV U5 1000000000 D2 p4) := hv'
  clear hv hv'
  replace B := aB B hb
  replace Jx := aJ Jx hb
  replace Jy := aJ Jy hb
  replace Jr := aJ Jr hb
  replace Jo := aJ Jo hb
  replace Jf := aJ Jf hb
  replace Np1 := aN Np1 hb
  replace Np2 := aN Np2 hb
  clear hb
  obtain ⟨p3_a, p3_l, p3_c, rfl⟩ := sN Np3
  obtain ⟨p4_a, p4_l, p4_c, rfl⟩ := sN Np4
  have hb := nB U5 (.cells #[(.slice p3_a p3_l p3_c), (.slice p4_a p4_l p4_c)] 38)
  have Jg : Hid (IHolds (U5.alloc (.cells #[(.slice p3_a p3_l p3_c), (.slice p4_a p4_l p4_c)] 38)) U5.heap.size 38 [(.slice p3_a p3_l p3_c), (.slice p4_a p4_l p4_c)]) := IHolds.new _ _ _
  have ne_x_g := nJ Jx
  have ne_y_g := nJ Jy
  have ne_r_g := nJ Jr
  have ne_o_g := nJ Jo
  have ne_f_g := nJ Jf
  have ge_g : Hid (w.heap.size ≤ U5.heap.size) := B.out.size
  replace B := aB B hb
  replace Jx := aJ Jx hb
  replace Jy := aJ Jy hb
  replace Jr := aJ Jr hb
  replace Jo := aJ Jo hb
  replace Jf := aJ Jf hb
  replace Np1 := aN Np1 hb
  replace Np2 := aN Np2 hb
  replace Np3 := aN Np3 hb
  replace Np4 := aN Np4 hb
  clear hb
  obtain ⟨zf_0, zf_1⟩ := cJ Jf
  go_wp2_with fail
  clear zf_0 zf_1
  generalize (U5.alloc (.cells #[(.slice p3_a p3_l p3_c), (.slice p4_a p4_l p4_c)] 38)) = U6 at *
  generalize U5.heap.size = b7 at *
  refine (HF.out U6 _ _ _ _ Np1.out Np2.out Np3.out Np4.out).mono ?_
  rintro e U8 ⟨rfl, hb⟩
  replace B := aB B hb
  replace Jx := aJ Jx hb
  replace Jy := aJ Jy hb
  replace Jr := aJ Jr hb
  replace Jo := aJ Jo hb
  replace Jf := aJ Jf hb
  replace Jg := aJ Jg hb
  replace Np1 := aN Np1 hb
  replace Np2 := aN Np2 hb
  replace Np3 := aN Np3 hb
  replace Np4 := aN Np4 hb
  clear hb
  obtain ⟨zr_0, zr_1⟩ := cJ Jr
  have f0 := fJ Jr
  have hBut : But (w.heap.size + 2) U8 ((U8.setCell ⟨w.heap.size + 2, 0, none⟩ (.string T1)).setCell ⟨w.heap.size + 2, 1, none⟩ (.string T2)) := (((But.refl _ U8).setCell 0 (.string T1)).setCell 1 (.string T2))
  have I4 : Hid (IHolds _ (w.heap.size + 2) 23 [(.string T1), (.string T2)]) := ((Jr.out.set 0 (.string T1)).set 1 (.string T2))
  replace B : Hid (Below w.heap.size w ((U8.setCell ⟨w.heap.size + 2, 0, none⟩ (.string T1)).setCell ⟨w.heap.size + 2, 1, none⟩ (.string T2))) := ((B.out.setCell (by first | exact Nat.le_refl _ | exact ge_r.out | (show w.heap.size ≤ w.heap.size + 2; omega)) _).setCell (by first | exact Nat.le_refl _ | exact ge_r.out | (show w.heap.size ≤ w.heap.size + 2; omega)) _)
  replace Jx := tJ Jx hBut (by first | omega | exact ne_x_r.out | exact fun h => ne_r_x.out h.symm)
  replace Jy := tJ Jy hBut (by first | omega | exact ne_y_r.out | exact fun h => ne_r_y.out h.symm)
  replace Jo := tJ Jo hBut (by first | omega | exact ne_o_r.out | exact fun h => ne_r_o.out h.symm)
  replace Jf := tJ Jf hBut (by first | omega | exact ne_f_r.out | exact fun h => ne_r_f.out h.symm)
  replace Jg := tJ Jg hBut (by first | omega | exact ne_g_r.out | exact fun h => ne_r_g.out h.symm)
  replace Np1 := tN Np1 Jr (by simp) hBut
  replace Np2 := tN Np2 Jr (by simp) hBut
  replace Np3 := tN Np3 Jr (by simp) hBut
  replace Np4 := tN Np4 Jr (by simp) hBut
  replace Jr := I4
  clear I4 hBut
  go_wp2_with fail
  clear zr_0 zr_1
  clear f0
  generalize ((U8.setCell ⟨w.heap.size + 2, 0, none⟩ (.string T1)).setCell ⟨w.heap.size + 2, 1, none⟩ (.string T2)) = U9 at *
  have E0 : Hid (U9.cell? ⟨w.heap.size + 2, 0, none⟩ = some ((.string T1))) := IHolds.cell (l := [(.string T1), (.string T2)]) (t := 23) (b := w.heap.size + 2) (w := U9) Jr.out 0 (by simp)
  have E1 : Hid (U9.cell? ⟨w.heap.size + 2, 1, none⟩ = some ((.string T2))) := IHolds.cell (l := [(.string T1), (.string T2)]) (t := 23) (b := w.heap.size + 2) (w := U9) Jr.out 1 (by simp)
  exact bodyPost_ret (v := .tuple #[.agg #[(.string T1), (.string T2)], .int .i64 c]) (by simp [results, Tryd.results13, go_sem, E0.out, E1.out]) rfl ⟨rfl, B.out⟩
set_option maxRecDepth 100000 in
set_option maxHeartbeats 2000000 in
theorem withTwo70_80 {n1 d1 n2 d2 : ByteArray} {N1 D1 N2 D2 : Nat} {w : World} (T1 T2 : ByteArray) (c : Int) (R1 : Hid (∀ W, Calls Tryd.prog 14 #[.agg #[.string n1, .string d1]] W fun e w' => (∃ u1 u2, e = .returned (.tuple #[.agg #[u1, u2], .int .i64 0]) ∧ NumV w' 1000000000 N1 u1 ∧ NumV w' 1000000000 D1 u2) ∧ Below W.heap.size W w')) (R2 : Hid (∀ W, Calls Tryd.prog 14 #[.agg #[.string n2, .string d2]] W fun e w' => (∃ u1 u2, e = .returned (.tuple #[.agg #[u1, u2], .int .i64 0]) ∧ NumV w' 1000000000 N2 u1 ∧ NumV w' 1000000000 D2 u2) ∧ Below W.heap.size W w'))
    (HF : Hid (∀ W p1 p2 p3 p4, NumV W 1000000000 N1 p1 → NumV W 1000000000 D1 p2 → NumV W 1000000000 N2 p3 → NumV W 1000000000 D2 p4 → Calls Tryd.prog 15 #[.agg #[p1, p2], .agg #[p3, p4]] W fun e w' => e = .returned (.tuple #[.agg #[.string T1, .string T2], .int .i64 c]) ∧ Below W.heap.size W w')) :
    Calls Tryd.prog 13 #[.func (.func 14) #[] #[], .agg #[.string n1, .string d1], .agg #[.string n2, .string d2], .func (.func 15) #[] #[]] w fun e w' => e = .returned (.tuple #[.agg #[.string T1, .string T2], .int .i64 c]) ∧ Below w.heap.size w w' := by
  go_enter Tryd.func13, Tryd.ntmps13
  go_wp2_with fail
  obtain ⟨U1, hU1⟩ : ∃ X, X = ((((w.alloc (.cells #[(.string n1), (.string d1)] 23)).alloc (.cells #[(.string n2), (.string d2)] 23)).alloc (.cells #[(.string ⟨#[]⟩), (.string ⟨#[]⟩)] 23)).alloc (.cells #[(.string ⟨#[]⟩), (.string ⟨#[]⟩)] 23)) := ⟨_, rfl⟩
  have Jx : Hid (IHolds U1 (w.heap.size) 23 [(.string n1), (.string d1)]) := by
    have q := IHolds.new w 23 [(.string n1), (.string d1)]
    show IHolds _ _ _ _
    rw [hU1]
    exact (((q.alloc _).alloc _).alloc _)
  have Jy : Hid (IHolds U1 (w.heap.size + 1) 23 [(.string n2), (.string d2)]) := by
    have q := IHolds.new (w.alloc (.cells #[(.string n1), (.string d1)] 23)) 23 [(.string n2), (.string d2)]
    simp only [World.size_alloc, Nat.add_assoc, Nat.reduceAdd] at q
    show IHolds _ _ _ _
    rw [hU1]
    exact ((q.alloc _).alloc _)
  have Jr : Hid (IHolds U1 (w.heap.size + 2) 23 [(.string ⟨#[]⟩), (.string ⟨#[]⟩)]) := by
    have q := IHolds.new ((w.alloc (.cells #[(.string n1), (.string d1)] 23)).alloc (.cells #[(.string n2), (.string d2)] 23)) 23 [(.string ⟨#[]⟩), (.string ⟨#[]⟩)]
    simp only [World.size_alloc, Nat.add_assoc, Nat.reduceAdd] at q
    show IHolds _ _ _ _
    rw [hU1]
    exact (q.alloc _)
  have Jo : Hid (IHolds U1 (w.heap.size + 3) 23 [(.string ⟨#[]⟩), (.string ⟨#[]⟩)]) := by
    have q := IHolds.new (((w.alloc (.cells #[(.string n1), (.string d1)] 23)).alloc (.cells #[(.string n2), (.string d2)] 23)).alloc (.cells #[(.string ⟨#[]⟩), (.string ⟨#[]⟩)] 23)) 23 [(.string ⟨#[]⟩), (.string ⟨#[]⟩)]
    simp only [World.size_alloc, Nat.add_assoc, Nat.reduceAdd] at q
    show IHolds _ _ _ _
    rw [hU1]
    exact q
  have B : Hid (Below w.heap.size w U1) := by
    show Below _ _ _
    rw [hU1]
    exact (((((Below.refl _ w).alloc (Nat.le_refl _) _).alloc (by simp only [World.size_alloc]; omega) _).alloc (by simp only [World.size_alloc]; omega) _).alloc (by simp only [World.size_alloc]; omega) _)
  rw [← hU1]
  clear hU1
  refine (R1.out U1).mono ?_
  rintro e U2 ⟨⟨p1, p2, rfl, hv, hv'⟩, hb⟩
  have Np1 : Hid (NumV U2 1000000000 N1 p1) := hv
  have Np2 : Hid (NumV U2 1000000000 D1 p2) := hv'
  clear hv hv'
  replace B := aB B hb
  replace Jx := aJ Jx hb
  replace Jy := aJ Jy hb
  replace Jr := aJ Jr hb
  replace Jo := aJ Jo hb
  clear hb
  obtain ⟨p1_a, p1_l, p1_c, rfl⟩ := sN Np1
  obtain ⟨p2_a, p2_l, p2_c, rfl⟩ := sN Np2
  have hb := nB U2 (.cells #[(.slice p1_a p1_l p1_c), (.slice p2_a p2_l p2_c)] 38)
  have Jf : Hid (IHolds (U2.alloc (.cells #[(.slice p1_a p1_l p1_c), (.slice p2_a p2_l p2_c)] 38)) U2.heap.size 38 [(.slice p1_a p1_l p1_c), (.slice p2_a p2_l p2_c)]) := IHolds.new _ _ _
  have ne_x_f := nJ Jx
  have ne_y_f := nJ Jy
  have ne_r_f := nJ Jr
  have ne_o_f := nJ Jo
  have ge_f : Hid (w.heap.size ≤ U2.heap.size) := B.out.size
  replace B := aB B hb
  replace Jx := aJ Jx hb
  replace Jy := aJ Jy hb
  replace Jr := aJ Jr hb
  replace Jo := aJ Jo hb
  replace Np1 := aN Np1 hb
  replace Np2 := aN Np2 hb
  clear hb
  obtain ⟨zy_0, zy_1⟩ := cJ Jy
  go_wp2_with fail
  clear zy_0 zy_1
  generalize (U2.alloc (.cells #[(.slice p1_a p1_l p1_c), (.slice p2_a p2_l p2_c)] 38)) = U3 at *
  generalize U2.heap.size = b4 at *
  refine (R2.out U3).mono ?_
  rintro e U5 ⟨⟨p3, p4, rfl, hv, hv'⟩, hb⟩
  have Np3 : Hid (NumV U5 1000000000 N2 p3) := hv
  have Np4 : Hid (NumV U5 1000000000 D2 p4) := hv'
  clear hv hv'
  replace B := aB B hb
  replace Jx := aJ Jx hb
  replace Jy := aJ Jy hb
  replace Jr := aJ Jr hb
  replace Jo := aJ Jo hb
  replace Jf := aJ Jf hb
  replace Np1 := aN Np1 hb
  replace Np2 := aN Np2 hb
  clear hb
  obtain ⟨p3_a, p3_l, p3_c, rfl⟩ := sN Np3
  obtain ⟨p4_a, p4_l, p4_c, rfl⟩ := sN Np4
  have hb := nB U5 (.cells #[(.slice p3_a p3_l p3_c), (.slice p4_a p4_l p4_c)] 38)
  have Jg : Hid (IHolds (U5.alloc (.cells #[(.slice p3_a p3_l p3_c), (.slice p4_a p4_l p4_c)] 38)) U5.heap.size 38 [(.slice p3_a p3_l p3_c), (.slice p4_a p4_l p4_c)]) := IHolds.new _ _ _
  have ne_x_g := nJ Jx
  have ne_y_g := nJ Jy
  have ne_r_g := nJ Jr
  have ne_o_g := nJ Jo
  have ne_f_g := nJ Jf
  have ge_g : Hid (w.heap.size ≤ U5.heap.size) := B.out.size
  replace B := aB B hb
  replace Jx := aJ Jx hb
  replace Jy := aJ Jy hb
  replace Jr := aJ Jr hb
  replace Jo := aJ Jo hb
  replace Jf := aJ Jf hb
  replace Np1 := aN Np1 hb
  replace Np2 := aN Np2 hb
  replace Np3 := aN Np3 hb
  replace Np4 := aN Np4 hb
  clear hb
  obtain ⟨zf_0, zf_1⟩ := cJ Jf
  go_wp2_with fail
  clear zf_0 zf_1
  generalize (U5.alloc (.cells #[(.slice p3_a p3_l p3_c), (.slice p4_a p4_l p4_c)] 38)) = U6 at *
  generalize U5.heap.size = b7 at *
  refine (HF.out U6 _ _ _ _ Np1.out Np2.out Np3.out Np4.out).mono ?_
  rintro e U8 ⟨rfl, hb⟩
  replace B := aB B hb
  replace Jx := aJ Jx hb
  replace Jy := aJ Jy hb
  replace Jr := aJ Jr hb
  replace Jo := aJ Jo hb
  replace Jf := aJ Jf hb
  replace Jg := aJ Jg hb
  replace Np1 := aN Np1 hb
  replace Np2 := aN Np2 hb
  replace Np3 := aN Np3 hb
  replace Np4 := aN Np4 hb
  clear hb
  obtain ⟨zr_0, zr_1⟩ := cJ Jr
  have f0 := fJ Jr
  have hBut : But (w.heap.size + 2) U8 ((U8.setCell ⟨w.heap.size + 2, 0, none⟩ (.string T1)).setCell ⟨w.heap.size + 2, 1, none⟩ (.string T2)) := (((But.refl _ U8).setCell 0 (.string T1)).setCell 1 (.string T2))
  have I4 : Hid (IHolds _ (w.heap.size + 2) 23 [(.string T1), (.string T2)]) := ((Jr.out.set 0 (.string T1)).set 1 (.string T2))
  replace B : Hid (Below w.heap.size w ((U8.setCell ⟨w.heap.size + 2, 0, none⟩ (.string T1)).setCell ⟨w.heap.size + 2, 1, none⟩ (.string T2))) := ((B.out.setCell (by first | exact Nat.le_refl _ | exact ge_r.out | (show w.heap.size ≤ w.heap.size + 2; omega)) _).setCell (by first | exact Nat.le_refl _ | exact ge_r.out | (show w.heap.size ≤ w.heap.size + 2; omega)) _)
  replace Jx := tJ Jx hBut (by first | omega | exact ne_x_r.out | exact fun h => ne_r_x.out h.symm)
  replace Jy := tJ Jy hBut (by first | omega | exact ne_y_r.out | exact fun h => ne_r_y.out h.symm)
  replace Jo := tJ Jo hBut (by first | omega | exact ne_o_r.out | exact fun h => ne_r_o.out h.symm)
  replace Jf := tJ Jf hBut (by first | omega | exact ne_f_r.out | exact fun h => ne_r_f.out h.symm)
  replace Jg := tJ Jg hBut (by first | omega | exact ne_g_r.out | exact fun h => ne_r_g.out h.symm)
  replace Np1 := tN Np1 Jr (by simp) hBut
  replace Np2 := tN Np2 Jr (by simp) hBut
  replace Np3 := tN Np3 Jr (by simp) hBut
  replace Np4 := tN Np4 Jr (by simp) hBut
  replace Jr := I4
  clear I4 hBut
  go_wp2_with fail
  clear zr_0 zr_1
  clear f0
  generalize ((U8.setCell ⟨w.heap.size + 2, 0, none⟩ (.string T1)).setCell ⟨w.heap.size + 2, 1, none⟩ (.string T2)) = U9 at *
  have E0 : Hid (U9.cell? ⟨w.heap.size + 2, 0, none⟩ = some ((.string T1))) := IHolds.cell (l := [(.string T1), (.string T2)]) (t := 23) (b := w.heap.size + 2) (w := U9) Jr.out 0 (by simp)
  have E1 : Hid (U9.cell? ⟨w.heap.size + 2, 1, none⟩ = some ((.string T2))) := IHolds.cell (l := [(.string T1), (.string T2)]) (t := 23) (b := w.heap.size + 2) (w := U9) Jr.out 1 (by simp)
  exact bodyPost_ret (v := .tuple #[.agg #[(.string T1), (.string T2)], .int .i64 c]) (by simp [results, Tryd.results13, go_sem, E0.out, E1.out]) rfl ⟨rfl, B.out⟩
set_option maxRecDepth 100000 in
set_option maxHeartbeats 2000000 in
theorem withTwo70_81 {n1 d1 n2 d2 : ByteArray} {N1 D1 N2 D2 : Nat} {w : World} (T1 T2 : ByteArray) (c : Int) (R1 : Hid (∀ W, Calls Tryd.prog 14 #[.agg #[.string n1, .string d1]] W fun e w' => (∃ u1 u2, e = .returned (.tuple #[.agg #[u1, u2], .int .i64 0]) ∧ NumV w' 1000000000 N1 u1 ∧ NumV w' 1000000000 D1 u2) ∧ Below W.heap.size W w')) (R2 : Hid (∀ W, Calls Tryd.prog 14 #[.agg #[.string n2, .string d2]] W fun e w' => (∃ u1 u2, e = .returned (.tuple #[.agg #[u1, u2], .int .i64 0]) ∧ NumV w' 1000000000 N2 u1 ∧ NumV w' 1000000000 D2 u2) ∧ Below W.heap.size W w'))
    (HF : Hid (∀ W p1 p2 p3 p4, NumV W 1000000000 N1 p1 → NumV W 1000000000 D1 p2 → NumV W 1000000000 N2 p3 → NumV W 1000000000 D2 p4 → Calls Tryd.prog 19 #[.agg #[p1, p2], .agg #[p3, p4]] W fun e w' => e = .returned (.tuple #[.agg #[.string T1, .string T2], .int .i64 c]) ∧ Below W.heap.size W w')) :
    Calls Tryd.prog 13 #[.func (.func 14) #[] #[], .agg #[.string n1, .string d1], .agg #[.string n2, .string d2], .func (.func 19) #[] #[]] w fun e w' => e = .returned (.tuple #[.agg #[.string T1, .string T2], .int .i64 c]) ∧ Below w.heap.size w w' := by
  go_enter Tryd.func13, Tryd.ntmps13
  go_wp2_with fail
  obtain ⟨U1, hU1⟩ : ∃ X, X = ((((w.alloc (.cells #[(.string n1), (.string d1)] 23)).alloc (.cells #[(.string n2), (.string d2)] 23)).alloc (.cells #[(.string ⟨#[]⟩), (.string ⟨#[]⟩)] 23)).alloc (.cells #[(.string ⟨#[]⟩), (.string ⟨#[]⟩)] 23)) := ⟨_, rfl⟩
  have Jx : Hid (IHolds U1 (w.heap.size) 23 [(.string n1), (.string d1)]) := by
    have q := IHolds.new w 23 [(.string n1), (.string d1)]
    show IHolds _ _ _ _
    rw [hU1]
    exact (((q.alloc _).alloc _).alloc _)
  have Jy : Hid (IHolds U1 (w.heap.size + 1) 23 [(.string n2), (.string d2)]) := by
    have q := IHolds.new (w.alloc (.cells #[(.string n1), (.string d1)] 23)) 23 [(.string n2), (.string d2)]
    simp only [World.size_alloc, Nat.add_assoc, Nat.reduceAdd] at q
    show IHolds _ _ _ _
    rw [hU1]
    exact ((q.alloc _).alloc _)
  have Jr : Hid (IHolds U1 (w.heap.size + 2) 23 [(.string ⟨#[]⟩), (.string ⟨#[]⟩)]) := by
    have q := IHolds.new ((w.alloc (.cells #[(.string n1), (.string d1)] 23)).alloc (.cells #[(.string n2), (.string d2)] 23)) 23 [(.string ⟨#[]⟩), (.string ⟨#[]⟩)]
    simp only [World.size_alloc, Nat.add_assoc, Nat.reduceAdd] at q
    show IHolds _ _ _ _
    rw [hU1]
    exact (q.alloc _)
  have Jo : Hid (IHolds U1 (w.heap.size + 3) 23 [(.string ⟨#[]⟩), (.string ⟨#[]⟩)]) := by
    have q := IHolds.new (((w.alloc (.cells #[(.string n1), (.string d1)] 23)).alloc (.cells #[(.string n2), (.string d2)] 23)).alloc (.cells #[(.string ⟨#[]⟩), (.string ⟨#[]⟩)] 23)) 23 [(.string ⟨#[]⟩), (.string ⟨#[]⟩)]
    simp only [World.size_alloc, Nat.add_assoc, Nat.reduceAdd] at q
    show IHolds _ _ _ _
    rw [hU1]
    exact q
  have B : Hid (Below w.heap.size w U1) := by
    show Below _ _ _
    rw [hU1]
    exact (((((Below.refl _ w).alloc (Nat.le_refl _) _).alloc (by simp only [World.size_alloc]; omega) _).alloc (by simp only [World.size_alloc]; omega) _).alloc (by simp only [World.size_alloc]; omega) _)
  rw [← hU1]
  clear hU1
  refine (R1.out U1).mono ?_
  rintro e U2 ⟨⟨p1, p2, rfl, hv, hv'⟩, hb⟩
  have Np1 : Hid (NumV U2 1000000000 N1 p1) := hv
  have Np2 : Hid (NumV U2 1000000000 D1 p2) := hv'
  clear hv hv'
  replace B := aB B hb
  replace Jx := aJ Jx hb
  replace Jy := aJ Jy hb
  replace Jr := aJ Jr hb
  replace Jo := aJ Jo hb
  clear hb
  obtain ⟨p1_a, p1_l, p1_c, rfl⟩ := sN Np1
  obtain ⟨p2_a, p2_l, p2_c, rfl⟩ := sN Np2
  have hb := nB U2 (.cells #[(.slice p1_a p1_l p1_c), (.slice p2_a p2_l p2_c)] 38)
  have Jf : Hid (IHolds (U2.alloc (.cells #[(.slice p1_a p1_l p1_c), (.slice p2_a p2_l p2_c)] 38)) U2.heap.size 38 [(.slice p1_a p1_l p1_c), (.slice p2_a p2_l p2_c)]) := IHolds.new _ _ _
  have ne_x_f := nJ Jx
  have ne_y_f := nJ Jy
  have ne_r_f := nJ Jr
  have ne_o_f := nJ Jo
  have ge_f : Hid (w.heap.size ≤ U2.heap.size) := B.out.size
  replace B := aB B hb
  replace Jx := aJ Jx hb
  replace Jy := aJ Jy hb
  replace Jr := aJ Jr hb
  replace Jo := aJ Jo hb
  replace Np1 := aN Np1 hb
  replace Np2 := aN Np2 hb
  clear hb
  obtain ⟨zy_0, zy_1⟩ := cJ Jy
  go_wp2_with fail
  clear zy_0 zy_1
  generalize (U2.alloc (.cells #[(.slice p1_a p1_l p1_c), (.slice p2_a p2_l p2_c)] 38)) = U3 at *
  generalize U2.heap.size = b4 at *
  refine (R2.out U3).mono ?_
  rintro e U5 ⟨⟨p3, p4, rfl, hv, hv'⟩, hb⟩
  have Np3 : Hid (NumV U5 1000000000 N2 p3) := hv
  have Np4 : Hid (NumV U5 1000000000 D2 p4) := hv'
  clear hv hv'
  replace B := aB B hb
  replace Jx := aJ Jx hb
  replace Jy := aJ Jy hb
  replace Jr := aJ Jr hb
  replace Jo := aJ Jo hb
  replace Jf := aJ Jf hb
  replace Np1 := aN Np1 hb
  replace Np2 := aN Np2 hb
  clear hb
  obtain ⟨p3_a, p3_l, p3_c, rfl⟩ := sN Np3
  obtain ⟨p4_a, p4_l, p4_c, rfl⟩ := sN Np4
  have hb := nB U5 (.cells #[(.slice p3_a p3_l p3_c), (.slice p4_a p4_l p4_c)] 38)
  have Jg : Hid (IHolds (U5.alloc (.cells #[(.slice p3_a p3_l p3_c), (.slice p4_a p4_l p4_c)] 38)) U5.heap.size 38 [(.slice p3_a p3_l p3_c), (.slice p4_a p4_l p4_c)]) := IHolds.new _ _ _
  have ne_x_g := nJ Jx
  have ne_y_g := nJ Jy
  have ne_r_g := nJ Jr
  have ne_o_g := nJ Jo
  have ne_f_g := nJ Jf
  have ge_g : Hid (w.heap.size ≤ U5.heap.size) := B.out.size
  replace B := aB B hb
  replace Jx := aJ Jx hb
  replace Jy := aJ Jy hb
  replace Jr := aJ Jr hb
  replace Jo := aJ Jo hb
  replace Jf := aJ Jf hb
  replace Np1 := aN Np1 hb
  replace Np2 := aN Np2 hb
  replace Np3 := aN Np3 hb
  replace Np4 := aN Np4 hb
  clear hb
  obtain ⟨zf_0, zf_1⟩ := cJ Jf
  go_wp2_with fail
  clear zf_0 zf_1
  generalize (U5.alloc (.cells #[(.slice p3_a p3_l p3_c), (.slice p4_a p4_l p4_c)] 38)) = U6 at *
  generalize U5.heap.size = b7 at *
  refine (HF.out U6 _ _ _ _ Np1.out Np2.out Np3.out Np4.out).mono ?_
  rintro e U8 ⟨rfl, hb⟩
  replace B := aB B hb
  replace Jx := aJ Jx hb
  replace Jy := aJ Jy hb
  replace Jr := aJ Jr hb
  replace Jo := aJ Jo hb
  replace Jf := aJ Jf hb
  replace Jg := aJ Jg hb
  replace Np1 := aN Np1 hb
  replace Np2 := aN Np2 hb
  replace Np3 := aN Np3 hb
  replace Np4 := aN Np4 hb
  clear hb
  obtain ⟨zr_0, zr_1⟩ := cJ Jr
  have f0 := fJ Jr
  have hBut : But (w.heap.size + 2) U8 ((U8.setCell ⟨w.heap.size + 2, 0, none⟩ (.string T1)).setCell ⟨w.heap.size + 2, 1, none⟩ (.string T2)) := (((But.refl _ U8).setCell 0 (.string T1)).setCell 1 (.string T2))
  have I4 : Hid (IHolds _ (w.heap.size + 2) 23 [(.string T1), (.string T2)]) := ((Jr.out.set 0 (.string T1)).set 1 (.string T2))
  replace B : Hid (Below w.heap.size w ((U8.setCell ⟨w.heap.size + 2, 0, none⟩ (.string T1)).setCell ⟨w.heap.size + 2, 1, none⟩ (.string T2))) := ((B.out.setCell (by first | exact Nat.le_refl _ | exact ge_r.out | (show w.heap.size ≤ w.heap.size + 2; omega)) _).setCell (by first | exact Nat.le_refl _ | exact ge_r.out | (show w.heap.size ≤ w.heap.size + 2; omega)) _)
  replace Jx := tJ Jx hBut (by first | omega | exact ne_x_r.out | exact fun h => ne_r_x.out h.symm)
  replace Jy := tJ Jy hBut (by first | omega | exact ne_y_r.out | exact fun h => ne_r_y.out h.symm)
  replace Jo := tJ Jo hBut (by first | omega | exact ne_o_r.out | exact fun h => ne_r_o.out h.symm)
  replace Jf := tJ Jf hBut (by first | omega | exact ne_f_r.out | exact fun h => ne_r_f.out h.symm)
  replace Jg := tJ Jg hBut (by first | omega | exact ne_g_r.out | exact fun h => ne_r_g.out h.symm)
  replace Np1 := tN Np1 Jr (by simp) hBut
  replace Np2 := tN Np2 Jr (by simp) hBut
  replace Np3 := tN Np3 Jr (by simp) hBut
  replace Np4 := tN Np4 Jr (by simp) hBut
  replace Jr := I4
  clear I4 hBut
  go_wp2_with fail
  clear zr_0 zr_1
  clear f0
  generalize ((U8.setCell ⟨w.heap.size + 2, 0, none⟩ (.string T1)).setCell ⟨w.heap.size + 2, 1, none⟩ (.string T2)) = U9 at *
  have E0 : Hid (U9.cell? ⟨w.heap.size + 2, 0, none⟩ = some ((.string T1))) := IHolds.cell (l := [(.string T1), (.string T2)]) (t := 23) (b := w.heap.size + 2) (w := U9) Jr.out 0 (by simp)
  have E1 : Hid (U9.cell? ⟨w.heap.size + 2, 1, none⟩ = some ((.string T2))) := IHolds.cell (l := [(.string T1), (.string T2)]) (t := 23) (b := w.heap.size + 2) (w := U9) Jr.out 1 (by simp)
  exact bodyPost_ret (v := .tuple #[.agg #[(.string T1), (.string T2)], .int .i64 c]) (by simp [results, Tryd.results13, go_sem, E0.out, E1.out]) rfl ⟨rfl, B.out⟩
set_option maxRecDepth 100000 in
set_option maxHeartbeats 2000000 in
theorem withTwo77_78 {n1 d1 n2 d2 : ByteArray} {N1 D1 N2 D2 : Nat} {w : World} (z : Int) (c : Int) (R1 : Hid (∀ W, Calls Tryd.prog 14 #[.agg #[.string n1, .string d1]] W fun e w' => (∃ u1 u2, e = .returned (.tuple #[.agg #[u1, u2], .int .i64 0]) ∧ NumV w' 1000000000 N1 u1 ∧ NumV w' 1000000000 D1 u2) ∧ Below W.heap.size W w')) (R2 : Hid (∀ W, Calls Tryd.prog 14 #[.agg #[.string n2, .string d2]] W fun e w' => (∃ u1 u2, e = .returned (.tuple #[.agg #[u1, u2], .int .i64 0]) ∧ NumV w' 1000000000 N2 u1 ∧ NumV w' 1000000000 D2 u2) ∧ Below W.heap.size W w'))
    (HF : Hid (∀ W p1 p2 p3 p4, NumV W 1000000000 N1 p1 → NumV W 1000000000 D1 p2 → NumV W 1000000000 N2 p3 → NumV W 1000000000 D2 p4 → Calls Tryd.prog 23 #[.agg #[p1, p2], .agg #[p3, p4]] W fun e w' => e = .returned (.tuple #[.int .i64 z, .int .i64 c]) ∧ Below W.heap.size W w')) :
    Calls Tryd.prog 22 #[.func (.func 14) #[] #[], .agg #[.string n1, .string d1], .agg #[.string n2, .string d2], .func (.func 23) #[] #[]] w fun e w' => e = .returned (.tuple #[.int .i64 z, .int .i64 c]) ∧ Below w.heap.size w w' := by
  go_enter Tryd.func22, Tryd.ntmps22
  go_wp2_with fail
  obtain ⟨U1, hU1⟩ : ∃ X, X = ((w.alloc (.cells #[(.string n1), (.string d1)] 23)).alloc (.cells #[(.string n2), (.string d2)] 23)) := ⟨_, rfl⟩
  have Jx : Hid (IHolds U1 (w.heap.size) 23 [(.string n1), (.string d1)]) := by
    have q := IHolds.new w 23 [(.string n1), (.string d1)]
    show IHolds _ _ _ _
    rw [hU1]
    exact (q.alloc _)
  have Jy : Hid (IHolds U1 (w.heap.size + 1) 23 [(.string n2), (.string d2)]) := by
    have q := IHolds.new (w.alloc (.cells #[(.string n1), (.string d1)] 23)) 23 [(.string n2), (.string d2)]
    simp only [World.size_alloc, Nat.add_assoc, Nat.reduceAdd] at q
    show IHolds _ _ _ _
    rw [hU1]
    exact q
  have B : Hid (Below w.heap.size w U1) := by
    show Below _ _ _
    rw [hU1]
    exact (((Below.refl _ w).alloc (Nat.le_refl _) _).alloc (by simp only [World.size_alloc]; omega) _)
  rw [← hU1]
  clear hU1
  refine (R1.out U1).mono ?_
  rintro e U2 ⟨⟨p1, p2, rfl, hv, hv'⟩, hb⟩
  have Np1 : Hid (NumV U2 1000000000 N1 p1) := hv
  have Np2 : Hid (NumV U2 1000000000 D1 p2) := hv'
  clear hv hv'
  replace B := aB B hb
  replace Jx := aJ Jx hb
  replace Jy := aJ Jy hb
  clear hb
  obtain ⟨p1_a, p1_l, p1_c, rfl⟩ := sN Np1
  obtain ⟨p2_a, p2_l, p2_c, rfl⟩ := sN Np2
  have hb := nB U2 (.cells #[(.slice p1_a p1_l p1_c), (.slice p2_a p2_l p2_c)] 38)
  have Jf : Hid (IHolds (U2.alloc (.cells #[(.slice p1_a p1_l p1_c), (.slice p2_a p2_l p2_c)] 38)) U2.heap.size 38 [(.slice p1_a p1_l p1_c), (.slice p2_a p2_l p2_c)]) := IHolds.new _ _ _
  have ne_x_f := nJ Jx
  have ne_y_f := nJ Jy
  have ge_f : Hid (w.heap.size ≤ U2.heap.size) := B.out.size
  replace B := aB B hb
  replace Jx := aJ Jx hb
  replace Jy := aJ Jy hb
  replace Np1 := aN Np1 hb
  replace Np2 := aN Np2 hb
  clear hb
  obtain ⟨zy_0, zy_1⟩ := cJ Jy
  go_wp2_with fail
  clear zy_0 zy_1
  generalize (U2.alloc (.cells #[(.slice p1_a p1_l p1_c), (.slice p2_a p2_l p2_c)] 38)) = U3 at *
  generalize U2.heap.size = b4 at *
  refine (R2.out U3).mono ?_
  rintro e U5 ⟨⟨p3, p4, rfl, hv, hv'⟩, hb⟩
  have Np3 : Hid (NumV U5 1000000000 N2 p3) := hv
  have Np4 : Hid (NumV U5 1000000000 D2 p4) := hv'
  clear hv hv'
  replace B := aB B hb
  replace Jx := aJ Jx hb
  replace Jy := aJ Jy hb
  replace Jf := aJ Jf hb
  replace Np1 := aN Np1 hb
  replace Np2 := aN Np2 hb
  clear hb
  obtain ⟨p3_a, p3_l, p3_c, rfl⟩ := sN Np3
  obtain ⟨p4_a, p4_l, p4_c, rfl⟩ := sN Np4
  have hb := nB U5 (.cells #[(.slice p3_a p3_l p3_c), (.slice p4_a p4_l p4_c)] 38)
  have Jg : Hid (IHolds (U5.alloc (.cells #[(.slice p3_a p3_l p3_c), (.slice p4_a p4_l p4_c)] 38)) U5.heap.size 38 [(.slice p3_a p3_l p3_c), (.slice p4_a p4_l p4_c)]) := IHolds.new _ _ _
  have ne_x_g := nJ Jx
  have ne_y_g := nJ Jy
  have ne_f_g := nJ Jf
  have ge_g : Hid (w.heap.size ≤ U5.heap.size) := B.out.size
  replace B := aB B hb
  replace Jx := aJ Jx hb
  replace Jy := aJ Jy hb
  replace Jf := aJ Jf hb
  replace Np1 := aN Np1 hb
  replace Np2 := aN Np2 hb
  replace Np3 := aN Np3 hb
  replace Np4 := aN Np4 hb
  clear hb
  obtain ⟨zf_0, zf_1⟩ := cJ Jf
  go_wp2_with fail
  clear zf_0 zf_1
  generalize (U5.alloc (.cells #[(.slice p3_a p3_l p3_c), (.slice p4_a p4_l p4_c)] 38)) = U6 at *
  generalize U5.heap.size = b7 at *
  refine (HF.out U6 _ _ _ _ Np1.out Np2.out Np3.out Np4.out).mono ?_
  rintro e U8 ⟨rfl, hb⟩
  replace B := aB B hb
  replace Jx := aJ Jx hb
  replace Jy := aJ Jy hb
  replace Jf := aJ Jf hb
  replace Jg := aJ Jg hb
  replace Np1 := aN Np1 hb
  replace Np2 := aN Np2 hb
  replace Np3 := aN Np3 hb
  replace Np4 := aN Np4 hb
  clear hb
  go_wp2_with fail
  go_ret2
  exact ⟨rfl, B.out⟩
set_option maxRecDepth 100000 in
set_option maxHeartbeats 2000000 in
theorem withTwo70_bad1 (F : Nat) {n1 d1 n2 d2 : ByteArray} {N1 D1 : Nat} {w : World} (x : Nat) (hx : ((x : Int) != 0) = true) (R1 : Hid (∀ W, Calls Tryd.prog 14 #[.agg #[.string n1, .string d1]] W fun e w' => e = .returned (.tuple #[.agg #[.slice none 0 0, .slice none 0 0], .int .i64 (x : Int)]) ∧ Below W.heap.size W w')) :
    Calls Tryd.prog 13 #[.func (.func 14) #[] #[], .agg #[.string n1, .string d1], .agg #[.string n2, .string d2], .func (.func F) #[] #[]] w fun e w' => e = .returned (.tuple #[.agg #[.string ⟨#[]⟩, .string ⟨#[]⟩], .int .i64 (x : Int)]) ∧ Below w.heap.size w w' := by
  go_enter Tryd.func13, Tryd.ntmps13
  go_wp2_with fail
  obtain ⟨U1, hU1⟩ : ∃ X, X = ((((w.alloc (.cells #[(.string n1), (.string d1)] 23)).alloc (.cells #[(.string n2), (.string d2)] 23)).alloc (.cells #[(.string ⟨#[]⟩), (.string ⟨#[]⟩)] 23)).alloc (.cells #[(.string ⟨#[]⟩), (.string ⟨#[]⟩)] 23)) := ⟨_, rfl⟩
  have Jx : Hid (IHolds U1 (w.heap.size) 23 [(.string n1), (.string d1)]) := by
    have q := IHolds.new w 23 [(.string n1), (.string d1)]
    show IHolds _ _ _ _
    rw [hU1]
    exact (((q.alloc _).alloc _).alloc _)
  have Jy : Hid (IHolds U1 (w.heap.size + 1) 23 [(.string n2), (.string d2)]) := by
    have q := IHolds.new (w.alloc (.cells #[(.string n1), (.string d1)] 23)) 23 [(.string n2), (.string d2)]
    simp only [World.size_alloc, Nat.add_assoc, Nat.reduceAdd] at q
    show IHolds _ _ _ _
    rw [hU1]
    exact ((q.alloc _).alloc _)
  have Jr : Hid (IHolds U1 (w.heap.size + 2) 23 [(.string ⟨#[]⟩), (.string ⟨#[]⟩)]) := by
    have q := IHolds.new ((w.alloc (.cells #[(.string n1), (.string d1)] 23)).alloc (.cells #[(.string n2), (.string d2)] 23)) 23 [(.string ⟨#[]⟩), (.string ⟨#[]⟩)]
    simp only [World.size_alloc, Nat.add_assoc, Nat.reduceAdd] at q
    show IHolds _ _ _ _
    rw [hU1]
    exact (q.alloc _)
  have Jo : Hid (IHolds U1 (w.heap.size + 3) 23 [(.string ⟨#[]⟩), (.string ⟨#[]⟩)]) := by
    have q := IHolds.new (((w.alloc (.cells #[(.string n1), (.string d1)] 23)).alloc (.cells #[(.string n2), (.string d2)] 23)).alloc (.cells #[(.string ⟨#[]⟩), (.string ⟨#[]⟩)] 23)) 23 [(.string ⟨#[]⟩), (.string ⟨#[]⟩)]
    simp only [World.size_alloc, Nat.add_assoc, Nat.reduceAdd] at q
    show IHolds _ _ _ _
    rw [hU1]
    exact q
  have B : Hid (Below w.heap.size w U1) := by
    show Below _ _ _
    rw [hU1]
    exact (((((Below.refl _ w).alloc (Nat.le_refl _) _).alloc (by simp only [World.size_alloc]; omega) _).alloc (by simp only [World.size_alloc]; omega) _).alloc (by simp only [World.size_alloc]; omega) _)
  rw [← hU1]
  clear hU1
  refine (R1.out U1).mono ?_
  rintro e U2 ⟨rfl, hb⟩
  replace B := aB B hb
  replace Jx := aJ Jx hb
  replace Jy := aJ Jy hb
  replace Jr := aJ Jr hb
  replace Jo := aJ Jo hb
  clear hb
  have hb : Below U2.heap.size U2 (U2.alloc (.cells #[(.slice none 0 0), (.slice none 0 0)] 38)) := (Below.refl _ U2).alloc (Nat.le_refl _) _
  replace B := aB B hb
  replace Jx := aJ Jx hb
  replace Jy := aJ Jy hb
  replace Jr := aJ Jr hb
  replace Jo := aJ Jo hb
  clear hb
  have Ko : Hid (IHolds (U2.alloc (.cells #[(.slice none 0 0), (.slice none 0 0)] 38)) (w.heap.size + 3) 23 [(.string ⟨#[]⟩), (.string ⟨#[]⟩)]) := Jo.out
  obtain ⟨zr_0, zr_1⟩ := cJ Jr
  have f0 := fJ Jr
  have hBut : But (w.heap.size + 2) (U2.alloc (.cells #[(.slice none 0 0), (.slice none 0 0)] 38)) (((U2.alloc (.cells #[(.slice none 0 0), (.slice none 0 0)] 38)).setCell ⟨w.heap.size + 2, 0, none⟩ (.string ⟨#[]⟩)).setCell ⟨w.heap.size + 2, 1, none⟩ (.string ⟨#[]⟩)) := (((But.refl _ (U2.alloc (.cells #[(.slice none 0 0), (.slice none 0 0)] 38))).setCell 0 (.string ⟨#[]⟩)).setCell 1 (.string ⟨#[]⟩))
  have I4 : Hid (IHolds _ (w.heap.size + 2) 23 [(.string ⟨#[]⟩), (.string ⟨#[]⟩)]) := ((Jr.out.set 0 (.string ⟨#[]⟩)).set 1 (.string ⟨#[]⟩))
  replace B : Hid (Below w.heap.size w (((U2.alloc (.cells #[(.slice none 0 0), (.slice none 0 0)] 38)).setCell ⟨w.heap.size + 2, 0, none⟩ (.string ⟨#[]⟩)).setCell ⟨w.heap.size + 2, 1, none⟩ (.string ⟨#[]⟩))) := ((B.out.setCell (by first | exact Nat.le_refl _ | exact ge_r.out | (show w.heap.size ≤ w.heap.size + 2; omega)) _).setCell (by first | exact Nat.le_refl _ | exact ge_r.out | (show w.heap.size ≤ w.heap.size + 2; omega)) _)
  replace Jx := tJ Jx hBut (by first | omega | exact ne_x_r.out | exact fun h => ne_r_x.out h.symm)
  replace Jy := tJ Jy hBut (by first | omega | exact ne_y_r.out | exact fun h => ne_r_y.out h.symm)
  replace Jo := tJ Jo hBut (by first | omega | exact ne_o_r.out | exact fun h => ne_r_o.out h.symm)
  replace Jr := I4
  clear I4 hBut
  obtain ⟨zo_0, zo_1⟩ := cJ Ko
  go_wp2_with fail
  clear zo_0 zo_1
  clear Ko
  clear zr_0 zr_1
  clear f0
  generalize (((U2.alloc (.cells #[(.slice none 0 0), (.slice none 0 0)] 38)).setCell ⟨w.heap.size + 2, 0, none⟩ (.string ⟨#[]⟩)).setCell ⟨w.heap.size + 2, 1, none⟩ (.string ⟨#[]⟩)) = U3 at *
  have E0 : Hid (U3.cell? ⟨w.heap.size + 2, 0, none⟩ = some ((.string ⟨#[]⟩))) := IHolds.cell (l := [(.string ⟨#[]⟩), (.string ⟨#[]⟩)]) (t := 23) (b := w.heap.size + 2) (w := U3) Jr.out 0 (by simp)
  have E1 : Hid (U3.cell? ⟨w.heap.size + 2, 1, none⟩ = some ((.string ⟨#[]⟩))) := IHolds.cell (l := [(.string ⟨#[]⟩), (.string ⟨#[]⟩)]) (t := 23) (b := w.heap.size + 2) (w := U3) Jr.out 1 (by simp)
  exact bodyPost_ret (v := .tuple #[.agg #[(.string ⟨#[]⟩), (.string ⟨#[]⟩)], .int .i64 (x : Int)]) (by simp [results, Tryd.results13, go_sem, E0.out, E1.out]) rfl ⟨rfl, B.out⟩
set_option maxRecDepth 100000 in
set_option maxHeartbeats 2000000 in
theorem withTwo70_bad2 (F : Nat) {n1 d1 n2 d2 : ByteArray} {N1 D1 : Nat} {w : World} (x : Nat) (hx : ((x : Int) != 0) = true) (R1 : Hid (∀ W, Calls Tryd.prog 14 #[.agg #[.string n1, .string d1]] W fun e w' => (∃ u1 u2, e = .returned (.tuple #[.agg #[u1, u2], .int .i64 0]) ∧ NumV w' 1000000000 N1 u1 ∧ NumV w' 1000000000 D1 u2) ∧ Below W.heap.size W w')) (R2 : Hid (∀ W, Calls Tryd.prog 14 #[.agg #[.string n2, .string d2]] W fun e w' => e = .returned (.tuple #[.agg #[.slice none 0 0, .slice none 0 0], .int .i64 (x : Int)]) ∧ Below W.heap.size W w')) :
    Calls Tryd.prog 13 #[.func (.func 14) #[] #[], .agg #[.string n1, .string d1], .agg #[.string n2, .string d2], .func (.func F) #[] #[]] w fun e w' => e = .returned (.tuple #[.agg #[.string ⟨#[]⟩, .string ⟨#[]⟩], .int .i64 (x : Int)]) ∧ Below w.heap.size w w' := by
  go_enter Tryd.func13, Tryd.ntmps13
  go_wp2_with fail
  obtain ⟨U1, hU1⟩ : ∃ X, X = ((((w.alloc (.cells #[(.string n1), (.string d1)] 23)).alloc (.cells #[(.string n2), (.string d2)] 23)).alloc (.cells #[(.string ⟨#[]⟩), (.string ⟨#[]⟩)] 23)).alloc (.cells #[(.string ⟨#[]⟩), (.string ⟨#[]⟩)] 23)) := ⟨_, rfl⟩
  have Jx : Hid (IHolds U1 (w.heap.size) 23 [(.string n1), (.string d1)]) := by
    have q := IHolds.new w 23 [(.string n1), (.string d1)]
    show IHolds _ _ _ _
    rw [hU1]
    exact (((q.alloc _).alloc _).alloc _)
  have Jy : Hid (IHolds U1 (w.heap.size + 1) 23 [(.string n2), (.string d2)]) := by
    have q := IHolds.new (w.alloc (.cells #[(.string n1), (.string d1)] 23)) 23 [(.string n2), (.string d2)]
    simp only [World.size_alloc, Nat.add_assoc, Nat.reduceAdd] at q
    show IHolds _ _ _ _
    rw [hU1]
    exact ((q.alloc _).alloc _)
  have Jr : Hid (IHolds U1 (w.heap.size + 2) 23 [(.string ⟨#[]⟩), (.string ⟨#[]⟩)]) := by
    have q := IHolds.new ((w.alloc (.cells #[(.string n1), (.string d1)] 23)).alloc (.cells #[(.string n2), (.string d2)] 23)) 23 [(.string ⟨#[]⟩), (.string ⟨#[]⟩)]
    simp only [World.size_alloc, Nat.add_assoc, Nat.reduceAdd] at q
    show IHolds _ _ _ _
    rw [hU1]
    exact (q.alloc _)
  have Jo : Hid (IHolds U1 (w.heap.size + 3) 23 [(.string ⟨#[]⟩), (.string ⟨#[]⟩)]) := by
    have q := IHolds.new (((w.alloc (.cells #[(.string n1), (.string d1)] 23)).alloc (.cells #[(.string n2), (.string d2)] 23)).alloc (.cells #[(.string ⟨#[]⟩), (.string ⟨#[]⟩)] 23)) 23 [(.string ⟨#[]⟩), (.string ⟨#[]⟩)]
    simp only [World.size_alloc, Nat.add_assoc, Nat.reduceAdd] at q
    show IHolds _ _ _ _
    rw [hU1]
    exact q
  have B : Hid (Below w.heap.size w U1) := by
    show Below _ _ _
    rw [hU1]
    exact (((((Below.refl _ w).alloc (Nat.le_refl _) _).alloc (by simp only [World.size_alloc]; omega) _).alloc (by simp only [World.size_alloc]; omega) _).alloc (by simp only [World.size_alloc]; omega) _)
  rw [← hU1]
  clear hU1
  refine (R1.out U1).mono ?_
  rintro e U2 ⟨⟨p1, p2, rfl, hv, hv'⟩, hb⟩
  have Np1 : Hid (NumV U2 1000000000 N1 p1) := hv
  have Np2 : Hid (NumV U2 1000000000 D1 p2) := hv'
  clear hv hv'
  replace B := aB B hb
  replace Jx := aJ Jx hb
  replace Jy := aJ Jy hb
  replace Jr := aJ Jr hb
  replace Jo := aJ Jo hb
  clear hb
  obtain ⟨p1_a, p1_l, p1_c, rfl⟩ := sN Np1
  obtain ⟨p2_a, p2_l, p2_c, rfl⟩ := sN Np2
  have hb := nB U2 (.cells #[(.slice p1_a p1_l p1_c), (.slice p2_a p2_l p2_c)] 38)
  have Jf : Hid (IHolds (U2.alloc (.cells #[(.slice p1_a p1_l p1_c), (.slice p2_a p2_l p2_c)] 38)) U2.heap.size 38 [(.slice p1_a p1_l p1_c), (.slice p2_a p2_l p2_c)]) := IHolds.new _ _ _
  have ne_x_f := nJ Jx
  have ne_y_f := nJ Jy
  have ne_r_f := nJ Jr
  have ne_o_f := nJ Jo
  have ge_f : Hid (w.heap.size ≤ U2.heap.size) := B.out.size
  replace B := aB B hb
  replace Jx := aJ Jx hb
  replace Jy := aJ Jy hb
  replace Jr := aJ Jr hb
  replace Jo := aJ Jo hb
  replace Np1 := aN Np1 hb
  replace Np2 := aN Np2 hb
  clear hb
  obtain ⟨zy_0, zy_1⟩ := cJ Jy
  go_wp2_with fail
  clear zy_0 zy_1
  generalize (U2.alloc (.cells #[(.slice p1_a p1_l p1_c), (.slice p2_a p2_l p2_c)] 38)) = U3 at *
  generalize U2.heap.size = b4 at *
  refine (R2.out U3).mono ?_
  rintro e U5 ⟨rfl, hb⟩
  replace B := aB B hb
  replace Jx := aJ Jx hb
  replace Jy := aJ Jy hb
  replace Jr := aJ Jr hb
  replace Jo := aJ Jo hb
  replace Jf := aJ Jf hb
  replace Np1 := aN Np1 hb
  replace Np2 := aN Np2 hb
  clear hb
  have hb : Below U5.heap.size U5 (U5.alloc (.cells #[(.slice none 0 0), (.slice none 0 0)] 38)) := (Below.refl _ U5).alloc (Nat.le_refl _) _
  replace B := aB B hb
  replace Jx := aJ Jx hb
  replace Jy := aJ Jy hb
  replace Jr := aJ Jr hb
  replace Jo := aJ Jo hb
  replace Jf := aJ Jf hb
  replace Np1 := aN Np1 hb
  replace Np2 := aN Np2 hb
  clear hb
  have Ko : Hid (IHolds (U5.alloc (.cells #[(.slice none 0 0), (.slice none 0 0)] 38)) (w.heap.size + 3) 23 [(.string ⟨#[]⟩), (.string ⟨#[]⟩)]) := Jo.out
  obtain ⟨zr_0, zr_1⟩ := cJ Jr
  have f0 := fJ Jr
  have hBut : But (w.heap.size + 2) (U5.alloc (.cells #[(.slice none 0 0), (.slice none 0 0)] 38)) (((U5.alloc (.cells #[(.slice none 0 0), (.slice none 0 0)] 38)).setCell ⟨w.heap.size + 2, 0, none⟩ (.string ⟨#[]⟩)).setCell ⟨w.heap.size + 2, 1, none⟩ (.string ⟨#[]⟩)) := (((But.refl _ (U5.alloc (.cells #[(.slice none 0 0), (.slice none 0 0)] 38))).setCell 0 (.string ⟨#[]⟩)).setCell 1 (.string ⟨#[]⟩))
  have I4 : Hid (IHolds _ (w.heap.size + 2) 23 [(.string ⟨#[]⟩), (.string ⟨#[]⟩)]) := ((Jr.out.set 0 (.string ⟨#[]⟩)).set 1 (.string ⟨#[]⟩))
  replace B : Hid (Below w.heap.size w (((U5.alloc (.cells #[(.slice none 0 0), (.slice none 0 0)] 38)).setCell ⟨w.heap.size + 2, 0, none⟩ (.string ⟨#[]⟩)).setCell ⟨w.heap.size + 2, 1, none⟩ (.string ⟨#[]⟩))) := ((B.out.setCell (by first | exact Nat.le_refl _ | exact ge_r.out | (show w.heap.size ≤ w.heap.size + 2; omega)) _).setCell (by first | exact Nat.le_refl _ | exact ge_r.out | (show w.heap.size ≤ w.heap.size + 2; omega)) _)
  replace Jx := tJ Jx hBut (by first | omega | exact ne_x_r.out | exact fun h => ne_r_x.out h.symm)
  replace Jy := tJ Jy hBut (by first | omega | exact ne_y_r.out | exact fun h => ne_r_y.out h.symm)
  replace Jo := tJ Jo hBut (by first | omega | exact ne_o_r.out | exact fun h => ne_r_o.out h.symm)
  replace Jf := tJ Jf hBut (by first | omega | exact ne_f_r.out | exact fun h => ne_r_f.out h.symm)
  replace Np1 := tN Np1 Jr (by simp) hBut
  replace Np2 := tN Np2 Jr (by simp) hBut
  replace Jr := I4
  clear I4 hBut
  obtain ⟨zo_0, zo_1⟩ := cJ Ko
  go_wp2_with fail
  clear zo_0 zo_1
  clear Ko
  clear zr_0 zr_1
  clear f0
  generalize (((U5.alloc (.cells #[(.slice none 0 0), (.slice none 0 0)] 38)).setCell ⟨w.heap.size + 2, 0, none⟩ (.string ⟨#[]⟩)).setCell ⟨w.heap.size + 2, 1, none⟩ (.string ⟨#[]⟩)) = U6 at *
  have E0 : Hid (U6.cell? ⟨w.heap.size + 2, 0, none⟩ = some ((.string ⟨#[]⟩))) := IHolds.cell (l := [(.string ⟨#[]⟩), (.string ⟨#[]⟩)]) (t := 23) (b := w.heap.size + 2) (w := U6) Jr.out 0 (by simp)
  have E1 : Hid (U6.cell? ⟨w.heap.size + 2, 1, none⟩ = some ((.string ⟨#[]⟩))) := IHolds.cell (l := [(.string ⟨#[]⟩), (.string ⟨#[]⟩)]) (t := 23) (b := w.heap.size + 2) (w := U6) Jr.out 1 (by simp)
  exact bodyPost_ret (v := .tuple #[.agg #[(.string ⟨#[]⟩), (.string ⟨#[]⟩)], .int .i64 (x : Int)]) (by simp [results, Tryd.results13, go_sem, E0.out, E1.out]) rfl ⟨rfl, B.out⟩
set_option maxRecDepth 100000 in
set_option maxHeartbeats 2000000 in
theorem withTwo77_bad1 (F : Nat) {n1 d1 n2 d2 : ByteArray} {N1 D1 : Nat} {w : World} (x : Nat) (hx : ((x : Int) != 0) = true) (R1 : Hid (∀ W, Calls Tryd.prog 14 #[.agg #[.string n1, .string d1]] W fun e w' => e = .returned (.tuple #[.agg #[.slice none 0 0, .slice none 0 0], .int .i64 (x : Int)]) ∧ Below W.heap.size W w')) :
    Calls Tryd.prog 22 #[.func (.func 14) #[] #[], .agg #[.string n1, .string d1], .agg #[.string n2, .string d2], .func (.func F) #[] #[]] w fun e w' => e = .returned (.tuple #[.int .i64 0, .int .i64 (x : Int)]) ∧ Below w.heap.size w w' := by
  go_enter Tryd.func22, Tryd.ntmps22
  go_wp2_with fail
  obtain ⟨U1, hU1⟩ : ∃ X, X = ((w.alloc (.cells #[(.string n1), (.string d1)] 23)).alloc (.cells #[(.string n2), (.string d2)] 23)) := ⟨_, rfl⟩
  have Jx : Hid (IHolds U1 (w.heap.size) 23 [(.string n1), (.string d1)]) := by
    have q := IHolds.new w 23 [(.string n1), (.string d1)]
    show IHolds _ _ _ _
    rw [hU1]
    exact (q.alloc _)
  have Jy : Hid (IHolds U1 (w.heap.size + 1) 23 [(.string n2), (.string d2)]) := by
    have q := IHolds.new (w.alloc (.cells #[(.string n1), (.string d1)] 23)) 23 [(.string n2), (.string d2)]
    simp only [World.size_alloc, Nat.add_assoc, Nat.reduceAdd] at q
    show IHolds _ _ _ _
    rw [hU1]
    exact q
  have B : Hid (Below w.heap.size w U1) := by
    show Below _ _ _
    rw [hU1]
    exact (((Below.refl _ w).alloc (Nat.le_refl _) _).alloc (by simp only [World.size_alloc]; omega) _)
  rw [← hU1]
  clear hU1
  refine (R1.out U1).mono ?_
  rintro e U2 ⟨rfl, hb⟩
  replace B := aB B hb
  replace Jx := aJ Jx hb
  replace Jy := aJ Jy hb
  clear hb
  have hb : Below U2.heap.size U2 (U2.alloc (.cells #[(.slice none 0 0), (.slice none 0 0)] 38)) := (Below.refl _ U2).alloc (Nat.le_refl _) _
  replace B := aB B hb
  replace Jx := aJ Jx hb
  replace Jy := aJ Jy hb
  clear hb
  go_wp2_with fail
  go_ret2
  exact ⟨rfl, B.out⟩
set_option maxRecDepth 100000 in
set_option maxHeartbeats 2000000 in
theorem withTwo77_bad2 (F : Nat) {n1 d1 n2 d2 : ByteArray} {N1 D1 : Nat} {w : World} (x : Nat) (hx : ((x : Int) != 0) = true) (R1 : Hid (∀ W, Calls Tryd.prog 14 #[.agg #[.string n1, .string d1]] W fun e w' => (∃ u1 u2, e = .returned (.tuple #[.agg #[u1, u2], .int .i64 0]) ∧ NumV w' 1000000000 N1 u1 ∧ NumV w' 1000000000 D1 u2) ∧ Below W.heap.size W w')) (R2 : Hid (∀ W, Calls Tryd.prog 14 #[.agg #[.string n2, .string d2]] W fun e w' => e = .returned (.tuple #[.agg #[.slice none 0 0, .slice none 0 0], .int .i64 (x : Int)]) ∧ Below W.heap.size W w')) :
    Calls Tryd.prog 22 #[.func (.func 14) #[] #[], .agg #[.string n1, .string d1], .agg #[.string n2, .string d2], .func (.func F) #[] #[]] w fun e w' => e = .returned (.tuple #[.int .i64 0, .int .i64 (x : Int)]) ∧ Below w.heap.size w w' := by
  go_enter Tryd.func22, Tryd.ntmps22
  go_wp2_with fail
  obtain ⟨U1, hU1⟩ : ∃ X, X = ((w.alloc (.cells #[(.string n1), (.string d1)] 23)).alloc (.cells #[(.string n2), (.string d2)] 23)) := ⟨_, rfl⟩
  have Jx : Hid (IHolds U1 (w.heap.size) 23 [(.string n1), (.string d1)]) := by
    have q := IHolds.new w 23 [(.string n1), (.string d1)]
    show IHolds _ _ _ _
    rw [hU1]
    exact (q.alloc _)
  have Jy : Hid (IHolds U1 (w.heap.size + 1) 23 [(.string n2), (.string d2)]) := by
    have q := IHolds.new (w.alloc (.cells #[(.string n1), (.string d1)] 23)) 23 [(.string n2), (.string d2)]
    simp only [World.size_alloc, Nat.add_assoc, Nat.reduceAdd] at q
    show IHolds _ _ _ _
    rw [hU1]
    exact q
  have B : Hid (Below w.heap.size w U1) := by
    show Below _ _ _
    rw [hU1]
    exact (((Below.refl _ w).alloc (Nat.le_refl _) _).alloc (by simp only [World.size_alloc]; omega) _)
  rw [← hU1]
  clear hU1
  refine (R1.out U1).mono ?_
  rintro e U2 ⟨⟨p1, p2, rfl, hv, hv'⟩, hb⟩
  have Np1 : Hid (NumV U2 1000000000 N1 p1) := hv
  have Np2 : Hid (NumV U2 1000000000 D1 p2) := hv'
  clear hv hv'
  replace B := aB B hb
  replace Jx := aJ Jx hb
  replace Jy := aJ Jy hb
  clear hb
  obtain ⟨p1_a, p1_l, p1_c, rfl⟩ := sN Np1
  obtain ⟨p2_a, p2_l, p2_c, rfl⟩ := sN Np2
  have hb := nB U2 (.cells #[(.slice p1_a p1_l p1_c), (.slice p2_a p2_l p2_c)] 38)
  have Jf : Hid (IHolds (U2.alloc (.cells #[(.slice p1_a p1_l p1_c), (.slice p2_a p2_l p2_c)] 38)) U2.heap.size 38 [(.slice p1_a p1_l p1_c), (.slice p2_a p2_l p2_c)]) := IHolds.new _ _ _
  have ne_x_f := nJ Jx
  have ne_y_f := nJ Jy
  have ge_f : Hid (w.heap.size ≤ U2.heap.size) := B.out.size
  replace B := aB B hb
  replace Jx := aJ Jx hb
  replace Jy := aJ Jy hb
  replace Np1 := aN Np1 hb
  replace Np2 := aN Np2 hb
  clear hb
  obtain ⟨zy_0, zy_1⟩ := cJ Jy
  go_wp2_with fail
  clear zy_0 zy_1
  generalize (U2.alloc (.cells #[(.slice p1_a p1_l p1_c), (.slice p2_a p2_l p2_c)] 38)) = U3 at *
  generalize U2.heap.size = b4 at *
  refine (R2.out U3).mono ?_
  rintro e U5 ⟨rfl, hb⟩
  replace B := aB B hb
  replace Jx := aJ Jx hb
  replace Jy := aJ Jy hb
  replace Jf := aJ Jf hb
  replace Np1 := aN Np1 hb
  replace Np2 := aN Np2 hb
  clear hb
  have hb : Below U5.heap.size U5 (U5.alloc (.cells #[(.slice none 0 0), (.slice none 0 0)] 38)) := (Below.refl _ U5).alloc (Nat.le_refl _) _
  replace B := aB B hb
  replace Jx := aJ Jx hb
  replace Jy := aJ Jy hb
  replace Jf := aJ Jf hb
  replace Np1 := aN Np1 hb
  replace Np2 := aN Np2 hb
  clear hb
  go_wp2_with fail
  go_ret2
  exact ⟨rfl, B.out⟩
end Go.Proofs.YtnahindcgedbaabDoor
