/- The walk of NatFracs. -/
import Derived.Test.YtnahindcgedbaaaDoorFracsWalkA
import Derived.Test.YtnahindcgedbaaaDoorTold
import Derived.Test.YtnahindcgedbaaaDoorRefWhole
import Derived.Test.YtnahindcgedbaaaDoorRefPlus
set_option linter.unusedSimpArgs false
set_option linter.unusedVariables false
namespace Go.Proofs.YtnahindcgedbaaaDoor
open Go.RowKit Go.Deep Go.PlainAid


set_option maxRecDepth 100000 in
set_option maxHeartbeats 8000000 in
theorem fracs_ok_low_ok {n1 d1 n2 d2 : ByteArray} {w : World} {A B1 U V NP DP NQ DQ NM DM NO DO : Nat} {P1 P2 Q1 Q2 M1 M2 O1 O2 : ByteArray} {z : Int}
    (F25a : Hid (∀ W, Calls Tryd.prog 25 #[.string n1, .string d1] W fun e w' => e = .returned (.int .i64 0) ∧ Below W.heap.size W w'))
    (F25b : Hid (∀ W, Calls Tryd.prog 25 #[.string n2, .string d2] W fun e w' => e = .returned (.int .i64 0) ∧ Below W.heap.size W w'))
    (F26 : Hid (∀ W, Calls Tryd.prog 26 #[.int .i64 1] W fun e w' => (∃ u1 u2, e = .returned (.agg #[u1, u2]) ∧ NumV w' 10 1 u1 ∧ NumV w' 10 1 u2) ∧ Below W.heap.size W w'))
    (F27a : Hid (∀ W, Calls Tryd.prog 27 #[.agg #[.string n1, .string d1]] W fun e w' => (∃ u1 u2, e = .returned (.agg #[u1, u2]) ∧ NumV w' 10 A u1 ∧ NumV w' 10 B1 u2) ∧ Below W.heap.size W w'))
    (F27b : Hid (∀ W, Calls Tryd.prog 27 #[.agg #[.string n2, .string d2]] W fun e w' => (∃ u1 u2, e = .returned (.agg #[u1, u2]) ∧ NumV w' 10 U u1 ∧ NumV w' 10 V u2) ∧ Below W.heap.size W w'))
    (F28 : Hid (∀ W, Calls Tryd.prog 28 #[.agg #[.string n1, .string d1], .agg #[.string n2, .string d2]] W fun e w' => e = .returned (.tuple #[.agg #[(.string P1), (.string P2)], .int .i64 0]) ∧ Below W.heap.size W w'))
    (F31 : Hid (∀ W, Calls Tryd.prog 31 #[.agg #[.string n1, .string d1], .agg #[.string n2, .string d2]] W fun e w' => e = .returned (.tuple #[.agg #[(.string Q1), (.string Q2)], .int .i64 0]) ∧ Below W.heap.size W w'))
    (F35 : Hid (∀ W, Calls Tryd.prog 35 #[.agg #[.string n1, .string d1], .agg #[.string n2, .string d2]] W fun e w' => e = .returned (.tuple #[.agg #[(.string ⟨#[]⟩), (.string ⟨#[]⟩)], .int .i64 4]) ∧ Below W.heap.size W w'))
    (F37 : Hid (∀ W, Calls Tryd.prog 37 #[.agg #[.string n1, .string d1], .agg #[.string n2, .string d2]] W fun e w' => e = .returned (.tuple #[.agg #[(.string O1), (.string O2)], .int .i64 0]) ∧ Below W.heap.size W w'))
    (F33 : Hid (∀ W, Calls Tryd.prog 33 #[.agg #[.string n1, .string d1], .agg #[.string n2, .string d2]] W fun e w' => e = .returned (.tuple #[.int .i64 z, .int .i64 0]) ∧ Below W.heap.size W w'))
    (G30 : Hid (∀ W p1 p2 p3 p4, NumV W 10 A p1 → NumV W 10 B1 p2 → NumV W 10 U p3 → NumV W 10 V p4 → Calls Tryd.prog 30 #[.agg #[p1, p2], .agg #[p3, p4]] W fun e w' => (∃ u1 u2, e = .returned (.agg #[u1, u2]) ∧ NumV w' 10 NP u1 ∧ NumV w' 10 DP u2) ∧ Below W.heap.size W w'))
    (G32 : Hid (∀ W p1 p2 p3 p4, NumV W 10 A p1 → NumV W 10 B1 p2 → NumV W 10 U p3 → NumV W 10 V p4 → Calls Tryd.prog 32 #[.agg #[p1, p2], .agg #[p3, p4]] W fun e w' => (∃ u1 u2, e = .returned (.agg #[u1, u2]) ∧ NumV w' 10 NQ u1 ∧ NumV w' 10 DQ u2) ∧ Below W.heap.size W w'))
    (G38 : Hid (∀ W p1 p2 p3 p4, NumV W 10 A p1 → NumV W 10 B1 p2 → NumV W 10 U p3 → NumV W 10 V p4 → Calls Tryd.prog 38 #[.agg #[p1, p2], .agg #[p3, p4]] W fun e w' => (∃ u1 u2, e = .returned (.agg #[u1, u2]) ∧ NumV w' 10 NO u1 ∧ NumV w' 10 DO u2) ∧ Below W.heap.size W w'))
    (G34 : Hid (∀ W p1 p2 p3 p4, NumV W 10 A p1 → NumV W 10 B1 p2 → NumV W 10 U p3 → NumV W 10 V p4 → Calls Tryd.prog 34 #[.agg #[p1, p2], .agg #[p3, p4]] W fun e w' => e = .returned (.int .i64 z) ∧ Below W.heap.size W w'))
    (hz : z < 0)
    (TP : Hid (∀ W p1 p2, NumV W 10 NP p1 → NumV W 10 DP p2 → Calls Tryd.prog 29 #[.agg #[.string P1, .string P2], .int .i64 0, .int .i64 0, .agg #[p1, p2]] W fun e w' => e = .returned (.bool true) ∧ Below W.heap.size W w'))
    (TQ : Hid (∀ W p1 p2, NumV W 10 NQ p1 → NumV W 10 DQ p2 → Calls Tryd.prog 29 #[.agg #[.string Q1, .string Q2], .int .i64 0, .int .i64 0, .agg #[p1, p2]] W fun e w' => e = .returned (.bool true) ∧ Below W.heap.size W w'))
    (TO : Hid (∀ W p1 p2, NumV W 10 NO p1 → NumV W 10 DO p2 → Calls Tryd.prog 29 #[.agg #[.string O1, .string O2], .int .i64 0, .int .i64 0, .agg #[p1, p2]] W fun e w' => e = .returned (.bool true) ∧ Below W.heap.size W w'))
    (TZ : ∀ (y : Int), (y != 0) = true → ∀ W p1 p2, Calls Tryd.prog 29 #[.agg #[.string ⟨#[]⟩, .string ⟨#[]⟩], .int .i64 y, .int .i64 y, .agg #[p1, p2]] W fun e w' => e = .returned (.bool true) ∧ Below W.heap.size W w')
    (hu : U ≠ 0) :
    Calls Tryd.prog 5 #[.agg #[.string n1, .string d1], .agg #[.string n2, .string d2]] w fun e w' => e = .returned (.bool true) ∧ Below w.heap.size w w' := by
  have T4 : Hid (∀ W p1 p2, Calls Tryd.prog 29 #[.agg #[.string ⟨#[]⟩, .string ⟨#[]⟩], .int .i64 4, .int .i64 4, .agg #[p1, p2]] W fun e w' => e = .returned (.bool true) ∧ Below W.heap.size W w') := fun W p1 p2 => TZ 4 rfl W p1 p2
  clear TZ
  have hU0 : Hid (((dg 10 U).length : Int) ≠ 0) := by
    have := dg_len_pos10 hu
    show ¬ _
    omega
  clear hu
  go_enter Tryd.func5, Tryd.ntmps5
  go_wp2_with fail
  obtain ⟨U1, hU1⟩ : ∃ X, X = ((w.alloc (.cells #[(.string n1), (.string d1)] 41)).alloc (.cells #[(.string n2), (.string d2)] 41)) := ⟨_, rfl⟩
  have Jx : Hid (IHolds U1 (w.heap.size) 41 [(.string n1), (.string d1)]) := by
    have q := IHolds.new w 41 [(.string n1), (.string d1)]
    show IHolds _ _ _ _
    rw [hU1]
    exact (q.alloc _)
  have Jy : Hid (IHolds U1 (w.heap.size + 1) 41 [(.string n2), (.string d2)]) := by
    have q := IHolds.new (w.alloc (.cells #[(.string n1), (.string d1)] 41)) 41 [(.string n2), (.string d2)]
    simp only [World.size_alloc, Nat.add_assoc, Nat.reduceAdd] at q
    show IHolds _ _ _ _
    rw [hU1]
    exact q
  have B : Hid (Below w.heap.size w U1) := by
    show Below _ _ _
    rw [hU1]
    exact (((Below.refl _ w).alloc (Nat.le_refl _) _).alloc (by simp only [World.size_alloc]; omega) _)
  rw [← hU1]
  clear hU1
  refine (F25a.out U1).mono ?_
  rintro e U2 ⟨rfl, hb⟩
  replace B := aB B hb
  replace Jx := aJ Jx hb
  replace Jy := aJ Jy hb
  clear hb
  obtain ⟨zy_0, zy_1⟩ := cJ Jy
  go_wp2_with fail
  clear zy_0 zy_1
  refine (F25b.out U2).mono ?_
  rintro e U3 ⟨rfl, hb⟩
  replace B := aB B hb
  replace Jx := aJ Jx hb
  replace Jy := aJ Jy hb
  clear hb
  go_wp2_with fail
  refine (F26.out U3).mono ?_
  rintro e U4 ⟨⟨q1, q2, rfl, hv, hv'⟩, hb⟩
  have Nq1 : Hid (NumV U4 10 (1) q1) := hv
  have Nq2 : Hid (NumV U4 10 (1) q2) := hv'
  clear hv hv'
  replace B := aB B hb
  replace Jx := aJ Jx hb
  replace Jy := aJ Jy hb
  clear hb
  go_wp2_with fail
  refine (F26.out U4).mono ?_
  rintro e U5 ⟨⟨q3, q4, rfl, hv, hv'⟩, hb⟩
  have Nq3 : Hid (NumV U5 10 (1) q3) := hv
  have Nq4 : Hid (NumV U5 10 (1) q4) := hv'
  clear hv hv'
  replace B := aB B hb
  replace Jx := aJ Jx hb
  replace Jy := aJ Jy hb
  replace Nq1 := aN Nq1 hb
  replace Nq2 := aN Nq2 hb
  clear hb
  obtain ⟨q1_a, q1_l, q1_c, rfl⟩ := sN Nq1
  obtain ⟨q2_a, q2_l, q2_c, rfl⟩ := sN Nq2
  obtain ⟨q3_a, q3_l, q3_c, rfl⟩ := sN Nq3
  obtain ⟨q4_a, q4_l, q4_c, rfl⟩ := sN Nq4
  have hb : Below U5.heap.size U5 ((U5.alloc (.cells #[(.slice q1_a q1_l q1_c), (.slice q2_a q2_l q2_c)] 43)).alloc (.cells #[(.slice q3_a q3_l q3_c), (.slice q4_a q4_l q4_c)] 43)) := ((Below.refl _ U5).alloc (Nat.le_refl _) _).alloc (by simp) _
  have Ja : Hid (IHolds ((U5.alloc (.cells #[(.slice q1_a q1_l q1_c), (.slice q2_a q2_l q2_c)] 43)).alloc (.cells #[(.slice q3_a q3_l q3_c), (.slice q4_a q4_l q4_c)] 43)) U5.heap.size 43 [(.slice q1_a q1_l q1_c), (.slice q2_a q2_l q2_c)]) := (IHolds.new _ _ _).alloc _
  have Jb : Hid (IHolds ((U5.alloc (.cells #[(.slice q1_a q1_l q1_c), (.slice q2_a q2_l q2_c)] 43)).alloc (.cells #[(.slice q3_a q3_l q3_c), (.slice q4_a q4_l q4_c)] 43)) (U5.heap.size + 1) 43 [(.slice q3_a q3_l q3_c), (.slice q4_a q4_l q4_c)]) := by
    have q := IHolds.new (U5.alloc (.cells #[(.slice q1_a q1_l q1_c), (.slice q2_a q2_l q2_c)] 43)) 43 [(.slice q3_a q3_l q3_c), (.slice q4_a q4_l q4_c)]
    rw [World.size_alloc] at q
    exact q
  have ne_x_a : Hid ((w.heap.size) ≠ U5.heap.size) := by have := Jx.out.lt; show _ ≠ _; omega
  have ne_x_b : Hid ((w.heap.size) ≠ U5.heap.size + 1) := by have := Jx.out.lt; show _ ≠ _; omega
  have ne_y_a : Hid ((w.heap.size + 1) ≠ U5.heap.size) := by have := Jy.out.lt; show _ ≠ _; omega
  have ne_y_b : Hid ((w.heap.size + 1) ≠ U5.heap.size + 1) := by have := Jy.out.lt; show _ ≠ _; omega
  have ge_a : Hid (w.heap.size ≤ U5.heap.size) := B.out.size
  have ge_b : Hid (w.heap.size ≤ U5.heap.size + 1) := Nat.le_succ_of_le B.out.size
  replace B := aB B hb
  replace Jx := aJ Jx hb
  replace Jy := aJ Jy hb
  replace Nq1 := aN Nq1 hb
  replace Nq2 := aN Nq2 hb
  replace Nq3 := aN Nq3 hb
  replace Nq4 := aN Nq4 hb
  clear hb
  obtain ⟨zx_0, zx_1⟩ := cJ Jx
  obtain ⟨zy_0, zy_1⟩ := cJ Jy
  go_wp2_with fail
  clear zx_0 zx_1 zy_0 zy_1
  generalize ((U5.alloc (.cells #[(.slice q1_a q1_l q1_c), (.slice q2_a q2_l q2_c)] 43)).alloc (.cells #[(.slice q3_a q3_l q3_c), (.slice q4_a q4_l q4_c)] 43)) = U6 at *
  generalize U5.heap.size = b7 at *
  clear Nq1
  clear Nq2
  clear Nq3
  clear Nq4
  have hb := dB U6
  replace B := aB B hb
  replace Jx := aJ Jx hb
  replace Jy := aJ Jy hb
  replace Ja := aJ Ja hb
  replace Jb := aJ Jb hb
  clear hb
  refine wp_region_held_drew (S := fun W => (IHolds W (w.heap.size) 41 [(.string n1), (.string d1)]) ∧ (IHolds W (w.heap.size + 1) 41 [(.string n2), (.string d2)])) (by kernel_rfl) ⟨Jx.out, Jy.out⟩ (fun hHeld1 => ?_)
  generalize U6.drew = U8 at *
  refine tk (i := 0) (v := .agg #[(.string n1), (.string d1)]) rfl (by kernel_rfl) (fun _ _ _ h => h) rfl ?_ hHeld1 ?_
  · intro W hS; obtain ⟨zx_0, zx_1⟩ := c2 hS.1; go_simp
  simp only [Act.put, y1, y2, y3, y4, y5, y6, y7]
  refine tk (i := 2) (v := .agg #[(.string n2), (.string d2)]) rfl (by kernel_rfl) (fun _ _ _ h => h) rfl ?_ hHeld1 ?_
  · intro W hS; obtain ⟨zy_0, zy_1⟩ := c2 hS.2; go_simp
  simp only [Act.put, y1, y2, y3, y4, y5, y6, y7]
  refine wpAnyH_ready (rs := [1]) (by kernel_rfl) (by simp) ?_
  refine AllReadyH.cons rfl (fun K hK => ?_) AllReadyH.nil
  clear hHeld1
  go_simp
  refine (F27a.out U8).mono ?_
  rintro e U9 ⟨⟨a1, a2, rfl, hv, hv'⟩, hb⟩
  have Na1 : Hid (NumV U9 10 (A) a1) := hv
  have Na2 : Hid (NumV U9 10 (B1) a2) := hv'
  clear hv hv'
  replace B := aB B hb
  replace Jx := aJ Jx hb
  replace Jy := aJ Jy hb
  replace Ja := aJ Ja hb
  replace Jb := aJ Jb hb
  clear hb
  go_wp2_with fail
  refine hK.out _ _ (⟨Jx.out, Jy.out⟩) (fun hHeld2 => ?_)
  clear hK K
  try simp only [Act.put, y1, y2, y3, y4, y5, y6, y7]
  refine wpAnyH_ready (rs := [3]) (by kernel_rfl) (by simp) ?_
  refine AllReadyH.cons rfl (fun K hK => ?_) AllReadyH.nil
  clear hHeld2
  go_simp
  refine (F27b.out U9).mono ?_
  rintro e U10 ⟨⟨g1, g2, rfl, hv, hv'⟩, hb⟩
  have Ng1 : Hid (NumV U10 10 (U) g1) := hv
  have Ng2 : Hid (NumV U10 10 (V) g2) := hv'
  clear hv hv'
  replace B := aB B hb
  replace Jx := aJ Jx hb
  replace Jy := aJ Jy hb
  replace Ja := aJ Ja hb
  replace Jb := aJ Jb hb
  replace Na1 := aN Na1 hb
  replace Na2 := aN Na2 hb
  clear hb
  go_wp2_with fail
  refine hK.out _ _ (⟨Jx.out, Jy.out⟩) (fun hHeld3 => ?_)
  clear hK K
  try simp only [Act.put, y1, y2, y3, y4, y5, y6, y7]
  refine wpAnyH_ready (rs := [4]) (by kernel_rfl) (by simp) ?_
  refine AllReadyH.cons rfl (fun K hK => ?_) AllReadyH.nil
  clear hHeld3
  obtain ⟨a1_a, a1_l, a1_c, rfl⟩ := sN Na1
  obtain ⟨a2_a, a2_l, a2_c, rfl⟩ := sN Na2
  obtain ⟨za_0, za_1⟩ := cJ Ja
  have f0 := fJ Ja
  have hBut : But (b7) U10 ((U10.setCell ⟨b7, 0, none⟩ (.slice a1_a a1_l a1_c)).setCell ⟨b7, 1, none⟩ (.slice a2_a a2_l a2_c)) := (((But.refl _ U10).setCell 0 (.slice a1_a a1_l a1_c)).setCell 1 (.slice a2_a a2_l a2_c))
  have I4 : Hid (IHolds _ (b7) 43 [(.slice a1_a a1_l a1_c), (.slice a2_a a2_l a2_c)]) := ((Ja.out.set 0 (.slice a1_a a1_l a1_c)).set 1 (.slice a2_a a2_l a2_c))
  replace B : Hid (Below w.heap.size w ((U10.setCell ⟨b7, 0, none⟩ (.slice a1_a a1_l a1_c)).setCell ⟨b7, 1, none⟩ (.slice a2_a a2_l a2_c))) := ((B.out.setCell (by first | exact Nat.le_refl _ | exact ge_a.out | (show w.heap.size ≤ b7; omega)) _).setCell (by first | exact Nat.le_refl _ | exact ge_a.out | (show w.heap.size ≤ b7; omega)) _)
  replace Jx := tJ Jx hBut (by first | omega | exact ne_x_a.out | exact fun h => ne_a_x.out h.symm)
  replace Jy := tJ Jy hBut (by first | omega | exact ne_y_a.out | exact fun h => ne_a_y.out h.symm)
  replace Jb := tJ Jb hBut (by first | omega | exact ne_b_a.out | exact fun h => ne_a_b.out h.symm)
  replace Na1 := tN Na1 Ja (by simp) hBut
  replace Na2 := tN Na2 Ja (by simp) hBut
  replace Ng1 := tN Ng1 Ja (by simp) hBut
  replace Ng2 := tN Ng2 Ja (by simp) hBut
  replace Ja := I4
  clear I4 hBut
  go_simp
  try go_wp2_with fail
  clear za_0 za_1
  clear f0
  generalize ((U10.setCell ⟨b7, 0, none⟩ (.slice a1_a a1_l a1_c)).setCell ⟨b7, 1, none⟩ (.slice a2_a a2_l a2_c)) = U11 at *
  refine hK.out _ _ (⟨Jx.out, Jy.out⟩) (fun hHeld4 => ?_)
  clear hK K
  try simp only [Act.put, y1, y2, y3, y4, y5, y6, y7]
  refine wpAnyH_ready (rs := [5]) (by kernel_rfl) (by simp) ?_
  refine AllReadyH.cons rfl (fun K hK => ?_) AllReadyH.nil
  clear hHeld4
  obtain ⟨g1_a, g1_l, g1_c, rfl⟩ := sN Ng1
  obtain ⟨g2_a, g2_l, g2_c, rfl⟩ := sN Ng2
  obtain ⟨zb_0, zb_1⟩ := cJ Jb
  have f0 := fJ Jb
  have hBut : But (b7 + 1) U11 ((U11.setCell ⟨b7 + 1, 0, none⟩ (.slice g1_a g1_l g1_c)).setCell ⟨b7 + 1, 1, none⟩ (.slice g2_a g2_l g2_c)) := (((But.refl _ U11).setCell 0 (.slice g1_a g1_l g1_c)).setCell 1 (.slice g2_a g2_l g2_c))
  have I4 : Hid (IHolds _ (b7 + 1) 43 [(.slice g1_a g1_l g1_c), (.slice g2_a g2_l g2_c)]) := ((Jb.out.set 0 (.slice g1_a g1_l g1_c)).set 1 (.slice g2_a g2_l g2_c))
  replace B : Hid (Below w.heap.size w ((U11.setCell ⟨b7 + 1, 0, none⟩ (.slice g1_a g1_l g1_c)).setCell ⟨b7 + 1, 1, none⟩ (.slice g2_a g2_l g2_c))) := ((B.out.setCell (by first | exact Nat.le_refl _ | exact ge_b.out | (show w.heap.size ≤ b7 + 1; omega)) _).setCell (by first | exact Nat.le_refl _ | exact ge_b.out | (show w.heap.size ≤ b7 + 1; omega)) _)
  replace Jx := tJ Jx hBut (by first | omega | exact ne_x_b.out | exact fun h => ne_b_x.out h.symm)
  replace Jy := tJ Jy hBut (by first | omega | exact ne_y_b.out | exact fun h => ne_b_y.out h.symm)
  replace Ja := tJ Ja hBut (by first | omega | exact ne_a_b.out | exact fun h => ne_b_a.out h.symm)
  replace Na1 := tN Na1 Jb (by simp) hBut
  replace Na2 := tN Na2 Jb (by simp) hBut
  replace Ng1 := tN Ng1 Jb (by simp) hBut
  replace Ng2 := tN Ng2 Jb (by simp) hBut
  replace Jb := I4
  clear I4 hBut
  go_simp
  try go_wp2_with fail
  clear zb_0 zb_1
  clear f0
  generalize ((U11.setCell ⟨b7 + 1, 0, none⟩ (.slice g1_a g1_l g1_c)).setCell ⟨b7 + 1, 1, none⟩ (.slice g2_a g2_l g2_c)) = U12 at *
  refine hK.out _ _ (⟨Jx.out, Jy.out⟩) (fun hHeld5 => ?_)
  clear hK K
  try simp only [Act.put, y1, y2, y3, y4, y5, y6, y7]
  refine wpAnyH_done (by kernel_rfl) ?_ _
  clear hHeld5
  obtain ⟨zx_0, zx_1⟩ := cJ Jx
  obtain ⟨zy_0, zy_1⟩ := cJ Jy
  go_wp2_with fail
  clear zx_0 zx_1 zy_0 zy_1
  refine (F28.out U12).mono ?_
  rintro e U13 ⟨rfl, hb⟩
  replace B := aB B hb
  replace Jx := aJ Jx hb
  replace Jy := aJ Jy hb
  replace Ja := aJ Ja hb
  replace Jb := aJ Jb hb
  replace Na1 := aN Na1 hb
  replace Na2 := aN Na2 hb
  replace Ng1 := aN Ng1 hb
  replace Ng2 := aN Ng2 hb
  clear hb
  have hb := nB U13 (.cells #[(.string P1), (.string P2)] 41)
  have Js : Hid (IHolds (U13.alloc (.cells #[(.string P1), (.string P2)] 41)) U13.heap.size 41 [(.string P1), (.string P2)]) := IHolds.new _ _ _
  have ne_x_s := nJ Jx
  have ne_y_s := nJ Jy
  have ne_a_s := nJ Ja
  have ne_b_s := nJ Jb
  have ge_s : Hid (w.heap.size ≤ U13.heap.size) := B.out.size
  replace B := aB B hb
  replace Jx := aJ Jx hb
  replace Jy := aJ Jy hb
  replace Ja := aJ Ja hb
  replace Jb := aJ Jb hb
  replace Na1 := aN Na1 hb
  replace Na2 := aN Na2 hb
  replace Ng1 := aN Ng1 hb
  replace Ng2 := aN Ng2 hb
  clear hb
  go_wp2_with fail
  generalize (U13.alloc (.cells #[(.string P1), (.string P2)] 41)) = U14 at *
  generalize U13.heap.size = b15 at *
  have hb := dB U14
  replace B := aB B hb
  replace Jx := aJ Jx hb
  replace Jy := aJ Jy hb
  replace Ja := aJ Ja hb
  replace Jb := aJ Jb hb
  replace Js := aJ Js hb
  replace Na1 := aN Na1 hb
  replace Na2 := aN Na2 hb
  replace Ng1 := aN Ng1 hb
  replace Ng2 := aN Ng2 hb
  clear hb
  refine wp_region_held_drew (S := fun W => (IHolds W (b15) 41 [(.string P1), (.string P2)]) ∧ (IHolds W (b7) 43 [(.slice a1_a a1_l a1_c), (.slice a2_a a2_l a2_c)]) ∧ (IHolds W (b7 + 1) 43 [(.slice g1_a g1_l g1_c), (.slice g2_a g2_l g2_c)])) (by kernel_rfl) ⟨Js.out, Ja.out, Jb.out⟩ (fun hHeld6 => ?_)
  generalize U14.drew = U18 at *
  refine tk (i := 0) (v := .agg #[(.string P1), (.string P2)]) rfl (by kernel_rfl) (fun _ _ _ h => h) rfl ?_ hHeld6 ?_
  · intro W hS; obtain ⟨zs_0, zs_1⟩ := c2 hS.1; go_simp
  simp only [Act.put, y1, y2, y3, y4, y5, y6, y7]
  refine tk (i := 1) (v := (.int .i64 0)) rfl (by kernel_rfl) (fun _ _ _ h => h) rfl ?_ hHeld6 ?_
  · intro W hS; go_simp
  simp only [Act.put, y1, y2, y3, y4, y5, y6, y7]
  refine tk (i := 2) (v := (.int .i64 0)) rfl (by kernel_rfl) (fun _ _ _ h => h) rfl ?_ hHeld6 ?_
  · intro W hS; go_simp
  simp only [Act.put, y1, y2, y3, y4, y5, y6, y7]
  refine tk (i := 3) (v := .agg #[(.slice a1_a a1_l a1_c), (.slice a2_a a2_l a2_c)]) rfl (by kernel_rfl) (fun _ _ _ h => h) rfl ?_ hHeld6 ?_
  · intro W hS; obtain ⟨za_0, za_1⟩ := c2 hS.2.1; go_simp
  simp only [Act.put, y1, y2, y3, y4, y5, y6, y7]
  refine tk (i := 4) (v := .agg #[(.slice g1_a g1_l g1_c), (.slice g2_a g2_l g2_c)]) rfl (by kernel_rfl) (fun _ _ _ h => h) rfl ?_ hHeld6 ?_
  · intro W hS; obtain ⟨zb_0, zb_1⟩ := c2 hS.2.2; go_simp
  simp only [Act.put, y1, y2, y3, y4, y5, y6, y7]
  refine wpAnyH_ready (rs := [5]) (by kernel_rfl) (by simp) ?_
  refine AllReadyH.cons rfl (fun K hK => ?_) AllReadyH.nil
  clear hHeld6
  go_simp
  refine (G30.out U18 (.slice a1_a a1_l a1_c) (.slice a2_a a2_l a2_c) (.slice g1_a g1_l g1_c) (.slice g2_a g2_l g2_c) Na1.out Na2.out Ng1.out Ng2.out).mono ?_
  rintro e U19 ⟨⟨r16, r17, rfl, hv, hv'⟩, hb⟩
  have Nr16 : Hid (NumV U19 10 (NP) r16) := hv
  have Nr17 : Hid (NumV U19 10 (DP) r17) := hv'
  clear hv hv'
  replace B := aB B hb
  replace Jx := aJ Jx hb
  replace Jy := aJ Jy hb
  replace Ja := aJ Ja hb
  replace Jb := aJ Jb hb
  replace Js := aJ Js hb
  replace Na1 := aN Na1 hb
  replace Na2 := aN Na2 hb
  replace Ng1 := aN Ng1 hb
  replace Ng2 := aN Ng2 hb
  clear hb
  go_wp2_with fail
  refine hK.out _ _ (⟨Js.out, Ja.out, Jb.out⟩) (fun hHeld7 => ?_)
  clear hK K
  try simp only [Act.put, y1, y2, y3, y4, y5, y6, y7]
  refine wpAnyH_ready (rs := [6]) (by kernel_rfl) (by simp) ?_
  refine AllReadyH.cons rfl (fun K hK => ?_) AllReadyH.nil
  clear hHeld7
  go_simp
  refine (TP.out U19 r16 r17 Nr16.out Nr17.out).mono ?_
  rintro e U20 ⟨rfl, hb⟩
  replace B := aB B hb
  replace Jx := aJ Jx hb
  replace Jy := aJ Jy hb
  replace Ja := aJ Ja hb
  replace Jb := aJ Jb hb
  replace Js := aJ Js hb
  replace Na1 := aN Na1 hb
  replace Na2 := aN Na2 hb
  replace Ng1 := aN Ng1 hb
  replace Ng2 := aN Ng2 hb
  replace Nr16 := aN Nr16 hb
  replace Nr17 := aN Nr17 hb
  clear hb
  go_wp2_with fail
  refine hK.out _ _ (⟨Js.out, Ja.out, Jb.out⟩) (fun hHeld8 => ?_)
  clear hK K
  try simp only [Act.put, y1, y2, y3, y4, y5, y6, y7]
  refine tk (i := 7) (v := (.bool false)) rfl (by kernel_rfl) (fun _ _ _ h => h) rfl ?_ hHeld8 ?_
  · intro W hS; go_simp
  simp only [Act.put, y1, y2, y3, y4, y5, y6, y7]
  refine wpAnyH_done (by kernel_rfl) ?_ _
  clear hHeld8
  clear Nr16
  clear Nr17
  obtain ⟨zx_0, zx_1⟩ := cJ Jx
  obtain ⟨zy_0, zy_1⟩ := cJ Jy
  go_wp2_with fail
  clear zx_0 zx_1 zy_0 zy_1
  refine (F31.out U20).mono ?_
  rintro e U21 ⟨rfl, hb⟩
  replace B := aB B hb
  replace Jx := aJ Jx hb
  replace Jy := aJ Jy hb
  replace Ja := aJ Ja hb
  replace Jb := aJ Jb hb
  replace Js := aJ Js hb
  replace Na1 := aN Na1 hb
  replace Na2 := aN Na2 hb
  replace Ng1 := aN Ng1 hb
  replace Ng2 := aN Ng2 hb
  clear hb
  obtain ⟨zs_0, zs_1⟩ := cJ Js
  have f0 := fJ Js
  have hBut : But (b15) U21 ((U21.setCell ⟨b15, 0, none⟩ (.string Q1)).setCell ⟨b15, 1, none⟩ (.string Q2)) := (((But.refl _ U21).setCell 0 (.string Q1)).setCell 1 (.string Q2))
  have I4 : Hid (IHolds _ (b15) 41 [(.string Q1), (.string Q2)]) := ((Js.out.set 0 (.string Q1)).set 1 (.string Q2))
  replace B : Hid (Below w.heap.size w ((U21.setCell ⟨b15, 0, none⟩ (.string Q1)).setCell ⟨b15, 1, none⟩ (.string Q2))) := ((B.out.setCell (by first | exact Nat.le_refl _ | exact ge_s.out | (show w.heap.size ≤ b15; omega)) _).setCell (by first | exact Nat.le_refl _ | exact ge_s.out | (show w.heap.size ≤ b15; omega)) _)
  replace Jx := tJ Jx hBut (by first | omega | exact ne_x_s.out | exact fun h => ne_s_x.out h.symm)
  replace Jy := tJ Jy hBut (by first | omega | exact ne_y_s.out | exact fun h => ne_s_y.out h.symm)
  replace Ja := tJ Ja hBut (by first | omega | exact ne_a_s.out | exact fun h => ne_s_a.out h.symm)
  replace Jb := tJ Jb hBut (by first | omega | exact ne_b_s.out | exact fun h => ne_s_b.out h.symm)
  replace Na1 := tN Na1 Js (by simp) hBut
  replace Na2 := tN Na2 Js (by simp) hBut
  replace Ng1 := tN Ng1 Js (by simp) hBut
  replace Ng2 := tN Ng2 Js (by simp) hBut
  replace Js := I4
  clear I4 hBut
  go_wp2_with fail
  clear zs_0 zs_1
  clear f0
  generalize ((U21.setCell ⟨b15, 0, none⟩ (.string Q1)).setCell ⟨b15, 1, none⟩ (.string Q2)) = U22 at *
  have hb := dB U22
  replace B := aB B hb
  replace Jx := aJ Jx hb
  replace Jy := aJ Jy hb
  replace Ja := aJ Ja hb
  replace Jb := aJ Jb hb
  replace Js := aJ Js hb
  replace Na1 := aN Na1 hb
  replace Na2 := aN Na2 hb
  replace Ng1 := aN Ng1 hb
  replace Ng2 := aN Ng2 hb
  clear hb
  refine wp_region_held_drew (S := fun W => (IHolds W (b15) 41 [(.string Q1), (.string Q2)]) ∧ (IHolds W (b7) 43 [(.slice a1_a a1_l a1_c), (.slice a2_a a2_l a2_c)]) ∧ (IHolds W (b7 + 1) 43 [(.slice g1_a g1_l g1_c), (.slice g2_a g2_l g2_c)])) (by kernel_rfl) ⟨Js.out, Ja.out, Jb.out⟩ (fun hHeld9 => ?_)
  generalize U22.drew = U25 at *
  refine tk (i := 0) (v := .agg #[(.string Q1), (.string Q2)]) rfl (by kernel_rfl) (fun _ _ _ h => h) rfl ?_ hHeld9 ?_
  · intro W hS; obtain ⟨zs_0, zs_1⟩ := c2 hS.1; go_simp
  simp only [Act.put, y1, y2, y3, y4, y5, y6, y7]
  refine tk (i := 1) (v := (.int .i64 0)) rfl (by kernel_rfl) (fun _ _ _ h => h) rfl ?_ hHeld9 ?_
  · intro W hS; go_simp
  simp only [Act.put, y1, y2, y3, y4, y5, y6, y7]
  refine tk (i := 2) (v := (.int .i64 0)) rfl (by kernel_rfl) (fun _ _ _ h => h) rfl ?_ hHeld9 ?_
  · intro W hS; go_simp
  simp only [Act.put, y1, y2, y3, y4, y5, y6, y7]
  refine tk (i := 3) (v := .agg #[(.slice a1_a a1_l a1_c), (.slice a2_a a2_l a2_c)]) rfl (by kernel_rfl) (fun _ _ _ h => h) rfl ?_ hHeld9 ?_
  · intro W hS; obtain ⟨za_0, za_1⟩ := c2 hS.2.1; go_simp
  simp only [Act.put, y1, y2, y3, y4, y5, y6, y7]
  refine tk (i := 4) (v := .agg #[(.slice g1_a g1_l g1_c), (.slice g2_a g2_l g2_c)]) rfl (by kernel_rfl) (fun _ _ _ h => h) rfl ?_ hHeld9 ?_
  · intro W hS; obtain ⟨zb_0, zb_1⟩ := c2 hS.2.2; go_simp
  simp only [Act.put, y1, y2, y3, y4, y5, y6, y7]
  refine wpAnyH_ready (rs := [5]) (by kernel_rfl) (by simp) ?_
  refine AllReadyH.cons rfl (fun K hK => ?_) AllReadyH.nil
  clear hHeld9
  go_simp
  refine (G32.out U25 (.slice a1_a a1_l a1_c) (.slice a2_a a2_l a2_c) (.slice g1_a g1_l g1_c) (.slice g2_a g2_l g2_c) Na1.out Na2.out Ng1.out Ng2.out).mono ?_
  rintro e U26 ⟨⟨r23, r24, rfl, hv, hv'⟩, hb⟩
  have Nr23 : Hid (NumV U26 10 (NQ) r23) := hv
  have Nr24 : Hid (NumV U26 10 (DQ) r24) := hv'
  clear hv hv'
  replace B := aB B hb
  replace Jx := aJ Jx hb
  replace Jy := aJ Jy hb
  replace Ja := aJ Ja hb
  replace Jb := aJ Jb hb
  replace Js := aJ Js hb
  replace Na1 := aN Na1 hb
  replace Na2 := aN Na2 hb
  replace Ng1 := aN Ng1 hb
  replace Ng2 := aN Ng2 hb
  clear hb
  go_wp2_with fail
  refine hK.out _ _ (⟨Js.out, Ja.out, Jb.out⟩) (fun hHeld10 => ?_)
  clear hK K
  try simp only [Act.put, y1, y2, y3, y4, y5, y6, y7]
  refine wpAnyH_ready (rs := [6]) (by kernel_rfl) (by simp) ?_
  refine AllReadyH.cons rfl (fun K hK => ?_) AllReadyH.nil
  clear hHeld10
  go_simp
  refine (TQ.out U26 r23 r24 Nr23.out Nr24.out).mono ?_
  rintro e U27 ⟨rfl, hb⟩
  replace B := aB B hb
  replace Jx := aJ Jx hb
  replace Jy := aJ Jy hb
  replace Ja := aJ Ja hb
  replace Jb := aJ Jb hb
  replace Js := aJ Js hb
  replace Na1 := aN Na1 hb
  replace Na2 := aN Na2 hb
  replace Ng1 := aN Ng1 hb
  replace Ng2 := aN Ng2 hb
  replace Nr23 := aN Nr23 hb
  replace Nr24 := aN Nr24 hb
  clear hb
  go_wp2_with fail
  refine hK.out _ _ (⟨Js.out, Ja.out, Jb.out⟩) (fun hHeld11 => ?_)
  clear hK K
  try simp only [Act.put, y1, y2, y3, y4, y5, y6, y7]
  refine tk (i := 7) (v := (.bool false)) rfl (by kernel_rfl) (fun _ _ _ h => h) rfl ?_ hHeld11 ?_
  · intro W hS; go_simp
  simp only [Act.put, y1, y2, y3, y4, y5, y6, y7]
  refine wpAnyH_done (by kernel_rfl) ?_ _
  clear hHeld11
  clear Nr23
  clear Nr24
  obtain ⟨zx_0, zx_1⟩ := cJ Jx
  obtain ⟨zy_0, zy_1⟩ := cJ Jy
  go_wp2_with fail
  clear zx_0 zx_1 zy_0 zy_1
  refine (F33.out U27).mono ?_
  rintro e U28 ⟨rfl, hb⟩
  replace B := aB B hb
  replace Jx := aJ Jx hb
  replace Jy := aJ Jy hb
  replace Ja := aJ Ja hb
  replace Jb := aJ Jb hb
  replace Js := aJ Js hb
  replace Na1 := aN Na1 hb
  replace Na2 := aN Na2 hb
  replace Ng1 := aN Ng1 hb
  replace Ng2 := aN Ng2 hb
  clear hb
  obtain ⟨za_0, za_1⟩ := cJ Ja
  obtain ⟨zb_0, zb_1⟩ := cJ Jb
  go_wp2_with fail
  clear za_0 za_1 zb_0 zb_1
  refine (G34.out U28 (.slice a1_a a1_l a1_c) (.slice a2_a a2_l a2_c) (.slice g1_a g1_l g1_c) (.slice g2_a g2_l g2_c) Na1.out Na2.out Ng1.out Ng2.out).mono ?_
  rintro e U29 ⟨rfl, hb⟩
  replace B := aB B hb
  replace Jx := aJ Jx hb
  replace Jy := aJ Jy hb
  replace Ja := aJ Ja hb
  replace Jb := aJ Jb hb
  replace Js := aJ Js hb
  replace Na1 := aN Na1 hb
  replace Na2 := aN Na2 hb
  replace Ng1 := aN Ng1 hb
  replace Ng2 := aN Ng2 hb
  clear hb
  obtain ⟨zx_0, zx_1⟩ := cJ Jx
  obtain ⟨zy_0, zy_1⟩ := cJ Jy
  go_wp2_with fail
  clear zx_0 zx_1 zy_0 zy_1
  refine (F35.out U29).mono ?_
  rintro e U30 ⟨rfl, hb⟩
  replace B := aB B hb
  replace Jx := aJ Jx hb
  replace Jy := aJ Jy hb
  replace Ja := aJ Ja hb
  replace Jb := aJ Jb hb
  replace Js := aJ Js hb
  replace Na1 := aN Na1 hb
  replace Na2 := aN Na2 hb
  replace Ng1 := aN Ng1 hb
  replace Ng2 := aN Ng2 hb
  clear hb
  obtain ⟨zs_0, zs_1⟩ := cJ Js
  have f0 := fJ Js
  have hBut : But (b15) U30 ((U30.setCell ⟨b15, 0, none⟩ (.string ⟨#[]⟩)).setCell ⟨b15, 1, none⟩ (.string ⟨#[]⟩)) := (((But.refl _ U30).setCell 0 (.string ⟨#[]⟩)).setCell 1 (.string ⟨#[]⟩))
  have I4 : Hid (IHolds _ (b15) 41 [(.string ⟨#[]⟩), (.string ⟨#[]⟩)]) := ((Js.out.set 0 (.string ⟨#[]⟩)).set 1 (.string ⟨#[]⟩))
  replace B : Hid (Below w.heap.size w ((U30.setCell ⟨b15, 0, none⟩ (.string ⟨#[]⟩)).setCell ⟨b15, 1, none⟩ (.string ⟨#[]⟩))) := ((B.out.setCell (by first | exact Nat.le_refl _ | exact ge_s.out | (show w.heap.size ≤ b15; omega)) _).setCell (by first | exact Nat.le_refl _ | exact ge_s.out | (show w.heap.size ≤ b15; omega)) _)
  replace Jx := tJ Jx hBut (by first | omega | exact ne_x_s.out | exact fun h => ne_s_x.out h.symm)
  replace Jy := tJ Jy hBut (by first | omega | exact ne_y_s.out | exact fun h => ne_s_y.out h.symm)
  replace Ja := tJ Ja hBut (by first | omega | exact ne_a_s.out | exact fun h => ne_s_a.out h.symm)
  replace Jb := tJ Jb hBut (by first | omega | exact ne_b_s.out | exact fun h => ne_s_b.out h.symm)
  replace Na1 := tN Na1 Js (by simp) hBut
  replace Na2 := tN Na2 Js (by simp) hBut
  replace Ng1 := tN Ng1 Js (by simp) hBut
  replace Ng2 := tN Ng2 Js (by simp) hBut
  replace Js := I4
  clear I4 hBut
  obtain ⟨zaa_0, zaa_1⟩ := cJ Ja
  obtain ⟨zab_0, zab_1⟩ := cJ Jb
  go_wp2_with fail
  clear zaa_0 zaa_1 zab_0 zab_1
  clear zs_0 zs_1
  clear f0
  generalize ((U30.setCell ⟨b15, 0, none⟩ (.string ⟨#[]⟩)).setCell ⟨b15, 1, none⟩ (.string ⟨#[]⟩)) = U31 at *
  refine (G34.out U31 (.slice a1_a a1_l a1_c) (.slice a2_a a2_l a2_c) (.slice g1_a g1_l g1_c) (.slice g2_a g2_l g2_c) Na1.out Na2.out Ng1.out Ng2.out).mono ?_
  rintro e U32 ⟨rfl, hb⟩
  replace B := aB B hb
  replace Jx := aJ Jx hb
  replace Jy := aJ Jy hb
  replace Ja := aJ Ja hb
  replace Jb := aJ Jb hb
  replace Js := aJ Js hb
  replace Na1 := aN Na1 hb
  replace Na2 := aN Na2 hb
  replace Ng1 := aN Ng1 hb
  replace Ng2 := aN Ng2 hb
  clear hb
  obtain ⟨zs_0, zs_1⟩ := cJ Js
  obtain ⟨za_0, za_1⟩ := cJ Ja
  go_wp2_with fail
  clear zs_0 zs_1 za_0 za_1
  refine (T4.out U32 _ _).mono ?_
  rintro e U33 ⟨rfl, hb⟩
  replace B := aB B hb
  replace Jx := aJ Jx hb
  replace Jy := aJ Jy hb
  replace Ja := aJ Ja hb
  replace Jb := aJ Jb hb
  replace Js := aJ Js hb
  replace Na1 := aN Na1 hb
  replace Na2 := aN Na2 hb
  replace Ng1 := aN Ng1 hb
  replace Ng2 := aN Ng2 hb
  clear hb
  obtain ⟨zx_0, zx_1⟩ := cJ Jx
  obtain ⟨zy_0, zy_1⟩ := cJ Jy
  go_wp2_with fail
  clear zx_0 zx_1 zy_0 zy_1
  refine (F37.out U33).mono ?_
  rintro e U34 ⟨rfl, hb⟩
  replace B := aB B hb
  replace Jx := aJ Jx hb
  replace Jy := aJ Jy hb
  replace Ja := aJ Ja hb
  replace Jb := aJ Jb hb
  replace Js := aJ Js hb
  replace Na1 := aN Na1 hb
  replace Na2 := aN Na2 hb
  replace Ng1 := aN Ng1 hb
  replace Ng2 := aN Ng2 hb
  clear hb
  have hl : g1_l = (dg 10 U).length := by obtain ⟨a, cap, h, _⟩ := Ng1.out; injection h
  have hq : ((g1_l : Int) == 0) = false := by have := hU0.out; rw [hl]; exact beq_eq_false_iff_ne.2 this
  clear hl
  obtain ⟨zs_0, zs_1⟩ := cJ Js
  have f0 := fJ Js
  have hBut : But (b15) U34 ((U34.setCell ⟨b15, 0, none⟩ (.string O1)).setCell ⟨b15, 1, none⟩ (.string O2)) := (((But.refl _ U34).setCell 0 (.string O1)).setCell 1 (.string O2))
  have I4 : Hid (IHolds _ (b15) 41 [(.string O1), (.string O2)]) := ((Js.out.set 0 (.string O1)).set 1 (.string O2))
  replace B : Hid (Below w.heap.size w ((U34.setCell ⟨b15, 0, none⟩ (.string O1)).setCell ⟨b15, 1, none⟩ (.string O2))) := ((B.out.setCell (by first | exact Nat.le_refl _ | exact ge_s.out | (show w.heap.size ≤ b15; omega)) _).setCell (by first | exact Nat.le_refl _ | exact ge_s.out | (show w.heap.size ≤ b15; omega)) _)
  replace Jx := tJ Jx hBut (by first | omega | exact ne_x_s.out | exact fun h => ne_s_x.out h.symm)
  replace Jy := tJ Jy hBut (by first | omega | exact ne_y_s.out | exact fun h => ne_s_y.out h.symm)
  replace Ja := tJ Ja hBut (by first | omega | exact ne_a_s.out | exact fun h => ne_s_a.out h.symm)
  replace Jb := tJ Jb hBut (by first | omega | exact ne_b_s.out | exact fun h => ne_s_b.out h.symm)
  replace Na1 := tN Na1 Js (by simp) hBut
  replace Na2 := tN Na2 Js (by simp) hBut
  replace Ng1 := tN Ng1 Js (by simp) hBut
  replace Ng2 := tN Ng2 Js (by simp) hBut
  replace Js := I4
  clear I4 hBut
  obtain ⟨zab_0, zab_1⟩ := cJ Jb
  go_wp2_with fail
  clear zab_0 zab_1
  clear zs_0 zs_1
  clear f0
  generalize ((U34.setCell ⟨b15, 0, none⟩ (.string O1)).setCell ⟨b15, 1, none⟩ (.string O2)) = U35 at *
  have hb := dB U35
  replace B := aB B hb
  replace Jx := aJ Jx hb
  replace Jy := aJ Jy hb
  replace Ja := aJ Ja hb
  replace Jb := aJ Jb hb
  replace Js := aJ Js hb
  replace Na1 := aN Na1 hb
  replace Na2 := aN Na2 hb
  replace Ng1 := aN Ng1 hb
  replace Ng2 := aN Ng2 hb
  clear hb
  refine wp_region_held_drew (S := fun W => (IHolds W (b15) 41 [(.string O1), (.string O2)]) ∧ (IHolds W (b7) 43 [(.slice a1_a a1_l a1_c), (.slice a2_a a2_l a2_c)]) ∧ (IHolds W (b7 + 1) 43 [(.slice g1_a g1_l g1_c), (.slice g2_a g2_l g2_c)])) (by kernel_rfl) ⟨Js.out, Ja.out, Jb.out⟩ (fun hHeld12 => ?_)
  generalize U35.drew = U38 at *
  refine tk (i := 0) (v := .agg #[(.string O1), (.string O2)]) rfl (by kernel_rfl) (fun _ _ _ h => h) rfl ?_ hHeld12 ?_
  · intro W hS; obtain ⟨zs_0, zs_1⟩ := c2 hS.1; go_simp
  simp only [Act.put, y1, y2, y3, y4, y5, y6, y7]
  refine tk (i := 1) (v := (.int .i64 0)) rfl (by kernel_rfl) (fun _ _ _ h => h) rfl ?_ hHeld12 ?_
  · intro W hS; go_simp
  simp only [Act.put, y1, y2, y3, y4, y5, y6, y7]
  refine tk (i := 2) (v := (.int .i64 0)) rfl (by kernel_rfl) (fun _ _ _ h => h) rfl ?_ hHeld12 ?_
  · intro W hS; go_simp
  simp only [Act.put, y1, y2, y3, y4, y5, y6, y7]
  refine tk (i := 3) (v := .agg #[(.slice a1_a a1_l a1_c), (.slice a2_a a2_l a2_c)]) rfl (by kernel_rfl) (fun _ _ _ h => h) rfl ?_ hHeld12 ?_
  · intro W hS; obtain ⟨za_0, za_1⟩ := c2 hS.2.1; go_simp
  simp only [Act.put, y1, y2, y3, y4, y5, y6, y7]
  refine tk (i := 4) (v := .agg #[(.slice g1_a g1_l g1_c), (.slice g2_a g2_l g2_c)]) rfl (by kernel_rfl) (fun _ _ _ h => h) rfl ?_ hHeld12 ?_
  · intro W hS; obtain ⟨zb_0, zb_1⟩ := c2 hS.2.2; go_simp
  simp only [Act.put, y1, y2, y3, y4, y5, y6, y7]
  refine wpAnyH_ready (rs := [5]) (by kernel_rfl) (by simp) ?_
  refine AllReadyH.cons rfl (fun K hK => ?_) AllReadyH.nil
  clear hHeld12
  go_simp
  refine (G38.out U38 (.slice a1_a a1_l a1_c) (.slice a2_a a2_l a2_c) (.slice g1_a g1_l g1_c) (.slice g2_a g2_l g2_c) Na1.out Na2.out Ng1.out Ng2.out).mono ?_
  rintro e U39 ⟨⟨r36, r37, rfl, hv, hv'⟩, hb⟩
  have Nr36 : Hid (NumV U39 10 (NO) r36) := hv
  have Nr37 : Hid (NumV U39 10 (DO) r37) := hv'
  clear hv hv'
  replace B := aB B hb
  replace Jx := aJ Jx hb
  replace Jy := aJ Jy hb
  replace Ja := aJ Ja hb
  replace Jb := aJ Jb hb
  replace Js := aJ Js hb
  replace Na1 := aN Na1 hb
  replace Na2 := aN Na2 hb
  replace Ng1 := aN Ng1 hb
  replace Ng2 := aN Ng2 hb
  clear hb
  go_wp2_with fail
  refine hK.out _ _ (⟨Js.out, Ja.out, Jb.out⟩) (fun hHeld13 => ?_)
  clear hK K
  try simp only [Act.put, y1, y2, y3, y4, y5, y6, y7]
  refine wpAnyH_ready (rs := [6]) (by kernel_rfl) (by simp) ?_
  refine AllReadyH.cons rfl (fun K hK => ?_) AllReadyH.nil
  clear hHeld13
  go_simp
  refine (TO.out U39 r36 r37 Nr36.out Nr37.out).mono ?_
  rintro e U40 ⟨rfl, hb⟩
  replace B := aB B hb
  replace Jx := aJ Jx hb
  replace Jy := aJ Jy hb
  replace Ja := aJ Ja hb
  replace Jb := aJ Jb hb
  replace Js := aJ Js hb
  replace Na1 := aN Na1 hb
  replace Na2 := aN Na2 hb
  replace Ng1 := aN Ng1 hb
  replace Ng2 := aN Ng2 hb
  replace Nr36 := aN Nr36 hb
  replace Nr37 := aN Nr37 hb
  clear hb
  go_wp2_with fail
  refine hK.out _ _ (⟨Js.out, Ja.out, Jb.out⟩) (fun hHeld14 => ?_)
  clear hK K
  try simp only [Act.put, y1, y2, y3, y4, y5, y6, y7]
  refine tk (i := 7) (v := (.bool true)) rfl (by kernel_rfl) (fun _ _ _ h => h) rfl ?_ hHeld14 ?_
  · intro W hS; go_simp
  simp only [Act.put, y1, y2, y3, y4, y5, y6, y7]
  refine wpAnyH_done (by kernel_rfl) ?_ _
  clear hHeld14
  clear Nr36
  clear Nr37
  go_wp2_with fail
  go_ret
  exact ⟨rfl, B.out⟩

set_option maxRecDepth 100000 in
set_option maxHeartbeats 8000000 in
theorem fracs_ok_ok_zero {n1 d1 n2 d2 : ByteArray} {w : World} {A B1 U V NP DP NQ DQ NM DM NO DO : Nat} {P1 P2 Q1 Q2 M1 M2 O1 O2 : ByteArray} {z : Int}
    (F25a : Hid (∀ W, Calls Tryd.prog 25 #[.string n1, .string d1] W fun e w' => e = .returned (.int .i64 0) ∧ Below W.heap.size W w'))
    (F25b : Hid (∀ W, Calls Tryd.prog 25 #[.string n2, .string d2] W fun e w' => e = .returned (.int .i64 0) ∧ Below W.heap.size W w'))
    (F26 : Hid (∀ W, Calls Tryd.prog 26 #[.int .i64 1] W fun e w' => (∃ u1 u2, e = .returned (.agg #[u1, u2]) ∧ NumV w' 10 1 u1 ∧ NumV w' 10 1 u2) ∧ Below W.heap.size W w'))
    (F27a : Hid (∀ W, Calls Tryd.prog 27 #[.agg #[.string n1, .string d1]] W fun e w' => (∃ u1 u2, e = .returned (.agg #[u1, u2]) ∧ NumV w' 10 A u1 ∧ NumV w' 10 B1 u2) ∧ Below W.heap.size W w'))
    (F27b : Hid (∀ W, Calls Tryd.prog 27 #[.agg #[.string n2, .string d2]] W fun e w' => (∃ u1 u2, e = .returned (.agg #[u1, u2]) ∧ NumV w' 10 U u1 ∧ NumV w' 10 V u2) ∧ Below W.heap.size W w'))
    (F28 : Hid (∀ W, Calls Tryd.prog 28 #[.agg #[.string n1, .string d1], .agg #[.string n2, .string d2]] W fun e w' => e = .returned (.tuple #[.agg #[(.string P1), (.string P2)], .int .i64 0]) ∧ Below W.heap.size W w'))
    (F31 : Hid (∀ W, Calls Tryd.prog 31 #[.agg #[.string n1, .string d1], .agg #[.string n2, .string d2]] W fun e w' => e = .returned (.tuple #[.agg #[(.string Q1), (.string Q2)], .int .i64 0]) ∧ Below W.heap.size W w'))
    (F35 : Hid (∀ W, Calls Tryd.prog 35 #[.agg #[.string n1, .string d1], .agg #[.string n2, .string d2]] W fun e w' => e = .returned (.tuple #[.agg #[(.string M1), (.string M2)], .int .i64 0]) ∧ Below W.heap.size W w'))
    (F37 : Hid (∀ W, Calls Tryd.prog 37 #[.agg #[.string n1, .string d1], .agg #[.string n2, .string d2]] W fun e w' => e = .returned (.tuple #[.agg #[(.string ⟨#[]⟩), (.string ⟨#[]⟩)], .int .i64 5]) ∧ Below W.heap.size W w'))
    (F33 : Hid (∀ W, Calls Tryd.prog 33 #[.agg #[.string n1, .string d1], .agg #[.string n2, .string d2]] W fun e w' => e = .returned (.tuple #[.int .i64 z, .int .i64 0]) ∧ Below W.heap.size W w'))
    (G30 : Hid (∀ W p1 p2 p3 p4, NumV W 10 A p1 → NumV W 10 B1 p2 → NumV W 10 U p3 → NumV W 10 V p4 → Calls Tryd.prog 30 #[.agg #[p1, p2], .agg #[p3, p4]] W fun e w' => (∃ u1 u2, e = .returned (.agg #[u1, u2]) ∧ NumV w' 10 NP u1 ∧ NumV w' 10 DP u2) ∧ Below W.heap.size W w'))
    (G32 : Hid (∀ W p1 p2 p3 p4, NumV W 10 A p1 → NumV W 10 B1 p2 → NumV W 10 U p3 → NumV W 10 V p4 → Calls Tryd.prog 32 #[.agg #[p1, p2], .agg #[p3, p4]] W fun e w' => (∃ u1 u2, e = .returned (.agg #[u1, u2]) ∧ NumV w' 10 NQ u1 ∧ NumV w' 10 DQ u2) ∧ Below W.heap.size W w'))
    (G36 : Hid (∀ W p1 p2 p3 p4, NumV W 10 A p1 → NumV W 10 B1 p2 → NumV W 10 U p3 → NumV W 10 V p4 → Calls Tryd.prog 36 #[.agg #[p1, p2], .agg #[p3, p4]] W fun e w' => (∃ u1 u2, e = .returned (.agg #[u1, u2]) ∧ NumV w' 10 NM u1 ∧ NumV w' 10 DM u2) ∧ Below W.heap.size W w'))
    (G34 : Hid (∀ W p1 p2 p3 p4, NumV W 10 A p1 → NumV W 10 B1 p2 → NumV W 10 U p3 → NumV W 10 V p4 → Calls Tryd.prog 34 #[.agg #[p1, p2], .agg #[p3, p4]] W fun e w' => e = .returned (.int .i64 z) ∧ Below W.heap.size W w'))
    (hz : ¬ z < 0)
    (TP : Hid (∀ W p1 p2, NumV W 10 NP p1 → NumV W 10 DP p2 → Calls Tryd.prog 29 #[.agg #[.string P1, .string P2], .int .i64 0, .int .i64 0, .agg #[p1, p2]] W fun e w' => e = .returned (.bool true) ∧ Below W.heap.size W w'))
    (TQ : Hid (∀ W p1 p2, NumV W 10 NQ p1 → NumV W 10 DQ p2 → Calls Tryd.prog 29 #[.agg #[.string Q1, .string Q2], .int .i64 0, .int .i64 0, .agg #[p1, p2]] W fun e w' => e = .returned (.bool true) ∧ Below W.heap.size W w'))
    (TM : Hid (∀ W p1 p2, NumV W 10 NM p1 → NumV W 10 DM p2 → Calls Tryd.prog 29 #[.agg #[.string M1, .string M2], .int .i64 0, .int .i64 0, .agg #[p1, p2]] W fun e w' => e = .returned (.bool true) ∧ Below W.heap.size W w'))
    (TZ : ∀ (y : Int), (y != 0) = true → ∀ W p1 p2, Calls Tryd.prog 29 #[.agg #[.string ⟨#[]⟩, .string ⟨#[]⟩], .int .i64 y, .int .i64 y, .agg #[p1, p2]] W fun e w' => e = .returned (.bool true) ∧ Below W.heap.size W w')
    (hu : U = 0) :
    Calls Tryd.prog 5 #[.agg #[.string n1, .string d1], .agg #[.string n2, .string d2]] w fun e w' => e = .returned (.bool true) ∧ Below w.heap.size w w' := by
  have T5 : Hid (∀ W p1 p2, Calls Tryd.prog 29 #[.agg #[.string ⟨#[]⟩, .string ⟨#[]⟩], .int .i64 5, .int .i64 5, .agg #[p1, p2]] W fun e w' => e = .returned (.bool true) ∧ Below W.heap.size W w') := fun W p1 p2 => TZ 5 rfl W p1 p2
  clear TZ
  have hU0 : Hid ((dg 10 U).length = 0) := by show _ = _; rw [hu, dg_zero]; rfl
  clear hu
  go_enter Tryd.func5, Tryd.ntmps5
  go_wp2_with fail
  obtain ⟨U1, hU1⟩ : ∃ X, X = ((w.alloc (.cells #[(.string n1), (.string d1)] 41)).alloc (.cells #[(.string n2), (.string d2)] 41)) := ⟨_, rfl⟩
  have Jx : Hid (IHolds U1 (w.heap.size) 41 [(.string n1), (.string d1)]) := by
    have q := IHolds.new w 41 [(.string n1), (.string d1)]
    show IHolds _ _ _ _
    rw [hU1]
    exact (q.alloc _)
  have Jy : Hid (IHolds U1 (w.heap.size + 1) 41 [(.string n2), (.string d2)]) := by
    have q := IHolds.new (w.alloc (.cells #[(.string n1), (.string d1)] 41)) 41 [(.string n2), (.string d2)]
    simp only [World.size_alloc, Nat.add_assoc, Nat.reduceAdd] at q
    show IHolds _ _ _ _
    rw [hU1]
    exact q
  have B : Hid (Below w.heap.size w U1) := by
    show Below _ _ _
    rw [hU1]
    exact (((Below.refl _ w).alloc (Nat.le_refl _) _).alloc (by simp only [World.size_alloc]; omega) _)
  rw [← hU1]
  clear hU1
  refine (F25a.out U1).mono ?_
  rintro e U2 ⟨rfl, hb⟩
  replace B := aB B hb
  replace Jx := aJ Jx hb
  replace Jy := aJ Jy hb
  clear hb
  obtain ⟨zy_0, zy_1⟩ := cJ Jy
  go_wp2_with fail
  clear zy_0 zy_1
  refine (F25b.out U2).mono ?_
  rintro e U3 ⟨rfl, hb⟩
  replace B := aB B hb
  replace Jx := aJ Jx hb
  replace Jy := aJ Jy hb
  clear hb
  go_wp2_with fail
  refine (F26.out U3).mono ?_
  rintro e U4 ⟨⟨q1, q2, rfl, hv, hv'⟩, hb⟩
  have Nq1 : Hid (NumV U4 10 (1) q1) := hv
  have Nq2 : Hid (NumV U4 10 (1) q2) := hv'
  clear hv hv'
  replace B := aB B hb
  replace Jx := aJ Jx hb
  replace Jy := aJ Jy hb
  clear hb
  go_wp2_with fail
  refine (F26.out U4).mono ?_
  rintro e U5 ⟨⟨q3, q4, rfl, hv, hv'⟩, hb⟩
  have Nq3 : Hid (NumV U5 10 (1) q3) := hv
  have Nq4 : Hid (NumV U5 10 (1) q4) := hv'
  clear hv hv'
  replace B := aB B hb
  replace Jx := aJ Jx hb
  replace Jy := aJ Jy hb
  replace Nq1 := aN Nq1 hb
  replace Nq2 := aN Nq2 hb
  clear hb
  obtain ⟨q1_a, q1_l, q1_c, rfl⟩ := sN Nq1
  obtain ⟨q2_a, q2_l, q2_c, rfl⟩ := sN Nq2
  obtain ⟨q3_a, q3_l, q3_c, rfl⟩ := sN Nq3
  obtain ⟨q4_a, q4_l, q4_c, rfl⟩ := sN Nq4
  have hb : Below U5.heap.size U5 ((U5.alloc (.cells #[(.slice q1_a q1_l q1_c), (.slice q2_a q2_l q2_c)] 43)).alloc (.cells #[(.slice q3_a q3_l q3_c), (.slice q4_a q4_l q4_c)] 43)) := ((Below.refl _ U5).alloc (Nat.le_refl _) _).alloc (by simp) _
  have Ja : Hid (IHolds ((U5.alloc (.cells #[(.slice q1_a q1_l q1_c), (.slice q2_a q2_l q2_c)] 43)).alloc (.cells #[(.slice q3_a q3_l q3_c), (.slice q4_a q4_l q4_c)] 43)) U5.heap.size 43 [(.slice q1_a q1_l q1_c), (.slice q2_a q2_l q2_c)]) := (IHolds.new _ _ _).alloc _
  have Jb : Hid (IHolds ((U5.alloc (.cells #[(.slice q1_a q1_l q1_c), (.slice q2_a q2_l q2_c)] 43)).alloc (.cells #[(.slice q3_a q3_l q3_c), (.slice q4_a q4_l q4_c)] 43)) (U5.heap.size + 1) 43 [(.slice q3_a q3_l q3_c), (.slice q4_a q4_l q4_c)]) := by
    have q := IHolds.new (U5.alloc (.cells #[(.slice q1_a q1_l q1_c), (.slice q2_a q2_l q2_c)] 43)) 43 [(.slice q3_a q3_l q3_c), (.slice q4_a q4_l q4_c)]
    rw [World.size_alloc] at q
    exact q
  have ne_x_a : Hid ((w.heap.size) ≠ U5.heap.size) := by have := Jx.out.lt; show _ ≠ _; omega
  have ne_x_b : Hid ((w.heap.size) ≠ U5.heap.size + 1) := by have := Jx.out.lt; show _ ≠ _; omega
  have ne_y_a : Hid ((w.heap.size + 1) ≠ U5.heap.size) := by have := Jy.out.lt; show _ ≠ _; omega
  have ne_y_b : Hid ((w.heap.size + 1) ≠ U5.heap.size + 1) := by have := Jy.out.lt; show _ ≠ _; omega
  have ge_a : Hid (w.heap.size ≤ U5.heap.size) := B.out.size
  have ge_b : Hid (w.heap.size ≤ U5.heap.size + 1) := Nat.le_succ_of_le B.out.size
  replace B := aB B hb
  replace Jx := aJ Jx hb
  replace Jy := aJ Jy hb
  replace Nq1 := aN Nq1 hb
  replace Nq2 := aN Nq2 hb
  replace Nq3 := aN Nq3 hb
  replace Nq4 := aN Nq4 hb
  clear hb
  obtain ⟨zx_0, zx_1⟩ := cJ Jx
  obtain ⟨zy_0, zy_1⟩ := cJ Jy
  go_wp2_with fail
  clear zx_0 zx_1 zy_0 zy_1
  generalize ((U5.alloc (.cells #[(.slice q1_a q1_l q1_c), (.slice q2_a q2_l q2_c)] 43)).alloc (.cells #[(.slice q3_a q3_l q3_c), (.slice q4_a q4_l q4_c)] 43)) = U6 at *
  generalize U5.heap.size = b7 at *
  clear Nq1
  clear Nq2
  clear Nq3
  clear Nq4
  have hb := dB U6
  replace B := aB B hb
  replace Jx := aJ Jx hb
  replace Jy := aJ Jy hb
  replace Ja := aJ Ja hb
  replace Jb := aJ Jb hb
  clear hb
  refine wp_region_held_drew (S := fun W => (IHolds W (w.heap.size) 41 [(.string n1), (.string d1)]) ∧ (IHolds W (w.heap.size + 1) 41 [(.string n2), (.string d2)])) (by kernel_rfl) ⟨Jx.out, Jy.out⟩ (fun hHeld1 => ?_)
  generalize U6.drew = U8 at *
  refine tk (i := 0) (v := .agg #[(.string n1), (.string d1)]) rfl (by kernel_rfl) (fun _ _ _ h => h) rfl ?_ hHeld1 ?_
  · intro W hS; obtain ⟨zx_0, zx_1⟩ := c2 hS.1; go_simp
  simp only [Act.put, y1, y2, y3, y4, y5, y6, y7]
  refine tk (i := 2) (v := .agg #[(.string n2), (.string d2)]) rfl (by kernel_rfl) (fun _ _ _ h => h) rfl ?_ hHeld1 ?_
  · intro W hS; obtain ⟨zy_0, zy_1⟩ := c2 hS.2; go_simp
  simp only [Act.put, y1, y2, y3, y4, y5, y6, y7]
  refine wpAnyH_ready (rs := [1]) (by kernel_rfl) (by simp) ?_
  refine AllReadyH.cons rfl (fun K hK => ?_) AllReadyH.nil
  clear hHeld1
  go_simp
  refine (F27a.out U8).mono ?_
  rintro e U9 ⟨⟨a1, a2, rfl, hv, hv'⟩, hb⟩
  have Na1 : Hid (NumV U9 10 (A) a1) := hv
  have Na2 : Hid (NumV U9 10 (B1) a2) := hv'
  clear hv hv'
  replace B := aB B hb
  replace Jx := aJ Jx hb
  replace Jy := aJ Jy hb
  replace Ja := aJ Ja hb
  replace Jb := aJ Jb hb
  clear hb
  go_wp2_with fail
  refine hK.out _ _ (⟨Jx.out, Jy.out⟩) (fun hHeld2 => ?_)
  clear hK K
  try simp only [Act.put, y1, y2, y3, y4, y5, y6, y7]
  refine wpAnyH_ready (rs := [3]) (by kernel_rfl) (by simp) ?_
  refine AllReadyH.cons rfl (fun K hK => ?_) AllReadyH.nil
  clear hHeld2
  go_simp
  refine (F27b.out U9).mono ?_
  rintro e U10 ⟨⟨g1, g2, rfl, hv, hv'⟩, hb⟩
  have Ng1 : Hid (NumV U10 10 (U) g1) := hv
  have Ng2 : Hid (NumV U10 10 (V) g2) := hv'
  clear hv hv'
  replace B := aB B hb
  replace Jx := aJ Jx hb
  replace Jy := aJ Jy hb
  replace Ja := aJ Ja hb
  replace Jb := aJ Jb hb
  replace Na1 := aN Na1 hb
  replace Na2 := aN Na2 hb
  clear hb
  go_wp2_with fail
  refine hK.out _ _ (⟨Jx.out, Jy.out⟩) (fun hHeld3 => ?_)
  clear hK K
  try simp only [Act.put, y1, y2, y3, y4, y5, y6, y7]
  refine wpAnyH_ready (rs := [4]) (by kernel_rfl) (by simp) ?_
  refine AllReadyH.cons rfl (fun K hK => ?_) AllReadyH.nil
  clear hHeld3
  obtain ⟨a1_a, a1_l, a1_c, rfl⟩ := sN Na1
  obtain ⟨a2_a, a2_l, a2_c, rfl⟩ := sN Na2
  obtain ⟨za_0, za_1⟩ := cJ Ja
  have f0 := fJ Ja
  have hBut : But (b7) U10 ((U10.setCell ⟨b7, 0, none⟩ (.slice a1_a a1_l a1_c)).setCell ⟨b7, 1, none⟩ (.slice a2_a a2_l a2_c)) := (((But.refl _ U10).setCell 0 (.slice a1_a a1_l a1_c)).setCell 1 (.slice a2_a a2_l a2_c))
  have I4 : Hid (IHolds _ (b7) 43 [(.slice a1_a a1_l a1_c), (.slice a2_a a2_l a2_c)]) := ((Ja.out.set 0 (.slice a1_a a1_l a1_c)).set 1 (.slice a2_a a2_l a2_c))
  replace B : Hid (Below w.heap.size w ((U10.setCell ⟨b7, 0, none⟩ (.slice a1_a a1_l a1_c)).setCell ⟨b7, 1, none⟩ (.slice a2_a a2_l a2_c))) := ((B.out.setCell (by first | exact Nat.le_refl _ | exact ge_a.out | (show w.heap.size ≤ b7; omega)) _).setCell (by first | exact Nat.le_refl _ | exact ge_a.out | (show w.heap.size ≤ b7; omega)) _)
  replace Jx := tJ Jx hBut (by first | omega | exact ne_x_a.out | exact fun h => ne_a_x.out h.symm)
  replace Jy := tJ Jy hBut (by first | omega | exact ne_y_a.out | exact fun h => ne_a_y.out h.symm)
  replace Jb := tJ Jb hBut (by first | omega | exact ne_b_a.out | exact fun h => ne_a_b.out h.symm)
  replace Na1 := tN Na1 Ja (by simp) hBut
  replace Na2 := tN Na2 Ja (by simp) hBut
  replace Ng1 := tN Ng1 Ja (by simp) hBut
  replace Ng2 := tN Ng2 Ja (by simp) hBut
  replace Ja := I4
  clear I4 hBut
  go_simp
  try go_wp2_with fail
  clear za_0 za_1
  clear f0
  generalize ((U10.setCell ⟨b7, 0, none⟩ (.slice a1_a a1_l a1_c)).setCell ⟨b7, 1, none⟩ (.slice a2_a a2_l a2_c)) = U11 at *
  refine hK.out _ _ (⟨Jx.out, Jy.out⟩) (fun hHeld4 => ?_)
  clear hK K
  try simp only [Act.put, y1, y2, y3, y4, y5, y6, y7]
  refine wpAnyH_ready (rs := [5]) (by kernel_rfl) (by simp) ?_
  refine AllReadyH.cons rfl (fun K hK => ?_) AllReadyH.nil
  clear hHeld4
  obtain ⟨g1_a, g1_l, g1_c, rfl⟩ := sN Ng1
  obtain ⟨g2_a, g2_l, g2_c, rfl⟩ := sN Ng2
  obtain ⟨zb_0, zb_1⟩ := cJ Jb
  have f0 := fJ Jb
  have hBut : But (b7 + 1) U11 ((U11.setCell ⟨b7 + 1, 0, none⟩ (.slice g1_a g1_l g1_c)).setCell ⟨b7 + 1, 1, none⟩ (.slice g2_a g2_l g2_c)) := (((But.refl _ U11).setCell 0 (.slice g1_a g1_l g1_c)).setCell 1 (.slice g2_a g2_l g2_c))
  have I4 : Hid (IHolds _ (b7 + 1) 43 [(.slice g1_a g1_l g1_c), (.slice g2_a g2_l g2_c)]) := ((Jb.out.set 0 (.slice g1_a g1_l g1_c)).set 1 (.slice g2_a g2_l g2_c))
  replace B : Hid (Below w.heap.size w ((U11.setCell ⟨b7 + 1, 0, none⟩ (.slice g1_a g1_l g1_c)).setCell ⟨b7 + 1, 1, none⟩ (.slice g2_a g2_l g2_c))) := ((B.out.setCell (by first | exact Nat.le_refl _ | exact ge_b.out | (show w.heap.size ≤ b7 + 1; omega)) _).setCell (by first | exact Nat.le_refl _ | exact ge_b.out | (show w.heap.size ≤ b7 + 1; omega)) _)
  replace Jx := tJ Jx hBut (by first | omega | exact ne_x_b.out | exact fun h => ne_b_x.out h.symm)
  replace Jy := tJ Jy hBut (by first | omega | exact ne_y_b.out | exact fun h => ne_b_y.out h.symm)
  replace Ja := tJ Ja hBut (by first | omega | exact ne_a_b.out | exact fun h => ne_b_a.out h.symm)
  replace Na1 := tN Na1 Jb (by simp) hBut
  replace Na2 := tN Na2 Jb (by simp) hBut
  replace Ng1 := tN Ng1 Jb (by simp) hBut
  replace Ng2 := tN Ng2 Jb (by simp) hBut
  replace Jb := I4
  clear I4 hBut
  go_simp
  try go_wp2_with fail
  clear zb_0 zb_1
  clear f0
  generalize ((U11.setCell ⟨b7 + 1, 0, none⟩ (.slice g1_a g1_l g1_c)).setCell ⟨b7 + 1, 1, none⟩ (.slice g2_a g2_l g2_c)) = U12 at *
  refine hK.out _ _ (⟨Jx.out, Jy.out⟩) (fun hHeld5 => ?_)
  clear hK K
  try simp only [Act.put, y1, y2, y3, y4, y5, y6, y7]
  refine wpAnyH_done (by kernel_rfl) ?_ _
  clear hHeld5
  obtain ⟨zx_0, zx_1⟩ := cJ Jx
  obtain ⟨zy_0, zy_1⟩ := cJ Jy
  go_wp2_with fail
  clear zx_0 zx_1 zy_0 zy_1
  refine (F28.out U12).mono ?_
  rintro e U13 ⟨rfl, hb⟩
  replace B := aB B hb
  replace Jx := aJ Jx hb
  replace Jy := aJ Jy hb
  replace Ja := aJ Ja hb
  replace Jb := aJ Jb hb
  replace Na1 := aN Na1 hb
  replace Na2 := aN Na2 hb
  replace Ng1 := aN Ng1 hb
  replace Ng2 := aN Ng2 hb
  clear hb
  have hb := nB U13 (.cells #[(.string P1), (.string P2)] 41)
  have Js : Hid (IHolds (U13.alloc (.cells #[(.string P1), (.string P2)] 41)) U13.heap.size 41 [(.string P1), (.string P2)]) := IHolds.new _ _ _
  have ne_x_s := nJ Jx
  have ne_y_s := nJ Jy
  have ne_a_s := nJ Ja
  have ne_b_s := nJ Jb
  have ge_s : Hid (w.heap.size ≤ U13.heap.size) := B.out.size
  replace B := aB B hb
  replace Jx := aJ Jx hb
  replace Jy := aJ Jy hb
  replace Ja := aJ Ja hb
  replace Jb := aJ Jb hb
  replace Na1 := aN Na1 hb
  replace Na2 := aN Na2 hb
  replace Ng1 := aN Ng1 hb
  replace Ng2 := aN Ng2 hb
  clear hb
  go_wp2_with fail
  generalize (U13.alloc (.cells #[(.string P1), (.string P2)] 41)) = U14 at *
  generalize U13.heap.size = b15 at *
  have hb := dB U14
  replace B := aB B hb
  replace Jx := aJ Jx hb
  replace Jy := aJ Jy hb
  replace Ja := aJ Ja hb
  replace Jb := aJ Jb hb
  replace Js := aJ Js hb
  replace Na1 := aN Na1 hb
  replace Na2 := aN Na2 hb
  replace Ng1 := aN Ng1 hb
  replace Ng2 := aN Ng2 hb
  clear hb
  refine wp_region_held_drew (S := fun W => (IHolds W (b15) 41 [(.string P1), (.string P2)]) ∧ (IHolds W (b7) 43 [(.slice a1_a a1_l a1_c), (.slice a2_a a2_l a2_c)]) ∧ (IHolds W (b7 + 1) 43 [(.slice g1_a g1_l g1_c), (.slice g2_a g2_l g2_c)])) (by kernel_rfl) ⟨Js.out, Ja.out, Jb.out⟩ (fun hHeld6 => ?_)
  generalize U14.drew = U18 at *
  refine tk (i := 0) (v := .agg #[(.string P1), (.string P2)]) rfl (by kernel_rfl) (fun _ _ _ h => h) rfl ?_ hHeld6 ?_
  · intro W hS; obtain ⟨zs_0, zs_1⟩ := c2 hS.1; go_simp
  simp only [Act.put, y1, y2, y3, y4, y5, y6, y7]
  refine tk (i := 1) (v := (.int .i64 0)) rfl (by kernel_rfl) (fun _ _ _ h => h) rfl ?_ hHeld6 ?_
  · intro W hS; go_simp
  simp only [Act.put, y1, y2, y3, y4, y5, y6, y7]
  refine tk (i := 2) (v := (.int .i64 0)) rfl (by kernel_rfl) (fun _ _ _ h => h) rfl ?_ hHeld6 ?_
  · intro W hS; go_simp
  simp only [Act.put, y1, y2, y3, y4, y5, y6, y7]
  refine tk (i := 3) (v := .agg #[(.slice a1_a a1_l a1_c), (.slice a2_a a2_l a2_c)]) rfl (by kernel_rfl) (fun _ _ _ h => h) rfl ?_ hHeld6 ?_
  · intro W hS; obtain ⟨za_0, za_1⟩ := c2 hS.2.1; go_simp
  simp only [Act.put, y1, y2, y3, y4, y5, y6, y7]
  refine tk (i := 4) (v := .agg #[(.slice g1_a g1_l g1_c), (.slice g2_a g2_l g2_c)]) rfl (by kernel_rfl) (fun _ _ _ h => h) rfl ?_ hHeld6 ?_
  · intro W hS; obtain ⟨zb_0, zb_1⟩ := c2 hS.2.2; go_simp
  simp only [Act.put, y1, y2, y3, y4, y5, y6, y7]
  refine wpAnyH_ready (rs := [5]) (by kernel_rfl) (by simp) ?_
  refine AllReadyH.cons rfl (fun K hK => ?_) AllReadyH.nil
  clear hHeld6
  go_simp
  refine (G30.out U18 (.slice a1_a a1_l a1_c) (.slice a2_a a2_l a2_c) (.slice g1_a g1_l g1_c) (.slice g2_a g2_l g2_c) Na1.out Na2.out Ng1.out Ng2.out).mono ?_
  rintro e U19 ⟨⟨r16, r17, rfl, hv, hv'⟩, hb⟩
  have Nr16 : Hid (NumV U19 10 (NP) r16) := hv
  have Nr17 : Hid (NumV U19 10 (DP) r17) := hv'
  clear hv hv'
  replace B := aB B hb
  replace Jx := aJ Jx hb
  replace Jy := aJ Jy hb
  replace Ja := aJ Ja hb
  replace Jb := aJ Jb hb
  replace Js := aJ Js hb
  replace Na1 := aN Na1 hb
  replace Na2 := aN Na2 hb
  replace Ng1 := aN Ng1 hb
  replace Ng2 := aN Ng2 hb
  clear hb
  go_wp2_with fail
  refine hK.out _ _ (⟨Js.out, Ja.out, Jb.out⟩) (fun hHeld7 => ?_)
  clear hK K
  try simp only [Act.put, y1, y2, y3, y4, y5, y6, y7]
  refine wpAnyH_ready (rs := [6]) (by kernel_rfl) (by simp) ?_
  refine AllReadyH.cons rfl (fun K hK => ?_) AllReadyH.nil
  clear hHeld7
  go_simp
  refine (TP.out U19 r16 r17 Nr16.out Nr17.out).mono ?_
  rintro e U20 ⟨rfl, hb⟩
  replace B := aB B hb
  replace Jx := aJ Jx hb
  replace Jy := aJ Jy hb
  replace Ja := aJ Ja hb
  replace Jb := aJ Jb hb
  replace Js := aJ Js hb
  replace Na1 := aN Na1 hb
  replace Na2 := aN Na2 hb
  replace Ng1 := aN Ng1 hb
  replace Ng2 := aN Ng2 hb
  replace Nr16 := aN Nr16 hb
  replace Nr17 := aN Nr17 hb
  clear hb
  go_wp2_with fail
  refine hK.out _ _ (⟨Js.out, Ja.out, Jb.out⟩) (fun hHeld8 => ?_)
  clear hK K
  try simp only [Act.put, y1, y2, y3, y4, y5, y6, y7]
  refine tk (i := 7) (v := (.bool false)) rfl (by kernel_rfl) (fun _ _ _ h => h) rfl ?_ hHeld8 ?_
  · intro W hS; go_simp
  simp only [Act.put, y1, y2, y3, y4, y5, y6, y7]
  refine wpAnyH_done (by kernel_rfl) ?_ _
  clear hHeld8
  clear Nr16
  clear Nr17
  obtain ⟨zx_0, zx_1⟩ := cJ Jx
  obtain ⟨zy_0, zy_1⟩ := cJ Jy
  go_wp2_with fail
  clear zx_0 zx_1 zy_0 zy_1
  refine (F31.out U20).mono ?_
  rintro e U21 ⟨rfl, hb⟩
  replace B := aB B hb
  replace Jx := aJ Jx hb
  replace Jy := aJ Jy hb
  replace Ja := aJ Ja hb
  replace Jb := aJ Jb hb
  replace Js := aJ Js hb
  replace Na1 := aN Na1 hb
  replace Na2 := aN Na2 hb
  replace Ng1 := aN Ng1 hb
  replace Ng2 := aN Ng2 hb
  clear hb
  obtain ⟨zs_0, zs_1⟩ := cJ Js
  have f0 := fJ Js
  have hBut : But (b15) U21 ((U21.setCell ⟨b15, 0, none⟩ (.string Q1)).setCell ⟨b15, 1, none⟩ (.string Q2)) := (((But.refl _ U21).setCell 0 (.string Q1)).setCell 1 (.string Q2))
  have I4 : Hid (IHolds _ (b15) 41 [(.string Q1), (.string Q2)]) := ((Js.out.set 0 (.string Q1)).set 1 (.string Q2))
  replace B : Hid (Below w.heap.size w ((U21.setCell ⟨b15, 0, none⟩ (.string Q1)).setCell ⟨b15, 1, none⟩ (.string Q2))) := ((B.out.setCell (by first | exact Nat.le_refl _ | exact ge_s.out | (show w.heap.size ≤ b15; omega)) _).setCell (by first | exact Nat.le_refl _ | exact ge_s.out | (show w.heap.size ≤ b15; omega)) _)
  replace Jx := tJ Jx hBut (by first | omega | exact ne_x_s.out | exact fun h => ne_s_x.out h.symm)
  replace Jy := tJ Jy hBut (by first | omega | exact ne_y_s.out | exact fun h => ne_s_y.out h.symm)
  replace Ja := tJ Ja hBut (by first | omega | exact ne_a_s.out | exact fun h => ne_s_a.out h.symm)
  replace Jb := tJ Jb hBut (by first | omega | exact ne_b_s.out | exact fun h => ne_s_b.out h.symm)
  replace Na1 := tN Na1 Js (by simp) hBut
  replace Na2 := tN Na2 Js (by simp) hBut
  replace Ng1 := tN Ng1 Js (by simp) hBut
  replace Ng2 := tN Ng2 Js (by simp) hBut
  replace Js := I4
  clear I4 hBut
  go_wp2_with fail
  clear zs_0 zs_1
  clear f0
  generalize ((U21.setCell ⟨b15, 0, none⟩ (.string Q1)).setCell ⟨b15, 1, none⟩ (.string Q2)) = U22 at *
  have hb := dB U22
  replace B := aB B hb
  replace Jx := aJ Jx hb
  replace Jy := aJ Jy hb
  replace Ja := aJ Ja hb
  replace Jb := aJ Jb hb
  replace Js := aJ Js hb
  replace Na1 := aN Na1 hb
  replace Na2 := aN Na2 hb
  replace Ng1 := aN Ng1 hb
  replace Ng2 := aN Ng2 hb
  clear hb
  refine wp_region_held_drew (S := fun W => (IHolds W (b15) 41 [(.string Q1), (.string Q2)]) ∧ (IHolds W (b7) 43 [(.slice a1_a a1_l a1_c), (.slice a2_a a2_l a2_c)]) ∧ (IHolds W (b7 + 1) 43 [(.slice g1_a g1_l g1_c), (.slice g2_a g2_l g2_c)])) (by kernel_rfl) ⟨Js.out, Ja.out, Jb.out⟩ (fun hHeld9 => ?_)
  generalize U22.drew = U25 at *
  refine tk (i := 0) (v := .agg #[(.string Q1), (.string Q2)]) rfl (by kernel_rfl) (fun _ _ _ h => h) rfl ?_ hHeld9 ?_
  · intro W hS; obtain ⟨zs_0, zs_1⟩ := c2 hS.1; go_simp
  simp only [Act.put, y1, y2, y3, y4, y5, y6, y7]
  refine tk (i := 1) (v := (.int .i64 0)) rfl (by kernel_rfl) (fun _ _ _ h => h) rfl ?_ hHeld9 ?_
  · intro W hS; go_simp
  simp only [Act.put, y1, y2, y3, y4, y5, y6, y7]
  refine tk (i := 2) (v := (.int .i64 0)) rfl (by kernel_rfl) (fun _ _ _ h => h) rfl ?_ hHeld9 ?_
  · intro W hS; go_simp
  simp only [Act.put, y1, y2, y3, y4, y5, y6, y7]
  refine tk (i := 3) (v := .agg #[(.slice a1_a a1_l a1_c), (.slice a2_a a2_l a2_c)]) rfl (by kernel_rfl) (fun _ _ _ h => h) rfl ?_ hHeld9 ?_
  · intro W hS; obtain ⟨za_0, za_1⟩ := c2 hS.2.1; go_simp
  simp only [Act.put, y1, y2, y3, y4, y5, y6, y7]
  refine tk (i := 4) (v := .agg #[(.slice g1_a g1_l g1_c), (.slice g2_a g2_l g2_c)]) rfl (by kernel_rfl) (fun _ _ _ h => h) rfl ?_ hHeld9 ?_
  · intro W hS; obtain ⟨zb_0, zb_1⟩ := c2 hS.2.2; go_simp
  simp only [Act.put, y1, y2, y3, y4, y5, y6, y7]
  refine wpAnyH_ready (rs := [5]) (by kernel_rfl) (by simp) ?_
  refine AllReadyH.cons rfl (fun K hK => ?_) AllReadyH.nil
  clear hHeld9
  go_simp
  refine (G32.out U25 (.slice a1_a a1_l a1_c) (.slice a2_a a2_l a2_c) (.slice g1_a g1_l g1_c) (.slice g2_a g2_l g2_c) Na1.out Na2.out Ng1.out Ng2.out).mono ?_
  rintro e U26 ⟨⟨r23, r24, rfl, hv, hv'⟩, hb⟩
  have Nr23 : Hid (NumV U26 10 (NQ) r23) := hv
  have Nr24 : Hid (NumV U26 10 (DQ) r24) := hv'
  clear hv hv'
  replace B := aB B hb
  replace Jx := aJ Jx hb
  replace Jy := aJ Jy hb
  replace Ja := aJ Ja hb
  replace Jb := aJ Jb hb
  replace Js := aJ Js hb
  replace Na1 := aN Na1 hb
  replace Na2 := aN Na2 hb
  replace Ng1 := aN Ng1 hb
  replace Ng2 := aN Ng2 hb
  clear hb
  go_wp2_with fail
  refine hK.out _ _ (⟨Js.out, Ja.out, Jb.out⟩) (fun hHeld10 => ?_)
  clear hK K
  try simp only [Act.put, y1, y2, y3, y4, y5, y6, y7]
  refine wpAnyH_ready (rs := [6]) (by kernel_rfl) (by simp) ?_
  refine AllReadyH.cons rfl (fun K hK => ?_) AllReadyH.nil
  clear hHeld10
  go_simp
  refine (TQ.out U26 r23 r24 Nr23.out Nr24.out).mono ?_
  rintro e U27 ⟨rfl, hb⟩
  replace B := aB B hb
  replace Jx := aJ Jx hb
  replace Jy := aJ Jy hb
  replace Ja := aJ Ja hb
  replace Jb := aJ Jb hb
  replace Js := aJ Js hb
  replace Na1 := aN Na1 hb
  replace Na2 := aN Na2 hb
  replace Ng1 := aN Ng1 hb
  replace Ng2 := aN Ng2 hb
  replace Nr23 := aN Nr23 hb
  replace Nr24 := aN Nr24 hb
  clear hb
  go_wp2_with fail
  refine hK.out _ _ (⟨Js.out, Ja.out, Jb.out⟩) (fun hHeld11 => ?_)
  clear hK K
  try simp only [Act.put, y1, y2, y3, y4, y5, y6, y7]
  refine tk (i := 7) (v := (.bool false)) rfl (by kernel_rfl) (fun _ _ _ h => h) rfl ?_ hHeld11 ?_
  · intro W hS; go_simp
  simp only [Act.put, y1, y2, y3, y4, y5, y6, y7]
  refine wpAnyH_done (by kernel_rfl) ?_ _
  clear hHeld11
  clear Nr23
  clear Nr24
  obtain ⟨zx_0, zx_1⟩ := cJ Jx
  obtain ⟨zy_0, zy_1⟩ := cJ Jy
  go_wp2_with fail
  clear zx_0 zx_1 zy_0 zy_1
  refine (F33.out U27).mono ?_
  rintro e U28 ⟨rfl, hb⟩
  replace B := aB B hb
  replace Jx := aJ Jx hb
  replace Jy := aJ Jy hb
  replace Ja := aJ Ja hb
  replace Jb := aJ Jb hb
  replace Js := aJ Js hb
  replace Na1 := aN Na1 hb
  replace Na2 := aN Na2 hb
  replace Ng1 := aN Ng1 hb
  replace Ng2 := aN Ng2 hb
  clear hb
  obtain ⟨za_0, za_1⟩ := cJ Ja
  obtain ⟨zb_0, zb_1⟩ := cJ Jb
  go_wp2_with fail
  clear za_0 za_1 zb_0 zb_1
  refine (G34.out U28 (.slice a1_a a1_l a1_c) (.slice a2_a a2_l a2_c) (.slice g1_a g1_l g1_c) (.slice g2_a g2_l g2_c) Na1.out Na2.out Ng1.out Ng2.out).mono ?_
  rintro e U29 ⟨rfl, hb⟩
  replace B := aB B hb
  replace Jx := aJ Jx hb
  replace Jy := aJ Jy hb
  replace Ja := aJ Ja hb
  replace Jb := aJ Jb hb
  replace Js := aJ Js hb
  replace Na1 := aN Na1 hb
  replace Na2 := aN Na2 hb
  replace Ng1 := aN Ng1 hb
  replace Ng2 := aN Ng2 hb
  clear hb
  obtain ⟨zx_0, zx_1⟩ := cJ Jx
  obtain ⟨zy_0, zy_1⟩ := cJ Jy
  go_wp2_with fail
  clear zx_0 zx_1 zy_0 zy_1
  refine (F35.out U29).mono ?_
  rintro e U30 ⟨rfl, hb⟩
  replace B := aB B hb
  replace Jx := aJ Jx hb
  replace Jy := aJ Jy hb
  replace Ja := aJ Ja hb
  replace Jb := aJ Jb hb
  replace Js := aJ Js hb
  replace Na1 := aN Na1 hb
  replace Na2 := aN Na2 hb
  replace Ng1 := aN Ng1 hb
  replace Ng2 := aN Ng2 hb
  clear hb
  obtain ⟨zs_0, zs_1⟩ := cJ Js
  have f0 := fJ Js
  have hBut : But (b15) U30 ((U30.setCell ⟨b15, 0, none⟩ (.string M1)).setCell ⟨b15, 1, none⟩ (.string M2)) := (((But.refl _ U30).setCell 0 (.string M1)).setCell 1 (.string M2))
  have I4 : Hid (IHolds _ (b15) 41 [(.string M1), (.string M2)]) := ((Js.out.set 0 (.string M1)).set 1 (.string M2))
  replace B : Hid (Below w.heap.size w ((U30.setCell ⟨b15, 0, none⟩ (.string M1)).setCell ⟨b15, 1, none⟩ (.string M2))) := ((B.out.setCell (by first | exact Nat.le_refl _ | exact ge_s.out | (show w.heap.size ≤ b15; omega)) _).setCell (by first | exact Nat.le_refl _ | exact ge_s.out | (show w.heap.size ≤ b15; omega)) _)
  replace Jx := tJ Jx hBut (by first | omega | exact ne_x_s.out | exact fun h => ne_s_x.out h.symm)
  replace Jy := tJ Jy hBut (by first | omega | exact ne_y_s.out | exact fun h => ne_s_y.out h.symm)
  replace Ja := tJ Ja hBut (by first | omega | exact ne_a_s.out | exact fun h => ne_s_a.out h.symm)
  replace Jb := tJ Jb hBut (by first | omega | exact ne_b_s.out | exact fun h => ne_s_b.out h.symm)
  replace Na1 := tN Na1 Js (by simp) hBut
  replace Na2 := tN Na2 Js (by simp) hBut
  replace Ng1 := tN Ng1 Js (by simp) hBut
  replace Ng2 := tN Ng2 Js (by simp) hBut
  replace Js := I4
  clear I4 hBut
  obtain ⟨zaa_0, zaa_1⟩ := cJ Ja
  obtain ⟨zab_0, zab_1⟩ := cJ Jb
  go_wp2_with fail
  clear zaa_0 zaa_1 zab_0 zab_1
  clear zs_0 zs_1
  clear f0
  generalize ((U30.setCell ⟨b15, 0, none⟩ (.string M1)).setCell ⟨b15, 1, none⟩ (.string M2)) = U31 at *
  refine (G34.out U31 (.slice a1_a a1_l a1_c) (.slice a2_a a2_l a2_c) (.slice g1_a g1_l g1_c) (.slice g2_a g2_l g2_c) Na1.out Na2.out Ng1.out Ng2.out).mono ?_
  rintro e U32 ⟨rfl, hb⟩
  replace B := aB B hb
  replace Jx := aJ Jx hb
  replace Jy := aJ Jy hb
  replace Ja := aJ Ja hb
  replace Jb := aJ Jb hb
  replace Js := aJ Js hb
  replace Na1 := aN Na1 hb
  replace Na2 := aN Na2 hb
  replace Ng1 := aN Ng1 hb
  replace Ng2 := aN Ng2 hb
  clear hb
  go_wp2_with fail
  have hb := dB U32
  replace B := aB B hb
  replace Jx := aJ Jx hb
  replace Jy := aJ Jy hb
  replace Ja := aJ Ja hb
  replace Jb := aJ Jb hb
  replace Js := aJ Js hb
  replace Na1 := aN Na1 hb
  replace Na2 := aN Na2 hb
  replace Ng1 := aN Ng1 hb
  replace Ng2 := aN Ng2 hb
  clear hb
  refine wp_region_held_drew (S := fun W => (IHolds W (b15) 41 [(.string M1), (.string M2)]) ∧ (IHolds W (b7) 43 [(.slice a1_a a1_l a1_c), (.slice a2_a a2_l a2_c)]) ∧ (IHolds W (b7 + 1) 43 [(.slice g1_a g1_l g1_c), (.slice g2_a g2_l g2_c)])) (by kernel_rfl) ⟨Js.out, Ja.out, Jb.out⟩ (fun hHeld12 => ?_)
  generalize U32.drew = U35 at *
  refine tk (i := 0) (v := .agg #[(.string M1), (.string M2)]) rfl (by kernel_rfl) (fun _ _ _ h => h) rfl ?_ hHeld12 ?_
  · intro W hS; obtain ⟨zs_0, zs_1⟩ := c2 hS.1; go_simp
  simp only [Act.put, y1, y2, y3, y4, y5, y6, y7]
  refine tk (i := 1) (v := (.int .i64 0)) rfl (by kernel_rfl) (fun _ _ _ h => h) rfl ?_ hHeld12 ?_
  · intro W hS; go_simp
  simp only [Act.put, y1, y2, y3, y4, y5, y6, y7]
  refine tk (i := 2) (v := (.int .i64 0)) rfl (by kernel_rfl) (fun _ _ _ h => h) rfl ?_ hHeld12 ?_
  · intro W hS; go_simp
  simp only [Act.put, y1, y2, y3, y4, y5, y6, y7]
  refine tk (i := 3) (v := .agg #[(.slice a1_a a1_l a1_c), (.slice a2_a a2_l a2_c)]) rfl (by kernel_rfl) (fun _ _ _ h => h) rfl ?_ hHeld12 ?_
  · intro W hS; obtain ⟨za_0, za_1⟩ := c2 hS.2.1; go_simp
  simp only [Act.put, y1, y2, y3, y4, y5, y6, y7]
  refine tk (i := 4) (v := .agg #[(.slice g1_a g1_l g1_c), (.slice g2_a g2_l g2_c)]) rfl (by kernel_rfl) (fun _ _ _ h => h) rfl ?_ hHeld12 ?_
  · intro W hS; obtain ⟨zb_0, zb_1⟩ := c2 hS.2.2; go_simp
  simp only [Act.put, y1, y2, y3, y4, y5, y6, y7]
  refine wpAnyH_ready (rs := [5]) (by kernel_rfl) (by simp) ?_
  refine AllReadyH.cons rfl (fun K hK => ?_) AllReadyH.nil
  clear hHeld12
  go_simp
  refine (G36.out U35 (.slice a1_a a1_l a1_c) (.slice a2_a a2_l a2_c) (.slice g1_a g1_l g1_c) (.slice g2_a g2_l g2_c) Na1.out Na2.out Ng1.out Ng2.out).mono ?_
  rintro e U36 ⟨⟨r33, r34, rfl, hv, hv'⟩, hb⟩
  have Nr33 : Hid (NumV U36 10 (NM) r33) := hv
  have Nr34 : Hid (NumV U36 10 (DM) r34) := hv'
  clear hv hv'
  replace B := aB B hb
  replace Jx := aJ Jx hb
  replace Jy := aJ Jy hb
  replace Ja := aJ Ja hb
  replace Jb := aJ Jb hb
  replace Js := aJ Js hb
  replace Na1 := aN Na1 hb
  replace Na2 := aN Na2 hb
  replace Ng1 := aN Ng1 hb
  replace Ng2 := aN Ng2 hb
  clear hb
  go_wp2_with fail
  refine hK.out _ _ (⟨Js.out, Ja.out, Jb.out⟩) (fun hHeld13 => ?_)
  clear hK K
  try simp only [Act.put, y1, y2, y3, y4, y5, y6, y7]
  refine wpAnyH_ready (rs := [6]) (by kernel_rfl) (by simp) ?_
  refine AllReadyH.cons rfl (fun K hK => ?_) AllReadyH.nil
  clear hHeld13
  go_simp
  refine (TM.out U36 r33 r34 Nr33.out Nr34.out).mono ?_
  rintro e U37 ⟨rfl, hb⟩
  replace B := aB B hb
  replace Jx := aJ Jx hb
  replace Jy := aJ Jy hb
  replace Ja := aJ Ja hb
  replace Jb := aJ Jb hb
  replace Js := aJ Js hb
  replace Na1 := aN Na1 hb
  replace Na2 := aN Na2 hb
  replace Ng1 := aN Ng1 hb
  replace Ng2 := aN Ng2 hb
  replace Nr33 := aN Nr33 hb
  replace Nr34 := aN Nr34 hb
  clear hb
  go_wp2_with fail
  refine hK.out _ _ (⟨Js.out, Ja.out, Jb.out⟩) (fun hHeld14 => ?_)
  clear hK K
  try simp only [Act.put, y1, y2, y3, y4, y5, y6, y7]
  refine tk (i := 7) (v := (.bool false)) rfl (by kernel_rfl) (fun _ _ _ h => h) rfl ?_ hHeld14 ?_
  · intro W hS; go_simp
  simp only [Act.put, y1, y2, y3, y4, y5, y6, y7]
  refine wpAnyH_done (by kernel_rfl) ?_ _
  clear hHeld14
  clear Nr33
  clear Nr34
  obtain ⟨zx_0, zx_1⟩ := cJ Jx
  obtain ⟨zy_0, zy_1⟩ := cJ Jy
  go_wp2_with fail
  clear zx_0 zx_1 zy_0 zy_1
  refine (F37.out U37).mono ?_
  rintro e U38 ⟨rfl, hb⟩
  replace B := aB B hb
  replace Jx := aJ Jx hb
  replace Jy := aJ Jy hb
  replace Ja := aJ Ja hb
  replace Jb := aJ Jb hb
  replace Js := aJ Js hb
  replace Na1 := aN Na1 hb
  replace Na2 := aN Na2 hb
  replace Ng1 := aN Ng1 hb
  replace Ng2 := aN Ng2 hb
  clear hb
  have hl : g1_l = (dg 10 U).length := by obtain ⟨a, cap, h, _⟩ := Ng1.out; injection h
  have hq : ((g1_l : Int) == 0) = true := by have := hU0.out; rw [hl, this]; rfl
  clear hl
  obtain ⟨zs_0, zs_1⟩ := cJ Js
  have f0 := fJ Js
  have hBut : But (b15) U38 ((U38.setCell ⟨b15, 0, none⟩ (.string ⟨#[]⟩)).setCell ⟨b15, 1, none⟩ (.string ⟨#[]⟩)) := (((But.refl _ U38).setCell 0 (.string ⟨#[]⟩)).setCell 1 (.string ⟨#[]⟩))
  have I4 : Hid (IHolds _ (b15) 41 [(.string ⟨#[]⟩), (.string ⟨#[]⟩)]) := ((Js.out.set 0 (.string ⟨#[]⟩)).set 1 (.string ⟨#[]⟩))
  replace B : Hid (Below w.heap.size w ((U38.setCell ⟨b15, 0, none⟩ (.string ⟨#[]⟩)).setCell ⟨b15, 1, none⟩ (.string ⟨#[]⟩))) := ((B.out.setCell (by first | exact Nat.le_refl _ | exact ge_s.out | (show w.heap.size ≤ b15; omega)) _).setCell (by first | exact Nat.le_refl _ | exact ge_s.out | (show w.heap.size ≤ b15; omega)) _)
  replace Jx := tJ Jx hBut (by first | omega | exact ne_x_s.out | exact fun h => ne_s_x.out h.symm)
  replace Jy := tJ Jy hBut (by first | omega | exact ne_y_s.out | exact fun h => ne_s_y.out h.symm)
  replace Ja := tJ Ja hBut (by first | omega | exact ne_a_s.out | exact fun h => ne_s_a.out h.symm)
  replace Jb := tJ Jb hBut (by first | omega | exact ne_b_s.out | exact fun h => ne_s_b.out h.symm)
  replace Na1 := tN Na1 Js (by simp) hBut
  replace Na2 := tN Na2 Js (by simp) hBut
  replace Ng1 := tN Ng1 Js (by simp) hBut
  replace Ng2 := tN Ng2 Js (by simp) hBut
  replace Js := I4
  clear I4 hBut
  obtain ⟨zab_0, zab_1⟩ := cJ Jb
  obtain ⟨zas_0, zas_1⟩ := cJ Js
  obtain ⟨zaa_0, zaa_1⟩ := cJ Ja
  go_wp2_with fail
  clear zab_0 zab_1 zas_0 zas_1 zaa_0 zaa_1
  clear zs_0 zs_1
  clear f0
  generalize ((U38.setCell ⟨b15, 0, none⟩ (.string ⟨#[]⟩)).setCell ⟨b15, 1, none⟩ (.string ⟨#[]⟩)) = U39 at *
  refine (T5.out U39 _ _).mono ?_
  rintro e U40 ⟨rfl, hb⟩
  replace B := aB B hb
  replace Jx := aJ Jx hb
  replace Jy := aJ Jy hb
  replace Ja := aJ Ja hb
  replace Jb := aJ Jb hb
  replace Js := aJ Js hb
  replace Na1 := aN Na1 hb
  replace Na2 := aN Na2 hb
  replace Ng1 := aN Ng1 hb
  replace Ng2 := aN Ng2 hb
  clear hb
  go_wp2_with fail
  go_ret
  exact ⟨rfl, B.out⟩
end Go.Proofs.YtnahindcgedbaaaDoor
