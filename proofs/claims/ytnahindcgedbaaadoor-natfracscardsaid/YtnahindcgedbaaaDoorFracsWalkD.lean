/- The walk of NatFracs. -/
import Derived.Test.YtnahindcgedbaaaDoorFracsWalkA
import Derived.Test.YtnahindcgedbaaaDoorTold
import Derived.Test.YtnahindcgedbaaaDoorRefWhole
import Derived.Test.YtnahindcgedbaaaDoorRefPlus
set_option linter.unusedSimpArgs false
set_option linter.unusedVariables false
namespace Go.Proofs.YtnahindcgedbaaaDoor
open Go.RowKit Go.Deep Go.PlainAid


set_option maxRecDepth 100000 in
set_option maxHeartbeats 8000000 in
theorem fracs_bad1 {n1 d1 n2 d2 : ByteArray} {w : World} {A B1 U V NP DP NQ DQ NM DM NO DO : Nat} {P1 P2 Q1 Q2 M1 M2 O1 O2 : ByteArray} {z : Int}
    (x : Int) (hx : (x == 0) = false) (hx1 : (x != 0) = true)
    (F25a : Hid (∀ W, Calls Tryd.prog 25 #[.string n1, .string d1] W fun e w' => e = .returned (.int .i64 x) ∧ Below W.heap.size W w'))
    (F26 : Hid (∀ W, Calls Tryd.prog 26 #[.int .i64 1] W fun e w' => (∃ u1 u2, e = .returned (.agg #[u1, u2]) ∧ NumV w' 10 1 u1 ∧ NumV w' 10 1 u2) ∧ Below W.heap.size W w'))
    (F28 : Hid (∀ W, Calls Tryd.prog 28 #[.agg #[.string n1, .string d1], .agg #[.string n2, .string d2]] W fun e w' => e = .returned (.tuple #[.agg #[(.string ⟨#[]⟩), (.string ⟨#[]⟩)], .int .i64 x]) ∧ Below W.heap.size W w'))
    (F31 : Hid (∀ W, Calls Tryd.prog 31 #[.agg #[.string n1, .string d1], .agg #[.string n2, .string d2]] W fun e w' => e = .returned (.tuple #[.agg #[(.string ⟨#[]⟩), (.string ⟨#[]⟩)], .int .i64 x]) ∧ Below W.heap.size W w'))
    (F35 : Hid (∀ W, Calls Tryd.prog 35 #[.agg #[.string n1, .string d1], .agg #[.string n2, .string d2]] W fun e w' => e = .returned (.tuple #[.agg #[(.string ⟨#[]⟩), (.string ⟨#[]⟩)], .int .i64 x]) ∧ Below W.heap.size W w'))
    (F37 : Hid (∀ W, Calls Tryd.prog 37 #[.agg #[.string n1, .string d1], .agg #[.string n2, .string d2]] W fun e w' => e = .returned (.tuple #[.agg #[(.string ⟨#[]⟩), (.string ⟨#[]⟩)], .int .i64 x]) ∧ Below W.heap.size W w'))
    (F33 : Hid (∀ W, Calls Tryd.prog 33 #[.agg #[.string n1, .string d1], .agg #[.string n2, .string d2]] W fun e w' => e = .returned (.tuple #[.int .i64 z, .int .i64 x]) ∧ Below W.heap.size W w'))
    (G30 : Hid (∀ W p1 p2 p3 p4, NumV W 10 A p1 → NumV W 10 B1 p2 → NumV W 10 U p3 → NumV W 10 V p4 → Calls Tryd.prog 30 #[.agg #[p1, p2], .agg #[p3, p4]] W fun e w' => (∃ u1 u2, e = .returned (.agg #[u1, u2]) ∧ NumV w' 10 NP u1 ∧ NumV w' 10 DP u2) ∧ Below W.heap.size W w'))
    (G32 : Hid (∀ W p1 p2 p3 p4, NumV W 10 A p1 → NumV W 10 B1 p2 → NumV W 10 U p3 → NumV W 10 V p4 → Calls Tryd.prog 32 #[.agg #[p1, p2], .agg #[p3, p4]] W fun e w' => (∃ u1 u2, e = .returned (.agg #[u1, u2]) ∧ NumV w' 10 NQ u1 ∧ NumV w' 10 DQ u2) ∧ Below W.heap.size W w'))
    (G36 : Hid (∀ W p1 p2 p3 p4, NumV W 10 A p1 → NumV W 10 B1 p2 → NumV W 10 U p3 → NumV W 10 V p4 → Calls Tryd.prog 36 #[.agg #[p1, p2], .agg #[p3, p4]] W fun e w' => (∃ u1 u2, e = .returned (.agg #[u1, u2]) ∧ NumV w' 10 NM u1 ∧ NumV w' 10 DM u2) ∧ Below W.heap.size W w'))
    (G38 : Hid (∀ W p1 p2 p3 p4, NumV W 10 A p1 → NumV W 10 B1 p2 → NumV W 10 U p3 → NumV W 10 V p4 → Calls Tryd.prog 38 #[.agg #[p1, p2], .agg #[p3, p4]] W fun e w' => (∃ u1 u2, e = .returned (.agg #[u1, u2]) ∧ NumV w' 10 NO u1 ∧ NumV w' 10 DO u2) ∧ Below W.heap.size W w'))
    (G34 : Hid (∀ W p1 p2 p3 p4, NumV W 10 A p1 → NumV W 10 B1 p2 → NumV W 10 U p3 → NumV W 10 V p4 → Calls Tryd.prog 34 #[.agg #[p1, p2], .agg #[p3, p4]] W fun e w' => e = .returned (.int .i64 z) ∧ Below W.heap.size W w'))
    (TB : Hid (∀ W p1 p2, Calls Tryd.prog 29 #[.agg #[.string ⟨#[]⟩, .string ⟨#[]⟩], .int .i64 x, .int .i64 x, .agg #[p1, p2]] W fun e w' => e = .returned (.bool true) ∧ Below W.heap.size W w'))
    (hA : A = 1) (hB : B1 = 1) (hU : U = 1) (hV : V = 1) :
    Calls Tryd.prog 5 #[.agg #[.string n1, .string d1], .agg #[.string n2, .string d2]] w fun e w' => e = .returned (.bool true) ∧ Below w.heap.size w w' := by
  subst hA hB hU hV
  go_enter Tryd.func5, Tryd.ntmps5
  go_wp2_with fail
  obtain ⟨U1, hU1⟩ : ∃ X, X = ((w.alloc (.cells #[(.string n1), (.string d1)] 41)).alloc (.cells #[(.string n2), (.string d2)] 41)) := ⟨_, rfl⟩
  have Jx : Hid (IHolds U1 (w.heap.size) 41 [(.string n1), (.string d1)]) := by
    have q := IHolds.new w 41 [(.string n1), (.string d1)]
    show IHolds _ _ _ _
    rw [hU1]
    exact (q.alloc _)
  have Jy : Hid (IHolds U1 (w.heap.size + 1) 41 [(.string n2), (.string d2)]) := by
    have q := IHolds.new (w.alloc (.cells #[(.string n1), (.string d1)] 41)) 41 [(.string n2), (.string d2)]
    simp only [World.size_alloc, Nat.add_assoc, Nat.reduceAdd] at q
    show IHolds _ _ _ _
    rw [hU1]
    exact q
  have B : Hid (Below w.heap.size w U1) := by
    show Below _ _ _
    rw [hU1]
    exact (((Below.refl _ w).alloc (Nat.le_refl _) _).alloc (by simp only [World.size_alloc]; omega) _)
  rw [← hU1]
  clear hU1
  refine (F25a.out U1).mono ?_
  rintro e U2 ⟨rfl, hb⟩
  replace B := aB B hb
  replace Jx := aJ Jx hb
  replace Jy := aJ Jy hb
  clear hb
  go_wp2_with fail
  refine (F26.out U2).mono ?_
  rintro e U3 ⟨⟨q1, q2, rfl, hv, hv'⟩, hb⟩
  have Nq1 : Hid (NumV U3 10 (1) q1) := hv
  have Nq2 : Hid (NumV U3 10 (1) q2) := hv'
  clear hv hv'
  replace B := aB B hb
  replace Jx := aJ Jx hb
  replace Jy := aJ Jy hb
  clear hb
  go_wp2_with fail
  refine (F26.out U3).mono ?_
  rintro e U4 ⟨⟨q3, q4, rfl, hv, hv'⟩, hb⟩
  have Nq3 : Hid (NumV U4 10 (1) q3) := hv
  have Nq4 : Hid (NumV U4 10 (1) q4) := hv'
  clear hv hv'
  replace B := aB B hb
  replace Jx := aJ Jx hb
  replace Jy := aJ Jy hb
  replace Nq1 := aN Nq1 hb
  replace Nq2 := aN Nq2 hb
  clear hb
  obtain ⟨q1_a, q1_l, q1_c, rfl⟩ := sN Nq1
  obtain ⟨q2_a, q2_l, q2_c, rfl⟩ := sN Nq2
  obtain ⟨q3_a, q3_l, q3_c, rfl⟩ := sN Nq3
  obtain ⟨q4_a, q4_l, q4_c, rfl⟩ := sN Nq4
  have hb : Below U4.heap.size U4 ((U4.alloc (.cells #[(.slice q1_a q1_l q1_c), (.slice q2_a q2_l q2_c)] 43)).alloc (.cells #[(.slice q3_a q3_l q3_c), (.slice q4_a q4_l q4_c)] 43)) := ((Below.refl _ U4).alloc (Nat.le_refl _) _).alloc (by simp) _
  have Ja : Hid (IHolds ((U4.alloc (.cells #[(.slice q1_a q1_l q1_c), (.slice q2_a q2_l q2_c)] 43)).alloc (.cells #[(.slice q3_a q3_l q3_c), (.slice q4_a q4_l q4_c)] 43)) U4.heap.size 43 [(.slice q1_a q1_l q1_c), (.slice q2_a q2_l q2_c)]) := (IHolds.new _ _ _).alloc _
  have Jb : Hid (IHolds ((U4.alloc (.cells #[(.slice q1_a q1_l q1_c), (.slice q2_a q2_l q2_c)] 43)).alloc (.cells #[(.slice q3_a q3_l q3_c), (.slice q4_a q4_l q4_c)] 43)) (U4.heap.size + 1) 43 [(.slice q3_a q3_l q3_c), (.slice q4_a q4_l q4_c)]) := by
    have q := IHolds.new (U4.alloc (.cells #[(.slice q1_a q1_l q1_c), (.slice q2_a q2_l q2_c)] 43)) 43 [(.slice q3_a q3_l q3_c), (.slice q4_a q4_l q4_c)]
    rw [World.size_alloc] at q
    exact q
  have ne_x_a : Hid ((w.heap.size) ≠ U4.heap.size) := by have := Jx.out.lt; show _ ≠ _; omega
  have ne_x_b : Hid ((w.heap.size) ≠ U4.heap.size + 1) := by have := Jx.out.lt; show _ ≠ _; omega
  have ne_y_a : Hid ((w.heap.size + 1) ≠ U4.heap.size) := by have := Jy.out.lt; show _ ≠ _; omega
  have ne_y_b : Hid ((w.heap.size + 1) ≠ U4.heap.size + 1) := by have := Jy.out.lt; show _ ≠ _; omega
  have ge_a : Hid (w.heap.size ≤ U4.heap.size) := B.out.size
  have ge_b : Hid (w.heap.size ≤ U4.heap.size + 1) := Nat.le_succ_of_le B.out.size
  replace B := aB B hb
  replace Jx := aJ Jx hb
  replace Jy := aJ Jy hb
  replace Nq1 := aN Nq1 hb
  replace Nq2 := aN Nq2 hb
  replace Nq3 := aN Nq3 hb
  replace Nq4 := aN Nq4 hb
  clear hb
  obtain ⟨zx_0, zx_1⟩ := cJ Jx
  obtain ⟨zy_0, zy_1⟩ := cJ Jy
  go_wp2_with fail
  clear zx_0 zx_1 zy_0 zy_1
  generalize ((U4.alloc (.cells #[(.slice q1_a q1_l q1_c), (.slice q2_a q2_l q2_c)] 43)).alloc (.cells #[(.slice q3_a q3_l q3_c), (.slice q4_a q4_l q4_c)] 43)) = U5 at *
  generalize U4.heap.size = b6 at *
  refine (F28.out U5).mono ?_
  rintro e U7 ⟨rfl, hb⟩
  replace B := aB B hb
  replace Jx := aJ Jx hb
  replace Jy := aJ Jy hb
  replace Ja := aJ Ja hb
  replace Jb := aJ Jb hb
  replace Nq1 := aN Nq1 hb
  replace Nq2 := aN Nq2 hb
  replace Nq3 := aN Nq3 hb
  replace Nq4 := aN Nq4 hb
  clear hb
  have hb := nB U7 (.cells #[(.string ⟨#[]⟩), (.string ⟨#[]⟩)] 41)
  have Js : Hid (IHolds (U7.alloc (.cells #[(.string ⟨#[]⟩), (.string ⟨#[]⟩)] 41)) U7.heap.size 41 [(.string ⟨#[]⟩), (.string ⟨#[]⟩)]) := IHolds.new _ _ _
  have ne_x_s := nJ Jx
  have ne_y_s := nJ Jy
  have ne_a_s := nJ Ja
  have ne_b_s := nJ Jb
  have ge_s : Hid (w.heap.size ≤ U7.heap.size) := B.out.size
  replace B := aB B hb
  replace Jx := aJ Jx hb
  replace Jy := aJ Jy hb
  replace Ja := aJ Ja hb
  replace Jb := aJ Jb hb
  replace Nq1 := aN Nq1 hb
  replace Nq2 := aN Nq2 hb
  replace Nq3 := aN Nq3 hb
  replace Nq4 := aN Nq4 hb
  clear hb
  go_wp2_with fail
  generalize (U7.alloc (.cells #[(.string ⟨#[]⟩), (.string ⟨#[]⟩)] 41)) = U8 at *
  generalize U7.heap.size = b9 at *
  have hb := dB U8
  replace B := aB B hb
  replace Jx := aJ Jx hb
  replace Jy := aJ Jy hb
  replace Ja := aJ Ja hb
  replace Jb := aJ Jb hb
  replace Js := aJ Js hb
  replace Nq1 := aN Nq1 hb
  replace Nq2 := aN Nq2 hb
  replace Nq3 := aN Nq3 hb
  replace Nq4 := aN Nq4 hb
  clear hb
  refine wp_region_held_drew (S := fun W => (IHolds W (b9) 41 [(.string ⟨#[]⟩), (.string ⟨#[]⟩)]) ∧ (IHolds W (b6) 43 [(.slice q1_a q1_l q1_c), (.slice q2_a q2_l q2_c)]) ∧ (IHolds W (b6 + 1) 43 [(.slice q3_a q3_l q3_c), (.slice q4_a q4_l q4_c)])) (by kernel_rfl) ⟨Js.out, Ja.out, Jb.out⟩ (fun hHeld1 => ?_)
  generalize U8.drew = U12 at *
  refine tk (i := 0) (v := .agg #[(.string ⟨#[]⟩), (.string ⟨#[]⟩)]) rfl (by kernel_rfl) (fun _ _ _ h => h) rfl ?_ hHeld1 ?_
  · intro W hS; obtain ⟨zs_0, zs_1⟩ := c2 hS.1; go_simp
  simp only [Act.put, y1, y2, y3, y4, y5, y6, y7]
  refine tk (i := 1) (v := (.int .i64 x)) rfl (by kernel_rfl) (fun _ _ _ h => h) rfl ?_ hHeld1 ?_
  · intro W hS; go_simp
  simp only [Act.put, y1, y2, y3, y4, y5, y6, y7]
  refine tk (i := 2) (v := (.int .i64 x)) rfl (by kernel_rfl) (fun _ _ _ h => h) rfl ?_ hHeld1 ?_
  · intro W hS; go_simp
  simp only [Act.put, y1, y2, y3, y4, y5, y6, y7]
  refine tk (i := 3) (v := .agg #[(.slice q1_a q1_l q1_c), (.slice q2_a q2_l q2_c)]) rfl (by kernel_rfl) (fun _ _ _ h => h) rfl ?_ hHeld1 ?_
  · intro W hS; obtain ⟨za_0, za_1⟩ := c2 hS.2.1; go_simp
  simp only [Act.put, y1, y2, y3, y4, y5, y6, y7]
  refine tk (i := 4) (v := .agg #[(.slice q3_a q3_l q3_c), (.slice q4_a q4_l q4_c)]) rfl (by kernel_rfl) (fun _ _ _ h => h) rfl ?_ hHeld1 ?_
  · intro W hS; obtain ⟨zb_0, zb_1⟩ := c2 hS.2.2; go_simp
  simp only [Act.put, y1, y2, y3, y4, y5, y6, y7]
  refine wpAnyH_ready (rs := [5]) (by kernel_rfl) (by simp) ?_
  refine AllReadyH.cons rfl (fun K hK => ?_) AllReadyH.nil
  clear hHeld1
  go_simp
  refine (G30.out U12 (.slice q1_a q1_l q1_c) (.slice q2_a q2_l q2_c) (.slice q3_a q3_l q3_c) (.slice q4_a q4_l q4_c) Nq1.out Nq2.out Nq3.out Nq4.out).mono ?_
  rintro e U13 ⟨⟨r10, r11, rfl, hv, hv'⟩, hb⟩
  have Nr10 : Hid (NumV U13 10 (NP) r10) := hv
  have Nr11 : Hid (NumV U13 10 (DP) r11) := hv'
  clear hv hv'
  replace B := aB B hb
  replace Jx := aJ Jx hb
  replace Jy := aJ Jy hb
  replace Ja := aJ Ja hb
  replace Jb := aJ Jb hb
  replace Js := aJ Js hb
  replace Nq1 := aN Nq1 hb
  replace Nq2 := aN Nq2 hb
  replace Nq3 := aN Nq3 hb
  replace Nq4 := aN Nq4 hb
  clear hb
  go_wp2_with fail
  refine hK.out _ _ (⟨Js.out, Ja.out, Jb.out⟩) (fun hHeld2 => ?_)
  clear hK K
  try simp only [Act.put, y1, y2, y3, y4, y5, y6, y7]
  refine wpAnyH_ready (rs := [6]) (by kernel_rfl) (by simp) ?_
  refine AllReadyH.cons rfl (fun K hK => ?_) AllReadyH.nil
  clear hHeld2
  go_simp
  refine (TB.out U13 _ _).mono ?_
  rintro e U14 ⟨rfl, hb⟩
  replace B := aB B hb
  replace Jx := aJ Jx hb
  replace Jy := aJ Jy hb
  replace Ja := aJ Ja hb
  replace Jb := aJ Jb hb
  replace Js := aJ Js hb
  replace Nq1 := aN Nq1 hb
  replace Nq2 := aN Nq2 hb
  replace Nq3 := aN Nq3 hb
  replace Nq4 := aN Nq4 hb
  replace Nr10 := aN Nr10 hb
  replace Nr11 := aN Nr11 hb
  clear hb
  go_wp2_with fail
  refine hK.out _ _ (⟨Js.out, Ja.out, Jb.out⟩) (fun hHeld3 => ?_)
  clear hK K
  try simp only [Act.put, y1, y2, y3, y4, y5, y6, y7]
  refine tk (i := 7) (v := (.bool false)) rfl (by kernel_rfl) (fun _ _ _ h => h) rfl ?_ hHeld3 ?_
  · intro W hS; go_simp
  simp only [Act.put, y1, y2, y3, y4, y5, y6, y7]
  refine wpAnyH_done (by kernel_rfl) ?_ _
  clear hHeld3
  clear Nr10
  clear Nr11
  obtain ⟨zx_0, zx_1⟩ := cJ Jx
  obtain ⟨zy_0, zy_1⟩ := cJ Jy
  go_wp2_with fail
  clear zx_0 zx_1 zy_0 zy_1
  refine (F31.out U14).mono ?_
  rintro e U15 ⟨rfl, hb⟩
  replace B := aB B hb
  replace Jx := aJ Jx hb
  replace Jy := aJ Jy hb
  replace Ja := aJ Ja hb
  replace Jb := aJ Jb hb
  replace Js := aJ Js hb
  replace Nq1 := aN Nq1 hb
  replace Nq2 := aN Nq2 hb
  replace Nq3 := aN Nq3 hb
  replace Nq4 := aN Nq4 hb
  clear hb
  obtain ⟨zs_0, zs_1⟩ := cJ Js
  have f0 := fJ Js
  have hBut : But (b9) U15 ((U15.setCell ⟨b9, 0, none⟩ (.string ⟨#[]⟩)).setCell ⟨b9, 1, none⟩ (.string ⟨#[]⟩)) := (((But.refl _ U15).setCell 0 (.string ⟨#[]⟩)).setCell 1 (.string ⟨#[]⟩))
  have I4 : Hid (IHolds _ (b9) 41 [(.string ⟨#[]⟩), (.string ⟨#[]⟩)]) := ((Js.out.set 0 (.string ⟨#[]⟩)).set 1 (.string ⟨#[]⟩))
  replace B : Hid (Below w.heap.size w ((U15.setCell ⟨b9, 0, none⟩ (.string ⟨#[]⟩)).setCell ⟨b9, 1, none⟩ (.string ⟨#[]⟩))) := ((B.out.setCell (by first | exact Nat.le_refl _ | exact ge_s.out | (show w.heap.size ≤ b9; omega)) _).setCell (by first | exact Nat.le_refl _ | exact ge_s.out | (show w.heap.size ≤ b9; omega)) _)
  replace Jx := tJ Jx hBut (by first | omega | exact ne_x_s.out | exact fun h => ne_s_x.out h.symm)
  replace Jy := tJ Jy hBut (by first | omega | exact ne_y_s.out | exact fun h => ne_s_y.out h.symm)
  replace Ja := tJ Ja hBut (by first | omega | exact ne_a_s.out | exact fun h => ne_s_a.out h.symm)
  replace Jb := tJ Jb hBut (by first | omega | exact ne_b_s.out | exact fun h => ne_s_b.out h.symm)
  replace Nq1 := tN Nq1 Js (by simp) hBut
  replace Nq2 := tN Nq2 Js (by simp) hBut
  replace Nq3 := tN Nq3 Js (by simp) hBut
  replace Nq4 := tN Nq4 Js (by simp) hBut
  replace Js := I4
  clear I4 hBut
  go_wp2_with fail
  clear zs_0 zs_1
  clear f0
  generalize ((U15.setCell ⟨b9, 0, none⟩ (.string ⟨#[]⟩)).setCell ⟨b9, 1, none⟩ (.string ⟨#[]⟩)) = U16 at *
  have hb := dB U16
  replace B := aB B hb
  replace Jx := aJ Jx hb
  replace Jy := aJ Jy hb
  replace Ja := aJ Ja hb
  replace Jb := aJ Jb hb
  replace Js := aJ Js hb
  replace Nq1 := aN Nq1 hb
  replace Nq2 := aN Nq2 hb
  replace Nq3 := aN Nq3 hb
  replace Nq4 := aN Nq4 hb
  clear hb
  refine wp_region_held_drew (S := fun W => (IHolds W (b9) 41 [(.string ⟨#[]⟩), (.string ⟨#[]⟩)]) ∧ (IHolds W (b6) 43 [(.slice q1_a q1_l q1_c), (.slice q2_a q2_l q2_c)]) ∧ (IHolds W (b6 + 1) 43 [(.slice q3_a q3_l q3_c), (.slice q4_a q4_l q4_c)])) (by kernel_rfl) ⟨Js.out, Ja.out, Jb.out⟩ (fun hHeld4 => ?_)
  generalize U16.drew = U19 at *
  refine tk (i := 0) (v := .agg #[(.string ⟨#[]⟩), (.string ⟨#[]⟩)]) rfl (by kernel_rfl) (fun _ _ _ h => h) rfl ?_ hHeld4 ?_
  · intro W hS; obtain ⟨zs_0, zs_1⟩ := c2 hS.1; go_simp
  simp only [Act.put, y1, y2, y3, y4, y5, y6, y7]
  refine tk (i := 1) (v := (.int .i64 x)) rfl (by kernel_rfl) (fun _ _ _ h => h) rfl ?_ hHeld4 ?_
  · intro W hS; go_simp
  simp only [Act.put, y1, y2, y3, y4, y5, y6, y7]
  refine tk (i := 2) (v := (.int .i64 x)) rfl (by kernel_rfl) (fun _ _ _ h => h) rfl ?_ hHeld4 ?_
  · intro W hS; go_simp
  simp only [Act.put, y1, y2, y3, y4, y5, y6, y7]
  refine tk (i := 3) (v := .agg #[(.slice q1_a q1_l q1_c), (.slice q2_a q2_l q2_c)]) rfl (by kernel_rfl) (fun _ _ _ h => h) rfl ?_ hHeld4 ?_
  · intro W hS; obtain ⟨za_0, za_1⟩ := c2 hS.2.1; go_simp
  simp only [Act.put, y1, y2, y3, y4, y5, y6, y7]
  refine tk (i := 4) (v := .agg #[(.slice q3_a q3_l q3_c), (.slice q4_a q4_l q4_c)]) rfl (by kernel_rfl) (fun _ _ _ h => h) rfl ?_ hHeld4 ?_
  · intro W hS; obtain ⟨zb_0, zb_1⟩ := c2 hS.2.2; go_simp
  simp only [Act.put, y1, y2, y3, y4, y5, y6, y7]
  refine wpAnyH_ready (rs := [5]) (by kernel_rfl) (by simp) ?_
  refine AllReadyH.cons rfl (fun K hK => ?_) AllReadyH.nil
  clear hHeld4
  go_simp
  refine (G32.out U19 (.slice q1_a q1_l q1_c) (.slice q2_a q2_l q2_c) (.slice q3_a q3_l q3_c) (.slice q4_a q4_l q4_c) Nq1.out Nq2.out Nq3.out Nq4.out).mono ?_
  rintro e U20 ⟨⟨r17, r18, rfl, hv, hv'⟩, hb⟩
  have Nr17 : Hid (NumV U20 10 (NQ) r17) := hv
  have Nr18 : Hid (NumV U20 10 (DQ) r18) := hv'
  clear hv hv'
  replace B := aB B hb
  replace Jx := aJ Jx hb
  replace Jy := aJ Jy hb
  replace Ja := aJ Ja hb
  replace Jb := aJ Jb hb
  replace Js := aJ Js hb
  replace Nq1 := aN Nq1 hb
  replace Nq2 := aN Nq2 hb
  replace Nq3 := aN Nq3 hb
  replace Nq4 := aN Nq4 hb
  clear hb
  go_wp2_with fail
  refine hK.out _ _ (⟨Js.out, Ja.out, Jb.out⟩) (fun hHeld5 => ?_)
  clear hK K
  try simp only [Act.put, y1, y2, y3, y4, y5, y6, y7]
  refine wpAnyH_ready (rs := [6]) (by kernel_rfl) (by simp) ?_
  refine AllReadyH.cons rfl (fun K hK => ?_) AllReadyH.nil
  clear hHeld5
  go_simp
  refine (TB.out U20 _ _).mono ?_
  rintro e U21 ⟨rfl, hb⟩
  replace B := aB B hb
  replace Jx := aJ Jx hb
  replace Jy := aJ Jy hb
  replace Ja := aJ Ja hb
  replace Jb := aJ Jb hb
  replace Js := aJ Js hb
  replace Nq1 := aN Nq1 hb
  replace Nq2 := aN Nq2 hb
  replace Nq3 := aN Nq3 hb
  replace Nq4 := aN Nq4 hb
  replace Nr17 := aN Nr17 hb
  replace Nr18 := aN Nr18 hb
  clear hb
  go_wp2_with fail
  refine hK.out _ _ (⟨Js.out, Ja.out, Jb.out⟩) (fun hHeld6 => ?_)
  clear hK K
  try simp only [Act.put, y1, y2, y3, y4, y5, y6, y7]
  refine tk (i := 7) (v := (.bool false)) rfl (by kernel_rfl) (fun _ _ _ h => h) rfl ?_ hHeld6 ?_
  · intro W hS; go_simp
  simp only [Act.put, y1, y2, y3, y4, y5, y6, y7]
  refine wpAnyH_done (by kernel_rfl) ?_ _
  clear hHeld6
  clear Nr17
  clear Nr18
  obtain ⟨zx_0, zx_1⟩ := cJ Jx
  obtain ⟨zy_0, zy_1⟩ := cJ Jy
  go_wp2_with fail
  clear zx_0 zx_1 zy_0 zy_1
  refine (F33.out U21).mono ?_
  rintro e U22 ⟨rfl, hb⟩
  replace B := aB B hb
  replace Jx := aJ Jx hb
  replace Jy := aJ Jy hb
  replace Ja := aJ Ja hb
  replace Jb := aJ Jb hb
  replace Js := aJ Js hb
  replace Nq1 := aN Nq1 hb
  replace Nq2 := aN Nq2 hb
  replace Nq3 := aN Nq3 hb
  replace Nq4 := aN Nq4 hb
  clear hb
  obtain ⟨za_0, za_1⟩ := cJ Ja
  obtain ⟨zb_0, zb_1⟩ := cJ Jb
  go_wp2_with fail
  clear za_0 za_1 zb_0 zb_1
  refine (G34.out U22 (.slice q1_a q1_l q1_c) (.slice q2_a q2_l q2_c) (.slice q3_a q3_l q3_c) (.slice q4_a q4_l q4_c) Nq1.out Nq2.out Nq3.out Nq4.out).mono ?_
  rintro e U23 ⟨rfl, hb⟩
  replace B := aB B hb
  replace Jx := aJ Jx hb
  replace Jy := aJ Jy hb
  replace Ja := aJ Ja hb
  replace Jb := aJ Jb hb
  replace Js := aJ Js hb
  replace Nq1 := aN Nq1 hb
  replace Nq2 := aN Nq2 hb
  replace Nq3 := aN Nq3 hb
  replace Nq4 := aN Nq4 hb
  clear hb
  obtain ⟨zx_0, zx_1⟩ := cJ Jx
  obtain ⟨zy_0, zy_1⟩ := cJ Jy
  go_wp2_with fail
  clear zx_0 zx_1 zy_0 zy_1
  refine (F35.out U23).mono ?_
  rintro e U24 ⟨rfl, hb⟩
  replace B := aB B hb
  replace Jx := aJ Jx hb
  replace Jy := aJ Jy hb
  replace Ja := aJ Ja hb
  replace Jb := aJ Jb hb
  replace Js := aJ Js hb
  replace Nq1 := aN Nq1 hb
  replace Nq2 := aN Nq2 hb
  replace Nq3 := aN Nq3 hb
  replace Nq4 := aN Nq4 hb
  clear hb
  obtain ⟨zs_0, zs_1⟩ := cJ Js
  have f0 := fJ Js
  have hBut : But (b9) U24 ((U24.setCell ⟨b9, 0, none⟩ (.string ⟨#[]⟩)).setCell ⟨b9, 1, none⟩ (.string ⟨#[]⟩)) := (((But.refl _ U24).setCell 0 (.string ⟨#[]⟩)).setCell 1 (.string ⟨#[]⟩))
  have I4 : Hid (IHolds _ (b9) 41 [(.string ⟨#[]⟩), (.string ⟨#[]⟩)]) := ((Js.out.set 0 (.string ⟨#[]⟩)).set 1 (.string ⟨#[]⟩))
  replace B : Hid (Below w.heap.size w ((U24.setCell ⟨b9, 0, none⟩ (.string ⟨#[]⟩)).setCell ⟨b9, 1, none⟩ (.string ⟨#[]⟩))) := ((B.out.setCell (by first | exact Nat.le_refl _ | exact ge_s.out | (show w.heap.size ≤ b9; omega)) _).setCell (by first | exact Nat.le_refl _ | exact ge_s.out | (show w.heap.size ≤ b9; omega)) _)
  replace Jx := tJ Jx hBut (by first | omega | exact ne_x_s.out | exact fun h => ne_s_x.out h.symm)
  replace Jy := tJ Jy hBut (by first | omega | exact ne_y_s.out | exact fun h => ne_s_y.out h.symm)
  replace Ja := tJ Ja hBut (by first | omega | exact ne_a_s.out | exact fun h => ne_s_a.out h.symm)
  replace Jb := tJ Jb hBut (by first | omega | exact ne_b_s.out | exact fun h => ne_s_b.out h.symm)
  replace Nq1 := tN Nq1 Js (by simp) hBut
  replace Nq2 := tN Nq2 Js (by simp) hBut
  replace Nq3 := tN Nq3 Js (by simp) hBut
  replace Nq4 := tN Nq4 Js (by simp) hBut
  replace Js := I4
  clear I4 hBut
  go_wp2_with fail
  clear zs_0 zs_1
  clear f0
  generalize ((U24.setCell ⟨b9, 0, none⟩ (.string ⟨#[]⟩)).setCell ⟨b9, 1, none⟩ (.string ⟨#[]⟩)) = U25 at *
  have hb := dB U25
  replace B := aB B hb
  replace Jx := aJ Jx hb
  replace Jy := aJ Jy hb
  replace Ja := aJ Ja hb
  replace Jb := aJ Jb hb
  replace Js := aJ Js hb
  replace Nq1 := aN Nq1 hb
  replace Nq2 := aN Nq2 hb
  replace Nq3 := aN Nq3 hb
  replace Nq4 := aN Nq4 hb
  clear hb
  refine wp_region_held_drew (S := fun W => (IHolds W (b9) 41 [(.string ⟨#[]⟩), (.string ⟨#[]⟩)]) ∧ (IHolds W (b6) 43 [(.slice q1_a q1_l q1_c), (.slice q2_a q2_l q2_c)]) ∧ (IHolds W (b6 + 1) 43 [(.slice q3_a q3_l q3_c), (.slice q4_a q4_l q4_c)])) (by kernel_rfl) ⟨Js.out, Ja.out, Jb.out⟩ (fun hHeld7 => ?_)
  generalize U25.drew = U28 at *
  refine tk (i := 0) (v := .agg #[(.string ⟨#[]⟩), (.string ⟨#[]⟩)]) rfl (by kernel_rfl) (fun _ _ _ h => h) rfl ?_ hHeld7 ?_
  · intro W hS; obtain ⟨zs_0, zs_1⟩ := c2 hS.1; go_simp
  simp only [Act.put, y1, y2, y3, y4, y5, y6, y7]
  refine tk (i := 1) (v := (.int .i64 x)) rfl (by kernel_rfl) (fun _ _ _ h => h) rfl ?_ hHeld7 ?_
  · intro W hS; go_simp
  simp only [Act.put, y1, y2, y3, y4, y5, y6, y7]
  refine tk (i := 2) (v := (.int .i64 x)) rfl (by kernel_rfl) (fun _ _ _ h => h) rfl ?_ hHeld7 ?_
  · intro W hS; go_simp
  simp only [Act.put, y1, y2, y3, y4, y5, y6, y7]
  refine tk (i := 3) (v := .agg #[(.slice q1_a q1_l q1_c), (.slice q2_a q2_l q2_c)]) rfl (by kernel_rfl) (fun _ _ _ h => h) rfl ?_ hHeld7 ?_
  · intro W hS; obtain ⟨za_0, za_1⟩ := c2 hS.2.1; go_simp
  simp only [Act.put, y1, y2, y3, y4, y5, y6, y7]
  refine tk (i := 4) (v := .agg #[(.slice q3_a q3_l q3_c), (.slice q4_a q4_l q4_c)]) rfl (by kernel_rfl) (fun _ _ _ h => h) rfl ?_ hHeld7 ?_
  · intro W hS; obtain ⟨zb_0, zb_1⟩ := c2 hS.2.2; go_simp
  simp only [Act.put, y1, y2, y3, y4, y5, y6, y7]
  refine wpAnyH_ready (rs := [5]) (by kernel_rfl) (by simp) ?_
  refine AllReadyH.cons rfl (fun K hK => ?_) AllReadyH.nil
  clear hHeld7
  go_simp
  refine (G36.out U28 (.slice q1_a q1_l q1_c) (.slice q2_a q2_l q2_c) (.slice q3_a q3_l q3_c) (.slice q4_a q4_l q4_c) Nq1.out Nq2.out Nq3.out Nq4.out).mono ?_
  rintro e U29 ⟨⟨r26, r27, rfl, hv, hv'⟩, hb⟩
  have Nr26 : Hid (NumV U29 10 (NM) r26) := hv
  have Nr27 : Hid (NumV U29 10 (DM) r27) := hv'
  clear hv hv'
  replace B := aB B hb
  replace Jx := aJ Jx hb
  replace Jy := aJ Jy hb
  replace Ja := aJ Ja hb
  replace Jb := aJ Jb hb
  replace Js := aJ Js hb
  replace Nq1 := aN Nq1 hb
  replace Nq2 := aN Nq2 hb
  replace Nq3 := aN Nq3 hb
  replace Nq4 := aN Nq4 hb
  clear hb
  go_wp2_with fail
  refine hK.out _ _ (⟨Js.out, Ja.out, Jb.out⟩) (fun hHeld8 => ?_)
  clear hK K
  try simp only [Act.put, y1, y2, y3, y4, y5, y6, y7]
  refine wpAnyH_ready (rs := [6]) (by kernel_rfl) (by simp) ?_
  refine AllReadyH.cons rfl (fun K hK => ?_) AllReadyH.nil
  clear hHeld8
  go_simp
  refine (TB.out U29 _ _).mono ?_
  rintro e U30 ⟨rfl, hb⟩
  replace B := aB B hb
  replace Jx := aJ Jx hb
  replace Jy := aJ Jy hb
  replace Ja := aJ Ja hb
  replace Jb := aJ Jb hb
  replace Js := aJ Js hb
  replace Nq1 := aN Nq1 hb
  replace Nq2 := aN Nq2 hb
  replace Nq3 := aN Nq3 hb
  replace Nq4 := aN Nq4 hb
  replace Nr26 := aN Nr26 hb
  replace Nr27 := aN Nr27 hb
  clear hb
  go_wp2_with fail
  refine hK.out _ _ (⟨Js.out, Ja.out, Jb.out⟩) (fun hHeld9 => ?_)
  clear hK K
  try simp only [Act.put, y1, y2, y3, y4, y5, y6, y7]
  refine tk (i := 7) (v := (.bool false)) rfl (by kernel_rfl) (fun _ _ _ h => h) rfl ?_ hHeld9 ?_
  · intro W hS; go_simp
  simp only [Act.put, y1, y2, y3, y4, y5, y6, y7]
  refine wpAnyH_done (by kernel_rfl) ?_ _
  clear hHeld9
  clear Nr26
  clear Nr27
  obtain ⟨zx_0, zx_1⟩ := cJ Jx
  obtain ⟨zy_0, zy_1⟩ := cJ Jy
  go_wp2_with fail
  clear zx_0 zx_1 zy_0 zy_1
  refine (F37.out U30).mono ?_
  rintro e U31 ⟨rfl, hb⟩
  replace B := aB B hb
  replace Jx := aJ Jx hb
  replace Jy := aJ Jy hb
  replace Ja := aJ Ja hb
  replace Jb := aJ Jb hb
  replace Js := aJ Js hb
  replace Nq1 := aN Nq1 hb
  replace Nq2 := aN Nq2 hb
  replace Nq3 := aN Nq3 hb
  replace Nq4 := aN Nq4 hb
  clear hb
  obtain ⟨zs_0, zs_1⟩ := cJ Js
  have f0 := fJ Js
  have hBut : But (b9) U31 ((U31.setCell ⟨b9, 0, none⟩ (.string ⟨#[]⟩)).setCell ⟨b9, 1, none⟩ (.string ⟨#[]⟩)) := (((But.refl _ U31).setCell 0 (.string ⟨#[]⟩)).setCell 1 (.string ⟨#[]⟩))
  have I4 : Hid (IHolds _ (b9) 41 [(.string ⟨#[]⟩), (.string ⟨#[]⟩)]) := ((Js.out.set 0 (.string ⟨#[]⟩)).set 1 (.string ⟨#[]⟩))
  replace B : Hid (Below w.heap.size w ((U31.setCell ⟨b9, 0, none⟩ (.string ⟨#[]⟩)).setCell ⟨b9, 1, none⟩ (.string ⟨#[]⟩))) := ((B.out.setCell (by first | exact Nat.le_refl _ | exact ge_s.out | (show w.heap.size ≤ b9; omega)) _).setCell (by first | exact Nat.le_refl _ | exact ge_s.out | (show w.heap.size ≤ b9; omega)) _)
  replace Jx := tJ Jx hBut (by first | omega | exact ne_x_s.out | exact fun h => ne_s_x.out h.symm)
  replace Jy := tJ Jy hBut (by first | omega | exact ne_y_s.out | exact fun h => ne_s_y.out h.symm)
  replace Ja := tJ Ja hBut (by first | omega | exact ne_a_s.out | exact fun h => ne_s_a.out h.symm)
  replace Jb := tJ Jb hBut (by first | omega | exact ne_b_s.out | exact fun h => ne_s_b.out h.symm)
  replace Nq1 := tN Nq1 Js (by simp) hBut
  replace Nq2 := tN Nq2 Js (by simp) hBut
  replace Nq3 := tN Nq3 Js (by simp) hBut
  replace Nq4 := tN Nq4 Js (by simp) hBut
  replace Js := I4
  clear I4 hBut
  go_wp2_with fail
  clear zs_0 zs_1
  clear f0
  generalize ((U31.setCell ⟨b9, 0, none⟩ (.string ⟨#[]⟩)).setCell ⟨b9, 1, none⟩ (.string ⟨#[]⟩)) = U32 at *
  have hb := dB U32
  replace B := aB B hb
  replace Jx := aJ Jx hb
  replace Jy := aJ Jy hb
  replace Ja := aJ Ja hb
  replace Jb := aJ Jb hb
  replace Js := aJ Js hb
  replace Nq1 := aN Nq1 hb
  replace Nq2 := aN Nq2 hb
  replace Nq3 := aN Nq3 hb
  replace Nq4 := aN Nq4 hb
  clear hb
  refine wp_region_held_drew (S := fun W => (IHolds W (b9) 41 [(.string ⟨#[]⟩), (.string ⟨#[]⟩)]) ∧ (IHolds W (b6) 43 [(.slice q1_a q1_l q1_c), (.slice q2_a q2_l q2_c)]) ∧ (IHolds W (b6 + 1) 43 [(.slice q3_a q3_l q3_c), (.slice q4_a q4_l q4_c)])) (by kernel_rfl) ⟨Js.out, Ja.out, Jb.out⟩ (fun hHeld10 => ?_)
  generalize U32.drew = U35 at *
  refine tk (i := 0) (v := .agg #[(.string ⟨#[]⟩), (.string ⟨#[]⟩)]) rfl (by kernel_rfl) (fun _ _ _ h => h) rfl ?_ hHeld10 ?_
  · intro W hS; obtain ⟨zs_0, zs_1⟩ := c2 hS.1; go_simp
  simp only [Act.put, y1, y2, y3, y4, y5, y6, y7]
  refine tk (i := 1) (v := (.int .i64 x)) rfl (by kernel_rfl) (fun _ _ _ h => h) rfl ?_ hHeld10 ?_
  · intro W hS; go_simp
  simp only [Act.put, y1, y2, y3, y4, y5, y6, y7]
  refine tk (i := 2) (v := (.int .i64 x)) rfl (by kernel_rfl) (fun _ _ _ h => h) rfl ?_ hHeld10 ?_
  · intro W hS; go_simp
  simp only [Act.put, y1, y2, y3, y4, y5, y6, y7]
  refine tk (i := 3) (v := .agg #[(.slice q1_a q1_l q1_c), (.slice q2_a q2_l q2_c)]) rfl (by kernel_rfl) (fun _ _ _ h => h) rfl ?_ hHeld10 ?_
  · intro W hS; obtain ⟨za_0, za_1⟩ := c2 hS.2.1; go_simp
  simp only [Act.put, y1, y2, y3, y4, y5, y6, y7]
  refine tk (i := 4) (v := .agg #[(.slice q3_a q3_l q3_c), (.slice q4_a q4_l q4_c)]) rfl (by kernel_rfl) (fun _ _ _ h => h) rfl ?_ hHeld10 ?_
  · intro W hS; obtain ⟨zb_0, zb_1⟩ := c2 hS.2.2; go_simp
  simp only [Act.put, y1, y2, y3, y4, y5, y6, y7]
  refine wpAnyH_ready (rs := [5]) (by kernel_rfl) (by simp) ?_
  refine AllReadyH.cons rfl (fun K hK => ?_) AllReadyH.nil
  clear hHeld10
  go_simp
  refine (G38.out U35 (.slice q1_a q1_l q1_c) (.slice q2_a q2_l q2_c) (.slice q3_a q3_l q3_c) (.slice q4_a q4_l q4_c) Nq1.out Nq2.out Nq3.out Nq4.out).mono ?_
  rintro e U36 ⟨⟨r33, r34, rfl, hv, hv'⟩, hb⟩
  have Nr33 : Hid (NumV U36 10 (NO) r33) := hv
  have Nr34 : Hid (NumV U36 10 (DO) r34) := hv'
  clear hv hv'
  replace B := aB B hb
  replace Jx := aJ Jx hb
  replace Jy := aJ Jy hb
  replace Ja := aJ Ja hb
  replace Jb := aJ Jb hb
  replace Js := aJ Js hb
  replace Nq1 := aN Nq1 hb
  replace Nq2 := aN Nq2 hb
  replace Nq3 := aN Nq3 hb
  replace Nq4 := aN Nq4 hb
  clear hb
  go_wp2_with fail
  refine hK.out _ _ (⟨Js.out, Ja.out, Jb.out⟩) (fun hHeld11 => ?_)
  clear hK K
  try simp only [Act.put, y1, y2, y3, y4, y5, y6, y7]
  refine wpAnyH_ready (rs := [6]) (by kernel_rfl) (by simp) ?_
  refine AllReadyH.cons rfl (fun K hK => ?_) AllReadyH.nil
  clear hHeld11
  go_simp
  refine (TB.out U36 _ _).mono ?_
  rintro e U37 ⟨rfl, hb⟩
  replace B := aB B hb
  replace Jx := aJ Jx hb
  replace Jy := aJ Jy hb
  replace Ja := aJ Ja hb
  replace Jb := aJ Jb hb
  replace Js := aJ Js hb
  replace Nq1 := aN Nq1 hb
  replace Nq2 := aN Nq2 hb
  replace Nq3 := aN Nq3 hb
  replace Nq4 := aN Nq4 hb
  replace Nr33 := aN Nr33 hb
  replace Nr34 := aN Nr34 hb
  clear hb
  go_wp2_with fail
  refine hK.out _ _ (⟨Js.out, Ja.out, Jb.out⟩) (fun hHeld12 => ?_)
  clear hK K
  try simp only [Act.put, y1, y2, y3, y4, y5, y6, y7]
  refine tk (i := 7) (v := (.bool true)) rfl (by kernel_rfl) (fun _ _ _ h => h) rfl ?_ hHeld12 ?_
  · intro W hS; go_simp
  simp only [Act.put, y1, y2, y3, y4, y5, y6, y7]
  refine wpAnyH_done (by kernel_rfl) ?_ _
  clear hHeld12
  clear Nr33
  clear Nr34
  go_wp2_with fail
  go_ret
  exact ⟨rfl, B.out⟩

set_option maxRecDepth 100000 in
set_option maxHeartbeats 8000000 in
theorem fracs_bad2 {n1 d1 n2 d2 : ByteArray} {w : World} {A B1 U V NP DP NQ DQ NM DM NO DO : Nat} {P1 P2 Q1 Q2 M1 M2 O1 O2 : ByteArray} {z : Int}
    (x : Int) (hx : (x == 0) = false) (hx1 : (x != 0) = true)
    (F25a : Hid (∀ W, Calls Tryd.prog 25 #[.string n1, .string d1] W fun e w' => e = .returned (.int .i64 0) ∧ Below W.heap.size W w'))
    (F25b : Hid (∀ W, Calls Tryd.prog 25 #[.string n2, .string d2] W fun e w' => e = .returned (.int .i64 x) ∧ Below W.heap.size W w'))
    (F26 : Hid (∀ W, Calls Tryd.prog 26 #[.int .i64 1] W fun e w' => (∃ u1 u2, e = .returned (.agg #[u1, u2]) ∧ NumV w' 10 1 u1 ∧ NumV w' 10 1 u2) ∧ Below W.heap.size W w'))
    (F28 : Hid (∀ W, Calls Tryd.prog 28 #[.agg #[.string n1, .string d1], .agg #[.string n2, .string d2]] W fun e w' => e = .returned (.tuple #[.agg #[(.string ⟨#[]⟩), (.string ⟨#[]⟩)], .int .i64 x]) ∧ Below W.heap.size W w'))
    (F31 : Hid (∀ W, Calls Tryd.prog 31 #[.agg #[.string n1, .string d1], .agg #[.string n2, .string d2]] W fun e w' => e = .returned (.tuple #[.agg #[(.string ⟨#[]⟩), (.string ⟨#[]⟩)], .int .i64 x]) ∧ Below W.heap.size W w'))
    (F35 : Hid (∀ W, Calls Tryd.prog 35 #[.agg #[.string n1, .string d1], .agg #[.string n2, .string d2]] W fun e w' => e = .returned (.tuple #[.agg #[(.string ⟨#[]⟩), (.string ⟨#[]⟩)], .int .i64 x]) ∧ Below W.heap.size W w'))
    (F37 : Hid (∀ W, Calls Tryd.prog 37 #[.agg #[.string n1, .string d1], .agg #[.string n2, .string d2]] W fun e w' => e = .returned (.tuple #[.agg #[(.string ⟨#[]⟩), (.string ⟨#[]⟩)], .int .i64 x]) ∧ Below W.heap.size W w'))
    (F33 : Hid (∀ W, Calls Tryd.prog 33 #[.agg #[.string n1, .string d1], .agg #[.string n2, .string d2]] W fun e w' => e = .returned (.tuple #[.int .i64 z, .int .i64 x]) ∧ Below W.heap.size W w'))
    (G30 : Hid (∀ W p1 p2 p3 p4, NumV W 10 A p1 → NumV W 10 B1 p2 → NumV W 10 U p3 → NumV W 10 V p4 → Calls Tryd.prog 30 #[.agg #[p1, p2], .agg #[p3, p4]] W fun e w' => (∃ u1 u2, e = .returned (.agg #[u1, u2]) ∧ NumV w' 10 NP u1 ∧ NumV w' 10 DP u2) ∧ Below W.heap.size W w'))
    (G32 : Hid (∀ W p1 p2 p3 p4, NumV W 10 A p1 → NumV W 10 B1 p2 → NumV W 10 U p3 → NumV W 10 V p4 → Calls Tryd.prog 32 #[.agg #[p1, p2], .agg #[p3, p4]] W fun e w' => (∃ u1 u2, e = .returned (.agg #[u1, u2]) ∧ NumV w' 10 NQ u1 ∧ NumV w' 10 DQ u2) ∧ Below W.heap.size W w'))
    (G36 : Hid (∀ W p1 p2 p3 p4, NumV W 10 A p1 → NumV W 10 B1 p2 → NumV W 10 U p3 → NumV W 10 V p4 → Calls Tryd.prog 36 #[.agg #[p1, p2], .agg #[p3, p4]] W fun e w' => (∃ u1 u2, e = .returned (.agg #[u1, u2]) ∧ NumV w' 10 NM u1 ∧ NumV w' 10 DM u2) ∧ Below W.heap.size W w'))
    (G38 : Hid (∀ W p1 p2 p3 p4, NumV W 10 A p1 → NumV W 10 B1 p2 → NumV W 10 U p3 → NumV W 10 V p4 → Calls Tryd.prog 38 #[.agg #[p1, p2], .agg #[p3, p4]] W fun e w' => (∃ u1 u2, e = .returned (.agg #[u1, u2]) ∧ NumV w' 10 NO u1 ∧ NumV w' 10 DO u2) ∧ Below W.heap.size W w'))
    (G34 : Hid (∀ W p1 p2 p3 p4, NumV W 10 A p1 → NumV W 10 B1 p2 → NumV W 10 U p3 → NumV W 10 V p4 → Calls Tryd.prog 34 #[.agg #[p1, p2], .agg #[p3, p4]] W fun e w' => e = .returned (.int .i64 z) ∧ Below W.heap.size W w'))
    (TB : Hid (∀ W p1 p2, Calls Tryd.prog 29 #[.agg #[.string ⟨#[]⟩, .string ⟨#[]⟩], .int .i64 x, .int .i64 x, .agg #[p1, p2]] W fun e w' => e = .returned (.bool true) ∧ Below W.heap.size W w'))
    (hA : A = 1) (hB : B1 = 1) (hU : U = 1) (hV : V = 1) :
    Calls Tryd.prog 5 #[.agg #[.string n1, .string d1], .agg #[.string n2, .string d2]] w fun e w' => e = .returned (.bool true) ∧ Below w.heap.size w w' := by
  subst hA hB hU hV
  go_enter Tryd.func5, Tryd.ntmps5
  go_wp2_with fail
  obtain ⟨U1, hU1⟩ : ∃ X, X = ((w.alloc (.cells #[(.string n1), (.string d1)] 41)).alloc (.cells #[(.string n2), (.string d2)] 41)) := ⟨_, rfl⟩
  have Jx : Hid (IHolds U1 (w.heap.size) 41 [(.string n1), (.string d1)]) := by
    have q := IHolds.new w 41 [(.string n1), (.string d1)]
    show IHolds _ _ _ _
    rw [hU1]
    exact (q.alloc _)
  have Jy : Hid (IHolds U1 (w.heap.size + 1) 41 [(.string n2), (.string d2)]) := by
    have q := IHolds.new (w.alloc (.cells #[(.string n1), (.string d1)] 41)) 41 [(.string n2), (.string d2)]
    simp only [World.size_alloc, Nat.add_assoc, Nat.reduceAdd] at q
    show IHolds _ _ _ _
    rw [hU1]
    exact q
  have B : Hid (Below w.heap.size w U1) := by
    show Below _ _ _
    rw [hU1]
    exact (((Below.refl _ w).alloc (Nat.le_refl _) _).alloc (by simp only [World.size_alloc]; omega) _)
  rw [← hU1]
  clear hU1
  refine (F25a.out U1).mono ?_
  rintro e U2 ⟨rfl, hb⟩
  replace B := aB B hb
  replace Jx := aJ Jx hb
  replace Jy := aJ Jy hb
  clear hb
  obtain ⟨zy_0, zy_1⟩ := cJ Jy
  go_wp2_with fail
  clear zy_0 zy_1
  refine (F25b.out U2).mono ?_
  rintro e U3 ⟨rfl, hb⟩
  replace B := aB B hb
  replace Jx := aJ Jx hb
  replace Jy := aJ Jy hb
  clear hb
  go_wp2_with fail
  refine (F26.out U3).mono ?_
  rintro e U4 ⟨⟨q1, q2, rfl, hv, hv'⟩, hb⟩
  have Nq1 : Hid (NumV U4 10 (1) q1) := hv
  have Nq2 : Hid (NumV U4 10 (1) q2) := hv'
  clear hv hv'
  replace B := aB B hb
  replace Jx := aJ Jx hb
  replace Jy := aJ Jy hb
  clear hb
  go_wp2_with fail
  refine (F26.out U4).mono ?_
  rintro e U5 ⟨⟨q3, q4, rfl, hv, hv'⟩, hb⟩
  have Nq3 : Hid (NumV U5 10 (1) q3) := hv
  have Nq4 : Hid (NumV U5 10 (1) q4) := hv'
  clear hv hv'
  replace B := aB B hb
  replace Jx := aJ Jx hb
  replace Jy := aJ Jy hb
  replace Nq1 := aN Nq1 hb
  replace Nq2 := aN Nq2 hb
  clear hb
  obtain ⟨q1_a, q1_l, q1_c, rfl⟩ := sN Nq1
  obtain ⟨q2_a, q2_l, q2_c, rfl⟩ := sN Nq2
  obtain ⟨q3_a, q3_l, q3_c, rfl⟩ := sN Nq3
  obtain ⟨q4_a, q4_l, q4_c, rfl⟩ := sN Nq4
  have hb : Below U5.heap.size U5 ((U5.alloc (.cells #[(.slice q1_a q1_l q1_c), (.slice q2_a q2_l q2_c)] 43)).alloc (.cells #[(.slice q3_a q3_l q3_c), (.slice q4_a q4_l q4_c)] 43)) := ((Below.refl _ U5).alloc (Nat.le_refl _) _).alloc (by simp) _
  have Ja : Hid (IHolds ((U5.alloc (.cells #[(.slice q1_a q1_l q1_c), (.slice q2_a q2_l q2_c)] 43)).alloc (.cells #[(.slice q3_a q3_l q3_c), (.slice q4_a q4_l q4_c)] 43)) U5.heap.size 43 [(.slice q1_a q1_l q1_c), (.slice q2_a q2_l q2_c)]) := (IHolds.new _ _ _).alloc _
  have Jb : Hid (IHolds ((U5.alloc (.cells #[(.slice q1_a q1_l q1_c), (.slice q2_a q2_l q2_c)] 43)).alloc (.cells #[(.slice q3_a q3_l q3_c), (.slice q4_a q4_l q4_c)] 43)) (U5.heap.size + 1) 43 [(.slice q3_a q3_l q3_c), (.slice q4_a q4_l q4_c)]) := by
    have q := IHolds.new (U5.alloc (.cells #[(.slice q1_a q1_l q1_c), (.slice q2_a q2_l q2_c)] 43)) 43 [(.slice q3_a q3_l q3_c), (.slice q4_a q4_l q4_c)]
    rw [World.size_alloc] at q
    exact q
  have ne_x_a : Hid ((w.heap.size) ≠ U5.heap.size) := by have := Jx.out.lt; show _ ≠ _; omega
  have ne_x_b : Hid ((w.heap.size) ≠ U5.heap.size + 1) := by have := Jx.out.lt; show _ ≠ _; omega
  have ne_y_a : Hid ((w.heap.size + 1) ≠ U5.heap.size) := by have := Jy.out.lt; show _ ≠ _; omega
  have ne_y_b : Hid ((w.heap.size + 1) ≠ U5.heap.size + 1) := by have := Jy.out.lt; show _ ≠ _; omega
  have ge_a : Hid (w.heap.size ≤ U5.heap.size) := B.out.size
  have ge_b : Hid (w.heap.size ≤ U5.heap.size + 1) := Nat.le_succ_of_le B.out.size
  replace B := aB B hb
  replace Jx := aJ Jx hb
  replace Jy := aJ Jy hb
  replace Nq1 := aN Nq1 hb
  replace Nq2 := aN Nq2 hb
  replace Nq3 := aN Nq3 hb
  replace Nq4 := aN Nq4 hb
  clear hb
  obtain ⟨zx_0, zx_1⟩ := cJ Jx
  obtain ⟨zy_0, zy_1⟩ := cJ Jy
  go_wp2_with fail
  clear zx_0 zx_1 zy_0 zy_1
  generalize ((U5.alloc (.cells #[(.slice q1_a q1_l q1_c), (.slice q2_a q2_l q2_c)] 43)).alloc (.cells #[(.slice q3_a q3_l q3_c), (.slice q4_a q4_l q4_c)] 43)) = U6 at *
  generalize U5.heap.size = b7 at *
  refine (F28.out U6).mono ?_
  rintro e U8 ⟨rfl, hb⟩
  replace B := aB B hb
  replace Jx := aJ Jx hb
  replace Jy := aJ Jy hb
  replace Ja := aJ Ja hb
  replace Jb := aJ Jb hb
  replace Nq1 := aN Nq1 hb
  replace Nq2 := aN Nq2 hb
  replace Nq3 := aN Nq3 hb
  replace Nq4 := aN Nq4 hb
  clear hb
  have hb := nB U8 (.cells #[(.string ⟨#[]⟩), (.string ⟨#[]⟩)] 41)
  have Js : Hid (IHolds (U8.alloc (.cells #[(.string ⟨#[]⟩), (.string ⟨#[]⟩)] 41)) U8.heap.size 41 [(.string ⟨#[]⟩), (.string ⟨#[]⟩)]) := IHolds.new _ _ _
  have ne_x_s := nJ Jx
  have ne_y_s := nJ Jy
  have ne_a_s := nJ Ja
  have ne_b_s := nJ Jb
  have ge_s : Hid (w.heap.size ≤ U8.heap.size) := B.out.size
  replace B := aB B hb
  replace Jx := aJ Jx hb
  replace Jy := aJ Jy hb
  replace Ja := aJ Ja hb
  replace Jb := aJ Jb hb
  replace Nq1 := aN Nq1 hb
  replace Nq2 := aN Nq2 hb
  replace Nq3 := aN Nq3 hb
  replace Nq4 := aN Nq4 hb
  clear hb
  go_wp2_with fail
  generalize (U8.alloc (.cells #[(.string ⟨#[]⟩), (.string ⟨#[]⟩)] 41)) = U9 at *
  generalize U8.heap.size = b10 at *
  have hb := dB U9
  replace B := aB B hb
  replace Jx := aJ Jx hb
  replace Jy := aJ Jy hb
  replace Ja := aJ Ja hb
  replace Jb := aJ Jb hb
  replace Js := aJ Js hb
  replace Nq1 := aN Nq1 hb
  replace Nq2 := aN Nq2 hb
  replace Nq3 := aN Nq3 hb
  replace Nq4 := aN Nq4 hb
  clear hb
  refine wp_region_held_drew (S := fun W => (IHolds W (b10) 41 [(.string ⟨#[]⟩), (.string ⟨#[]⟩)]) ∧ (IHolds W (b7) 43 [(.slice q1_a q1_l q1_c), (.slice q2_a q2_l q2_c)]) ∧ (IHolds W (b7 + 1) 43 [(.slice q3_a q3_l q3_c), (.slice q4_a q4_l q4_c)])) (by kernel_rfl) ⟨Js.out, Ja.out, Jb.out⟩ (fun hHeld1 => ?_)
  generalize U9.drew = U13 at *
  refine tk (i := 0) (v := .agg #[(.string ⟨#[]⟩), (.string ⟨#[]⟩)]) rfl (by kernel_rfl) (fun _ _ _ h => h) rfl ?_ hHeld1 ?_
  · intro W hS; obtain ⟨zs_0, zs_1⟩ := c2 hS.1; go_simp
  simp only [Act.put, y1, y2, y3, y4, y5, y6, y7]
  refine tk (i := 1) (v := (.int .i64 x)) rfl (by kernel_rfl) (fun _ _ _ h => h) rfl ?_ hHeld1 ?_
  · intro W hS; go_simp
  simp only [Act.put, y1, y2, y3, y4, y5, y6, y7]
  refine tk (i := 2) (v := (.int .i64 x)) rfl (by kernel_rfl) (fun _ _ _ h => h) rfl ?_ hHeld1 ?_
  · intro W hS; go_simp
  simp only [Act.put, y1, y2, y3, y4, y5, y6, y7]
  refine tk (i := 3) (v := .agg #[(.slice q1_a q1_l q1_c), (.slice q2_a q2_l q2_c)]) rfl (by kernel_rfl) (fun _ _ _ h => h) rfl ?_ hHeld1 ?_
  · intro W hS; obtain ⟨za_0, za_1⟩ := c2 hS.2.1; go_simp
  simp only [Act.put, y1, y2, y3, y4, y5, y6, y7]
  refine tk (i := 4) (v := .agg #[(.slice q3_a q3_l q3_c), (.slice q4_a q4_l q4_c)]) rfl (by kernel_rfl) (fun _ _ _ h => h) rfl ?_ hHeld1 ?_
  · intro W hS; obtain ⟨zb_0, zb_1⟩ := c2 hS.2.2; go_simp
  simp only [Act.put, y1, y2, y3, y4, y5, y6, y7]
  refine wpAnyH_ready (rs := [5]) (by kernel_rfl) (by simp) ?_
  refine AllReadyH.cons rfl (fun K hK => ?_) AllReadyH.nil
  clear hHeld1
  go_simp
  refine (G30.out U13 (.slice q1_a q1_l q1_c) (.slice q2_a q2_l q2_c) (.slice q3_a q3_l q3_c) (.slice q4_a q4_l q4_c) Nq1.out Nq2.out Nq3.out Nq4.out).mono ?_
  rintro e U14 ⟨⟨r11, r12, rfl, hv, hv'⟩, hb⟩
  have Nr11 : Hid (NumV U14 10 (NP) r11) := hv
  have Nr12 : Hid (NumV U14 10 (DP) r12) := hv'
  clear hv hv'
  replace B := aB B hb
  replace Jx := aJ Jx hb
  replace Jy := aJ Jy hb
  replace Ja := aJ Ja hb
  replace Jb := aJ Jb hb
  replace Js := aJ Js hb
  replace Nq1 := aN Nq1 hb
  replace Nq2 := aN Nq2 hb
  replace Nq3 := aN Nq3 hb
  replace Nq4 := aN Nq4 hb
  clear hb
  go_wp2_with fail
  refine hK.out _ _ (⟨Js.out, Ja.out, Jb.out⟩) (fun hHeld2 => ?_)
  clear hK K
  try simp only [Act.put, y1, y2, y3, y4, y5, y6, y7]
  refine wpAnyH_ready (rs := [6]) (by kernel_rfl) (by simp) ?_
  refine AllReadyH.cons rfl (fun K hK => ?_) AllReadyH.nil
  clear hHeld2
  go_simp
  refine (TB.out U14 _ _).mono ?_
  rintro e U15 ⟨rfl, hb⟩
  replace B := aB B hb
  replace Jx := aJ Jx hb
  replace Jy := aJ Jy hb
  replace Ja := aJ Ja hb
  replace Jb := aJ Jb hb
  replace Js := aJ Js hb
  replace Nq1 := aN Nq1 hb
  replace Nq2 := aN Nq2 hb
  replace Nq3 := aN Nq3 hb
  replace Nq4 := aN Nq4 hb
  replace Nr11 := aN Nr11 hb
  replace Nr12 := aN Nr12 hb
  clear hb
  go_wp2_with fail
  refine hK.out _ _ (⟨Js.out, Ja.out, Jb.out⟩) (fun hHeld3 => ?_)
  clear hK K
  try simp only [Act.put, y1, y2, y3, y4, y5, y6, y7]
  refine tk (i := 7) (v := (.bool false)) rfl (by kernel_rfl) (fun _ _ _ h => h) rfl ?_ hHeld3 ?_
  · intro W hS; go_simp
  simp only [Act.put, y1, y2, y3, y4, y5, y6, y7]
  refine wpAnyH_done (by kernel_rfl) ?_ _
  clear hHeld3
  clear Nr11
  clear Nr12
  obtain ⟨zx_0, zx_1⟩ := cJ Jx
  obtain ⟨zy_0, zy_1⟩ := cJ Jy
  go_wp2_with fail
  clear zx_0 zx_1 zy_0 zy_1
  refine (F31.out U15).mono ?_
  rintro e U16 ⟨rfl, hb⟩
  replace B := aB B hb
  replace Jx := aJ Jx hb
  replace Jy := aJ Jy hb
  replace Ja := aJ Ja hb
  replace Jb := aJ Jb hb
  replace Js := aJ Js hb
  replace Nq1 := aN Nq1 hb
  replace Nq2 := aN Nq2 hb
  replace Nq3 := aN Nq3 hb
  replace Nq4 := aN Nq4 hb
  clear hb
  obtain ⟨zs_0, zs_1⟩ := cJ Js
  have f0 := fJ Js
  have hBut : But (b10) U16 ((U16.setCell ⟨b10, 0, none⟩ (.string ⟨#[]⟩)).setCell ⟨b10, 1, none⟩ (.string ⟨#[]⟩)) := (((But.refl _ U16).setCell 0 (.string ⟨#[]⟩)).setCell 1 (.string ⟨#[]⟩))
  have I4 : Hid (IHolds _ (b10) 41 [(.string ⟨#[]⟩), (.string ⟨#[]⟩)]) := ((Js.out.set 0 (.string ⟨#[]⟩)).set 1 (.string ⟨#[]⟩))
  replace B : Hid (Below w.heap.size w ((U16.setCell ⟨b10, 0, none⟩ (.string ⟨#[]⟩)).setCell ⟨b10, 1, none⟩ (.string ⟨#[]⟩))) := ((B.out.setCell (by first | exact Nat.le_refl _ | exact ge_s.out | (show w.heap.size ≤ b10; omega)) _).setCell (by first | exact Nat.le_refl _ | exact ge_s.out | (show w.heap.size ≤ b10; omega)) _)
  replace Jx := tJ Jx hBut (by first | omega | exact ne_x_s.out | exact fun h => ne_s_x.out h.symm)
  replace Jy := tJ Jy hBut (by first | omega | exact ne_y_s.out | exact fun h => ne_s_y.out h.symm)
  replace Ja := tJ Ja hBut (by first | omega | exact ne_a_s.out | exact fun h => ne_s_a.out h.symm)
  replace Jb := tJ Jb hBut (by first | omega | exact ne_b_s.out | exact fun h => ne_s_b.out h.symm)
  replace Nq1 := tN Nq1 Js (by simp) hBut
  replace Nq2 := tN Nq2 Js (by simp) hBut
  replace Nq3 := tN Nq3 Js (by simp) hBut
  replace Nq4 := tN Nq4 Js (by simp) hBut
  replace Js := I4
  clear I4 hBut
  go_wp2_with fail
  clear zs_0 zs_1
  clear f0
  generalize ((U16.setCell ⟨b10, 0, none⟩ (.string ⟨#[]⟩)).setCell ⟨b10, 1, none⟩ (.string ⟨#[]⟩)) = U17 at *
  have hb := dB U17
  replace B := aB B hb
  replace Jx := aJ Jx hb
  replace Jy := aJ Jy hb
  replace Ja := aJ Ja hb
  replace Jb := aJ Jb hb
  replace Js := aJ Js hb
  replace Nq1 := aN Nq1 hb
  replace Nq2 := aN Nq2 hb
  replace Nq3 := aN Nq3 hb
  replace Nq4 := aN Nq4 hb
  clear hb
  refine wp_region_held_drew (S := fun W => (IHolds W (b10) 41 [(.string ⟨#[]⟩), (.string ⟨#[]⟩)]) ∧ (IHolds W (b7) 43 [(.slice q1_a q1_l q1_c), (.slice q2_a q2_l q2_c)]) ∧ (IHolds W (b7 + 1) 43 [(.slice q3_a q3_l q3_c), (.slice q4_a q4_l q4_c)])) (by kernel_rfl) ⟨Js.out, Ja.out, Jb.out⟩ (fun hHeld4 => ?_)
  generalize U17.drew = U20 at *
  refine tk (i := 0) (v := .agg #[(.string ⟨#[]⟩), (.string ⟨#[]⟩)]) rfl (by kernel_rfl) (fun _ _ _ h => h) rfl ?_ hHeld4 ?_
  · intro W hS; obtain ⟨zs_0, zs_1⟩ := c2 hS.1; go_simp
  simp only [Act.put, y1, y2, y3, y4, y5, y6, y7]
  refine tk (i := 1) (v := (.int .i64 x)) rfl (by kernel_rfl) (fun _ _ _ h => h) rfl ?_ hHeld4 ?_
  · intro W hS; go_simp
  simp only [Act.put, y1, y2, y3, y4, y5, y6, y7]
  refine tk (i := 2) (v := (.int .i64 x)) rfl (by kernel_rfl) (fun _ _ _ h => h) rfl ?_ hHeld4 ?_
  · intro W hS; go_simp
  simp only [Act.put, y1, y2, y3, y4, y5, y6, y7]
  refine tk (i := 3) (v := .agg #[(.slice q1_a q1_l q1_c), (.slice q2_a q2_l q2_c)]) rfl (by kernel_rfl) (fun _ _ _ h => h) rfl ?_ hHeld4 ?_
  · intro W hS; obtain ⟨za_0, za_1⟩ := c2 hS.2.1; go_simp
  simp only [Act.put, y1, y2, y3, y4, y5, y6, y7]
  refine tk (i := 4) (v := .agg #[(.slice q3_a q3_l q3_c), (.slice q4_a q4_l q4_c)]) rfl (by kernel_rfl) (fun _ _ _ h => h) rfl ?_ hHeld4 ?_
  · intro W hS; obtain ⟨zb_0, zb_1⟩ := c2 hS.2.2; go_simp
  simp only [Act.put, y1, y2, y3, y4, y5, y6, y7]
  refine wpAnyH_ready (rs := [5]) (by kernel_rfl) (by simp) ?_
  refine AllReadyH.cons rfl (fun K hK => ?_) AllReadyH.nil
  clear hHeld4
  go_simp
  refine (G32.out U20 (.slice q1_a q1_l q1_c) (.slice q2_a q2_l q2_c) (.slice q3_a q3_l q3_c) (.slice q4_a q4_l q4_c) Nq1.out Nq2.out Nq3.out Nq4.out).mono ?_
  rintro e U21 ⟨⟨r18, r19, rfl, hv, hv'⟩, hb⟩
  have Nr18 : Hid (NumV U21 10 (NQ) r18) := hv
  have Nr19 : Hid (NumV U21 10 (DQ) r19) := hv'
  clear hv hv'
  replace B := aB B hb
  replace Jx := aJ Jx hb
  replace Jy := aJ Jy hb
  replace Ja := aJ Ja hb
  replace Jb := aJ Jb hb
  replace Js := aJ Js hb
  replace Nq1 := aN Nq1 hb
  replace Nq2 := aN Nq2 hb
  replace Nq3 := aN Nq3 hb
  replace Nq4 := aN Nq4 hb
  clear hb
  go_wp2_with fail
  refine hK.out _ _ (⟨Js.out, Ja.out, Jb.out⟩) (fun hHeld5 => ?_)
  clear hK K
  try simp only [Act.put, y1, y2, y3, y4, y5, y6, y7]
  refine wpAnyH_ready (rs := [6]) (by kernel_rfl) (by simp) ?_
  refine AllReadyH.cons rfl (fun K hK => ?_) AllReadyH.nil
  clear hHeld5
  go_simp
  refine (TB.out U21 _ _).mono ?_
  rintro e U22 ⟨rfl, hb⟩
  replace B := aB B hb
  replace Jx := aJ Jx hb
  replace Jy := aJ Jy hb
  replace Ja := aJ Ja hb
  replace Jb := aJ Jb hb
  replace Js := aJ Js hb
  replace Nq1 := aN Nq1 hb
  replace Nq2 := aN Nq2 hb
  replace Nq3 := aN Nq3 hb
  replace Nq4 := aN Nq4 hb
  replace Nr18 := aN Nr18 hb
  replace Nr19 := aN Nr19 hb
  clear hb
  go_wp2_with fail
  refine hK.out _ _ (⟨Js.out, Ja.out, Jb.out⟩) (fun hHeld6 => ?_)
  clear hK K
  try simp only [Act.put, y1, y2, y3, y4, y5, y6, y7]
  refine tk (i := 7) (v := (.bool false)) rfl (by kernel_rfl) (fun _ _ _ h => h) rfl ?_ hHeld6 ?_
  · intro W hS; go_simp
  simp only [Act.put, y1, y2, y3, y4, y5, y6, y7]
  refine wpAnyH_done (by kernel_rfl) ?_ _
  clear hHeld6
  clear Nr18
  clear Nr19
  obtain ⟨zx_0, zx_1⟩ := cJ Jx
  obtain ⟨zy_0, zy_1⟩ := cJ Jy
  go_wp2_with fail
  clear zx_0 zx_1 zy_0 zy_1
  refine (F33.out U22).mono ?_
  rintro e U23 ⟨rfl, hb⟩
  replace B := aB B hb
  replace Jx := aJ Jx hb
  replace Jy := aJ Jy hb
  replace Ja := aJ Ja hb
  replace Jb := aJ Jb hb
  replace Js := aJ Js hb
  replace Nq1 := aN Nq1 hb
  replace Nq2 := aN Nq2 hb
  replace Nq3 := aN Nq3 hb
  replace Nq4 := aN Nq4 hb
  clear hb
  obtain ⟨za_0, za_1⟩ := cJ Ja
  obtain ⟨zb_0, zb_1⟩ := cJ Jb
  go_wp2_with fail
  clear za_0 za_1 zb_0 zb_1
  refine (G34.out U23 (.slice q1_a q1_l q1_c) (.slice q2_a q2_l q2_c) (.slice q3_a q3_l q3_c) (.slice q4_a q4_l q4_c) Nq1.out Nq2.out Nq3.out Nq4.out).mono ?_
  rintro e U24 ⟨rfl, hb⟩
  replace B := aB B hb
  replace Jx := aJ Jx hb
  replace Jy := aJ Jy hb
  replace Ja := aJ Ja hb
  replace Jb := aJ Jb hb
  replace Js := aJ Js hb
  replace Nq1 := aN Nq1 hb
  replace Nq2 := aN Nq2 hb
  replace Nq3 := aN Nq3 hb
  replace Nq4 := aN Nq4 hb
  clear hb
  obtain ⟨zx_0, zx_1⟩ := cJ Jx
  obtain ⟨zy_0, zy_1⟩ := cJ Jy
  go_wp2_with fail
  clear zx_0 zx_1 zy_0 zy_1
  refine (F35.out U24).mono ?_
  rintro e U25 ⟨rfl, hb⟩
  replace B := aB B hb
  replace Jx := aJ Jx hb
  replace Jy := aJ Jy hb
  replace Ja := aJ Ja hb
  replace Jb := aJ Jb hb
  replace Js := aJ Js hb
  replace Nq1 := aN Nq1 hb
  replace Nq2 := aN Nq2 hb
  replace Nq3 := aN Nq3 hb
  replace Nq4 := aN Nq4 hb
  clear hb
  obtain ⟨zs_0, zs_1⟩ := cJ Js
  have f0 := fJ Js
  have hBut : But (b10) U25 ((U25.setCell ⟨b10, 0, none⟩ (.string ⟨#[]⟩)).setCell ⟨b10, 1, none⟩ (.string ⟨#[]⟩)) := (((But.refl _ U25).setCell 0 (.string ⟨#[]⟩)).setCell 1 (.string ⟨#[]⟩))
  have I4 : Hid (IHolds _ (b10) 41 [(.string ⟨#[]⟩), (.string ⟨#[]⟩)]) := ((Js.out.set 0 (.string ⟨#[]⟩)).set 1 (.string ⟨#[]⟩))
  replace B : Hid (Below w.heap.size w ((U25.setCell ⟨b10, 0, none⟩ (.string ⟨#[]⟩)).setCell ⟨b10, 1, none⟩ (.string ⟨#[]⟩))) := ((B.out.setCell (by first | exact Nat.le_refl _ | exact ge_s.out | (show w.heap.size ≤ b10; omega)) _).setCell (by first | exact Nat.le_refl _ | exact ge_s.out | (show w.heap.size ≤ b10; omega)) _)
  replace Jx := tJ Jx hBut (by first | omega | exact ne_x_s.out | exact fun h => ne_s_x.out h.symm)
  replace Jy := tJ Jy hBut (by first | omega | exact ne_y_s.out | exact fun h => ne_s_y.out h.symm)
  replace Ja := tJ Ja hBut (by first | omega | exact ne_a_s.out | exact fun h => ne_s_a.out h.symm)
  replace Jb := tJ Jb hBut (by first | omega | exact ne_b_s.out | exact fun h => ne_s_b.out h.symm)
  replace Nq1 := tN Nq1 Js (by simp) hBut
  replace Nq2 := tN Nq2 Js (by simp) hBut
  replace Nq3 := tN Nq3 Js (by simp) hBut
  replace Nq4 := tN Nq4 Js (by simp) hBut
  replace Js := I4
  clear I4 hBut
  go_wp2_with fail
  clear zs_0 zs_1
  clear f0
  generalize ((U25.setCell ⟨b10, 0, none⟩ (.string ⟨#[]⟩)).setCell ⟨b10, 1, none⟩ (.string ⟨#[]⟩)) = U26 at *
  have hb := dB U26
  replace B := aB B hb
  replace Jx := aJ Jx hb
  replace Jy := aJ Jy hb
  replace Ja := aJ Ja hb
  replace Jb := aJ Jb hb
  replace Js := aJ Js hb
  replace Nq1 := aN Nq1 hb
  replace Nq2 := aN Nq2 hb
  replace Nq3 := aN Nq3 hb
  replace Nq4 := aN Nq4 hb
  clear hb
  refine wp_region_held_drew (S := fun W => (IHolds W (b10) 41 [(.string ⟨#[]⟩), (.string ⟨#[]⟩)]) ∧ (IHolds W (b7) 43 [(.slice q1_a q1_l q1_c), (.slice q2_a q2_l q2_c)]) ∧ (IHolds W (b7 + 1) 43 [(.slice q3_a q3_l q3_c), (.slice q4_a q4_l q4_c)])) (by kernel_rfl) ⟨Js.out, Ja.out, Jb.out⟩ (fun hHeld7 => ?_)
  generalize U26.drew = U29 at *
  refine tk (i := 0) (v := .agg #[(.string ⟨#[]⟩), (.string ⟨#[]⟩)]) rfl (by kernel_rfl) (fun _ _ _ h => h) rfl ?_ hHeld7 ?_
  · intro W hS; obtain ⟨zs_0, zs_1⟩ := c2 hS.1; go_simp
  simp only [Act.put, y1, y2, y3, y4, y5, y6, y7]
  refine tk (i := 1) (v := (.int .i64 x)) rfl (by kernel_rfl) (fun _ _ _ h => h) rfl ?_ hHeld7 ?_
  · intro W hS; go_simp
  simp only [Act.put, y1, y2, y3, y4, y5, y6, y7]
  refine tk (i := 2) (v := (.int .i64 x)) rfl (by kernel_rfl) (fun _ _ _ h => h) rfl ?_ hHeld7 ?_
  · intro W hS; go_simp
  simp only [Act.put, y1, y2, y3, y4, y5, y6, y7]
  refine tk (i := 3) (v := .agg #[(.slice q1_a q1_l q1_c), (.slice q2_a q2_l q2_c)]) rfl (by kernel_rfl) (fun _ _ _ h => h) rfl ?_ hHeld7 ?_
  · intro W hS; obtain ⟨za_0, za_1⟩ := c2 hS.2.1; go_simp
  simp only [Act.put, y1, y2, y3, y4, y5, y6, y7]
  refine tk (i := 4) (v := .agg #[(.slice q3_a q3_l q3_c), (.slice q4_a q4_l q4_c)]) rfl (by kernel_rfl) (fun _ _ _ h => h) rfl ?_ hHeld7 ?_
  · intro W hS; obtain ⟨zb_0, zb_1⟩ := c2 hS.2.2; go_simp
  simp only [Act.put, y1, y2, y3, y4, y5, y6, y7]
  refine wpAnyH_ready (rs := [5]) (by kernel_rfl) (by simp) ?_
  refine AllReadyH.cons rfl (fun K hK => ?_) AllReadyH.nil
  clear hHeld7
  go_simp
  refine (G36.out U29 (.slice q1_a q1_l q1_c) (.slice q2_a q2_l q2_c) (.slice q3_a q3_l q3_c) (.slice q4_a q4_l q4_c) Nq1.out Nq2.out Nq3.out Nq4.out).mono ?_
  rintro e U30 ⟨⟨r27, r28, rfl, hv, hv'⟩, hb⟩
  have Nr27 : Hid (NumV U30 10 (NM) r27) := hv
  have Nr28 : Hid (NumV U30 10 (DM) r28) := hv'
  clear hv hv'
  replace B := aB B hb
  replace Jx := aJ Jx hb
  replace Jy := aJ Jy hb
  replace Ja := aJ Ja hb
  replace Jb := aJ Jb hb
  replace Js := aJ Js hb
  replace Nq1 := aN Nq1 hb
  replace Nq2 := aN Nq2 hb
  replace Nq3 := aN Nq3 hb
  replace Nq4 := aN Nq4 hb
  clear hb
  go_wp2_with fail
  refine hK.out _ _ (⟨Js.out, Ja.out, Jb.out⟩) (fun hHeld8 => ?_)
  clear hK K
  try simp only [Act.put, y1, y2, y3, y4, y5, y6, y7]
  refine wpAnyH_ready (rs := [6]) (by kernel_rfl) (by simp) ?_
  refine AllReadyH.cons rfl (fun K hK => ?_) AllReadyH.nil
  clear hHeld8
  go_simp
  refine (TB.out U30 _ _).mono ?_
  rintro e U31 ⟨rfl, hb⟩
  replace B := aB B hb
  replace Jx := aJ Jx hb
  replace Jy := aJ Jy hb
  replace Ja := aJ Ja hb
  replace Jb := aJ Jb hb
  replace Js := aJ Js hb
  replace Nq1 := aN Nq1 hb
  replace Nq2 := aN Nq2 hb
  replace Nq3 := aN Nq3 hb
  replace Nq4 := aN Nq4 hb
  replace Nr27 := aN Nr27 hb
  replace Nr28 := aN Nr28 hb
  clear hb
  go_wp2_with fail
  refine hK.out _ _ (⟨Js.out, Ja.out, Jb.out⟩) (fun hHeld9 => ?_)
  clear hK K
  try simp only [Act.put, y1, y2, y3, y4, y5, y6, y7]
  refine tk (i := 7) (v := (.bool false)) rfl (by kernel_rfl) (fun _ _ _ h => h) rfl ?_ hHeld9 ?_
  · intro W hS; go_simp
  simp only [Act.put, y1, y2, y3, y4, y5, y6, y7]
  refine wpAnyH_done (by kernel_rfl) ?_ _
  clear hHeld9
  clear Nr27
  clear Nr28
  obtain ⟨zx_0, zx_1⟩ := cJ Jx
  obtain ⟨zy_0, zy_1⟩ := cJ Jy
  go_wp2_with fail
  clear zx_0 zx_1 zy_0 zy_1
  refine (F37.out U31).mono ?_
  rintro e U32 ⟨rfl, hb⟩
  replace B := aB B hb
  replace Jx := aJ Jx hb
  replace Jy := aJ Jy hb
  replace Ja := aJ Ja hb
  replace Jb := aJ Jb hb
  replace Js := aJ Js hb
  replace Nq1 := aN Nq1 hb
  replace Nq2 := aN Nq2 hb
  replace Nq3 := aN Nq3 hb
  replace Nq4 := aN Nq4 hb
  clear hb
  obtain ⟨zs_0, zs_1⟩ := cJ Js
  have f0 := fJ Js
  have hBut : But (b10) U32 ((U32.setCell ⟨b10, 0, none⟩ (.string ⟨#[]⟩)).setCell ⟨b10, 1, none⟩ (.string ⟨#[]⟩)) := (((But.refl _ U32).setCell 0 (.string ⟨#[]⟩)).setCell 1 (.string ⟨#[]⟩))
  have I4 : Hid (IHolds _ (b10) 41 [(.string ⟨#[]⟩), (.string ⟨#[]⟩)]) := ((Js.out.set 0 (.string ⟨#[]⟩)).set 1 (.string ⟨#[]⟩))
  replace B : Hid (Below w.heap.size w ((U32.setCell ⟨b10, 0, none⟩ (.string ⟨#[]⟩)).setCell ⟨b10, 1, none⟩ (.string ⟨#[]⟩))) := ((B.out.setCell (by first | exact Nat.le_refl _ | exact ge_s.out | (show w.heap.size ≤ b10; omega)) _).setCell (by first | exact Nat.le_refl _ | exact ge_s.out | (show w.heap.size ≤ b10; omega)) _)
  replace Jx := tJ Jx hBut (by first | omega | exact ne_x_s.out | exact fun h => ne_s_x.out h.symm)
  replace Jy := tJ Jy hBut (by first | omega | exact ne_y_s.out | exact fun h => ne_s_y.out h.symm)
  replace Ja := tJ Ja hBut (by first | omega | exact ne_a_s.out | exact fun h => ne_s_a.out h.symm)
  replace Jb := tJ Jb hBut (by first | omega | exact ne_b_s.out | exact fun h => ne_s_b.out h.symm)
  replace Nq1 := tN Nq1 Js (by simp) hBut
  replace Nq2 := tN Nq2 Js (by simp) hBut
  replace Nq3 := tN Nq3 Js (by simp) hBut
  replace Nq4 := tN Nq4 Js (by simp) hBut
  replace Js := I4
  clear I4 hBut
  go_wp2_with fail
  clear zs_0 zs_1
  clear f0
  generalize ((U32.setCell ⟨b10, 0, none⟩ (.string ⟨#[]⟩)).setCell ⟨b10, 1, none⟩ (.string ⟨#[]⟩)) = U33 at *
  have hb := dB U33
  replace B := aB B hb
  replace Jx := aJ Jx hb
  replace Jy := aJ Jy hb
  replace Ja := aJ Ja hb
  replace Jb := aJ Jb hb
  replace Js := aJ Js hb
  replace Nq1 := aN Nq1 hb
  replace Nq2 := aN Nq2 hb
  replace Nq3 := aN Nq3 hb
  replace Nq4 := aN Nq4 hb
  clear hb
  refine wp_region_held_drew (S := fun W => (IHolds W (b10) 41 [(.string ⟨#[]⟩), (.string ⟨#[]⟩)]) ∧ (IHolds W (b7) 43 [(.slice q1_a q1_l q1_c), (.slice q2_a q2_l q2_c)]) ∧ (IHolds W (b7 + 1) 43 [(.slice q3_a q3_l q3_c), (.slice q4_a q4_l q4_c)])) (by kernel_rfl) ⟨Js.out, Ja.out, Jb.out⟩ (fun hHeld10 => ?_)
  generalize U33.drew = U36 at *
  refine tk (i := 0) (v := .agg #[(.string ⟨#[]⟩), (.string ⟨#[]⟩)]) rfl (by kernel_rfl) (fun _ _ _ h => h) rfl ?_ hHeld10 ?_
  · intro W hS; obtain ⟨zs_0, zs_1⟩ := c2 hS.1; go_simp
  simp only [Act.put, y1, y2, y3, y4, y5, y6, y7]
  refine tk (i := 1) (v := (.int .i64 x)) rfl (by kernel_rfl) (fun _ _ _ h => h) rfl ?_ hHeld10 ?_
  · intro W hS; go_simp
  simp only [Act.put, y1, y2, y3, y4, y5, y6, y7]
  refine tk (i := 2) (v := (.int .i64 x)) rfl (by kernel_rfl) (fun _ _ _ h => h) rfl ?_ hHeld10 ?_
  · intro W hS; go_simp
  simp only [Act.put, y1, y2, y3, y4, y5, y6, y7]
  refine tk (i := 3) (v := .agg #[(.slice q1_a q1_l q1_c), (.slice q2_a q2_l q2_c)]) rfl (by kernel_rfl) (fun _ _ _ h => h) rfl ?_ hHeld10 ?_
  · intro W hS; obtain ⟨za_0, za_1⟩ := c2 hS.2.1; go_simp
  simp only [Act.put, y1, y2, y3, y4, y5, y6, y7]
  refine tk (i := 4) (v := .agg #[(.slice q3_a q3_l q3_c), (.slice q4_a q4_l q4_c)]) rfl (by kernel_rfl) (fun _ _ _ h => h) rfl ?_ hHeld10 ?_
  · intro W hS; obtain ⟨zb_0, zb_1⟩ := c2 hS.2.2; go_simp
  simp only [Act.put, y1, y2, y3, y4, y5, y6, y7]
  refine wpAnyH_ready (rs := [5]) (by kernel_rfl) (by simp) ?_
  refine AllReadyH.cons rfl (fun K hK => ?_) AllReadyH.nil
  clear hHeld10
  go_simp
  refine (G38.out U36 (.slice q1_a q1_l q1_c) (.slice q2_a q2_l q2_c) (.slice q3_a q3_l q3_c) (.slice q4_a q4_l q4_c) Nq1.out Nq2.out Nq3.out Nq4.out).mono ?_
  rintro e U37 ⟨⟨r34, r35, rfl, hv, hv'⟩, hb⟩
  have Nr34 : Hid (NumV U37 10 (NO) r34) := hv
  have Nr35 : Hid (NumV U37 10 (DO) r35) := hv'
  clear hv hv'
  replace B := aB B hb
  replace Jx := aJ Jx hb
  replace Jy := aJ Jy hb
  replace Ja := aJ Ja hb
  replace Jb := aJ Jb hb
  replace Js := aJ Js hb
  replace Nq1 := aN Nq1 hb
  replace Nq2 := aN Nq2 hb
  replace Nq3 := aN Nq3 hb
  replace Nq4 := aN Nq4 hb
  clear hb
  go_wp2_with fail
  refine hK.out _ _ (⟨Js.out, Ja.out, Jb.out⟩) (fun hHeld11 => ?_)
  clear hK K
  try simp only [Act.put, y1, y2, y3, y4, y5, y6, y7]
  refine wpAnyH_ready (rs := [6]) (by kernel_rfl) (by simp) ?_
  refine AllReadyH.cons rfl (fun K hK => ?_) AllReadyH.nil
  clear hHeld11
  go_simp
  refine (TB.out U37 _ _).mono ?_
  rintro e U38 ⟨rfl, hb⟩
  replace B := aB B hb
  replace Jx := aJ Jx hb
  replace Jy := aJ Jy hb
  replace Ja := aJ Ja hb
  replace Jb := aJ Jb hb
  replace Js := aJ Js hb
  replace Nq1 := aN Nq1 hb
  replace Nq2 := aN Nq2 hb
  replace Nq3 := aN Nq3 hb
  replace Nq4 := aN Nq4 hb
  replace Nr34 := aN Nr34 hb
  replace Nr35 := aN Nr35 hb
  clear hb
  go_wp2_with fail
  refine hK.out _ _ (⟨Js.out, Ja.out, Jb.out⟩) (fun hHeld12 => ?_)
  clear hK K
  try simp only [Act.put, y1, y2, y3, y4, y5, y6, y7]
  refine tk (i := 7) (v := (.bool true)) rfl (by kernel_rfl) (fun _ _ _ h => h) rfl ?_ hHeld12 ?_
  · intro W hS; go_simp
  simp only [Act.put, y1, y2, y3, y4, y5, y6, y7]
  refine wpAnyH_done (by kernel_rfl) ?_ _
  clear hHeld12
  clear Nr34
  clear Nr35
  go_wp2_with fail
  go_ret
  exact ⟨rfl, B.out⟩
end Go.Proofs.YtnahindcgedbaaaDoor
