/- The walk of times: products of fractions. -/
import Derived.Test.YtnahindcgedbaabDoorBaseF
import Derived.Test.YtnahindcgedbaabDoorAid
import Derived.Deep.CutBlock
import Derived.Deep.DeepCutAuto
set_option linter.unusedSimpArgs false
set_option linter.unusedVariables false
namespace Go.Proofs.YtnahindcgedbaabDoor
open Go.RowKit Go.Deep Go.PlainAid

set_option maxRecDepth 100000 in
set_option maxHeartbeats 8000000 in
theorem timesFracV {w : World} {n1 d1 n2 d2 : Nat} {p1 p2 p3 p4 : Value} (hN : NumV w 1000000000 n1 p1 ∧ NumV w 1000000000 d1 p2 ∧ NumV w 1000000000 n2 p3 ∧ NumV w 1000000000 d2 p4)
    (l1 : (dg 1000000000 n1).length ≤ 400000) (l2 : (dg 1000000000 d1).length ≤ 400000) (l3 : (dg 1000000000 n2).length ≤ 400000) (l4 : (dg 1000000000 d2).length ≤ 400000) (h1 : d1 ≠ 0) (h2 : d2 ≠ 0) :
    Calls Tryd.prog 21 #[.agg #[p1, p2], .agg #[p3, p4]] w fun e w' => (∃ u1 u2, e = .returned (.agg #[u1, u2]) ∧ NumV w' 1000000000 (n1 / Nat.gcd n1 d2 * (n2 / Nat.gcd n2 d1)) u1 ∧ NumV w' 1000000000 (d2 / Nat.gcd n1 d2 * (d1 / Nat.gcd n2 d1)) u2) ∧ Below w.heap.size w w' := by
  obtain ⟨q1, q2, q3, q4⟩ := hN
  have Q1 : Hid (∀ W, Below w.heap.size w W → NumV W 1000000000 (n1) p1) := fun W hW => q1.of_below hW
  have Q2 : Hid (∀ W, Below w.heap.size w W → NumV W 1000000000 (d1) p2) := fun W hW => q2.of_below hW
  have Q3 : Hid (∀ W, Below w.heap.size w W → NumV W 1000000000 (n2) p3) := fun W hW => q3.of_below hW
  have Q4 : Hid (∀ W, Below w.heap.size w W → NumV W 1000000000 (d2) p4) := fun W hW => q4.of_below hW
  clear q1 q2 q3 q4
  have ka1 : (dg 1000000000 (n1 / Nat.gcd n1 d2)).length ≤ 400000 := Nat.le_trans (dg_len_mono bigBase (Nat.div_le_self _ _)) l1
  have ke1 : (dg 1000000000 (d2 / Nat.gcd n1 d2)).length ≤ 400000 := Nat.le_trans (dg_len_mono bigBase (Nat.div_le_self _ _)) l4
  have ka2 : (dg 1000000000 (n2 / Nat.gcd n2 d1)).length ≤ 400000 := Nat.le_trans (dg_len_mono bigBase (Nat.div_le_self _ _)) l3
  have ke2 : (dg 1000000000 (d1 / Nat.gcd n2 d1)).length ≤ 400000 := Nat.le_trans (dg_len_mono bigBase (Nat.div_le_self _ _)) l2
  have C1 : Hid (∀ W, Below w.heap.size w W → Calls Tryd.prog 38 #[p1, p4] W fun e w' => (∃ u1 u2, e = .returned (.agg #[u1, u2]) ∧ NumV w' 1000000000 (n1 / Nat.gcd n1 d2) u1 ∧ NumV w' 1000000000 (d2 / Nat.gcd n1 d2) u2) ∧ Below W.heap.size W w') := fun W hW => lowestV (Q1.out W hW) (Q4.out W hW) h2 (by omega) (by omega)
  have C2 : Hid (∀ W, Below w.heap.size w W → Calls Tryd.prog 38 #[p3, p2] W fun e w' => (∃ u1 u2, e = .returned (.agg #[u1, u2]) ∧ NumV w' 1000000000 (n2 / Nat.gcd n2 d1) u1 ∧ NumV w' 1000000000 (d1 / Nat.gcd n2 d1) u2) ∧ Below W.heap.size W w') := fun W hW => lowestV (Q3.out W hW) (Q2.out W hW) h1 (by omega) (by omega)
  generalize n1 / Nat.gcd n1 d2 = a1 at *
  generalize d2 / Nat.gcd n1 d2 = e1 at *
  generalize n2 / Nat.gcd n2 d1 = a2 at *
  generalize d1 / Nat.gcd n2 d1 = e2 at *
  have C3 : Hid (∀ W v v', NumV W 1000000000 a1 v → NumV W 1000000000 a2 v' → Calls Tryd.prog 33 #[v, v'] W fun e w' => (∃ v, e = .returned v ∧ NumV w' 1000000000 (a1 * a2) v) ∧ Below W.heap.size W w') := fun W v v' g1 g2 => timesV g1 g2 (by omega) (by omega)
  have C4 : Hid (∀ W v v', NumV W 1000000000 e1 v → NumV W 1000000000 e2 v' → Calls Tryd.prog 33 #[v, v'] W fun e w' => (∃ v, e = .returned v ∧ NumV w' 1000000000 (e1 * e2) v) ∧ Below W.heap.size W w') := fun W v v' g1 g2 => timesV g1 g2 (by omega) (by omega)
  generalize a1 * a2 = r1 at *
  generalize e1 * e2 = r2 at *
  clear l1 l2 l3 l4 h1 h2 Q1 Q2 Q3 Q4 ka1 ke1 ka2 ke2
  go_enter Tryd.func21, Tryd.ntmps21
  go_wp2_with fail
  obtain ⟨U1, hU1⟩ : ∃ X, X = (((w.alloc (.cells #[p1, p2] 38)).alloc (.cells #[p3, p4] 38)).alloc (.cells #[(.slice none 0 0), (.slice none 0 0)] 38)) := ⟨_, rfl⟩
  have Jf : Hid (IHolds U1 (w.heap.size) 38 [p1, p2]) := by
    have q := IHolds.new w 38 [p1, p2]
    show IHolds _ _ _ _
    rw [hU1]
    exact ((q.alloc _).alloc _)
  have Jg : Hid (IHolds U1 (w.heap.size + 1) 38 [p3, p4]) := by
    have q := IHolds.new (w.alloc (.cells #[p1, p2] 38)) 38 [p3, p4]
    simp only [World.size_alloc, Nat.add_assoc, Nat.reduceAdd] at q
    show IHolds _ _ _ _
    rw [hU1]
    exact (q.alloc _)
  have Jr : Hid (IHolds U1 (w.heap.size + 2) 38 [(.slice none 0 0), (.slice none 0 0)]) := by
    have q := IHolds.new ((w.alloc (.cells #[p1, p2] 38)).alloc (.cells #[p3, p4] 38)) 38 [(.slice none 0 0), (.slice none 0 0)]
    simp only [World.size_alloc, Nat.add_assoc, Nat.reduceAdd] at q
    show IHolds _ _ _ _
    rw [hU1]
    exact q
  have B : Hid (Below w.heap.size w U1) := by
    show Below _ _ _
    rw [hU1]
    exact ((((Below.refl _ w).alloc (Nat.le_refl _) _).alloc (by simp only [World.size_alloc]; omega) _).alloc (by simp only [World.size_alloc]; omega) _)
  rw [← hU1]
  clear hU1
  have nfg : Hid (w.heap.size + 2 < U1.heap.size) := Jr.out.lt
  go_cut [5, 6] (fun v5 v6 wx => ∃ b5 b6 x1 x2 x3 x4, v5 = .pointer (some ⟨b5, 0, none⟩) ∧ v6 = .pointer (some ⟨b6, 0, none⟩) ∧ IHolds wx b5 38 [x1, x2] ∧ IHolds wx b6 38 [x3, x4] ∧ NumV wx 1000000000 a1 x1 ∧ NumV wx 1000000000 e1 x2 ∧ NumV wx 1000000000 a2 x3 ∧ NumV wx 1000000000 e2 x4 ∧ b5 ≠ w.heap.size + 2 ∧ b6 ≠ w.heap.size + 2 ∧ IHolds wx (w.heap.size + 2) 38 [.slice none 0 0, .slice none 0 0] ∧ Below w.heap.size w wx)
  case first =>
    have hb := dB U1
    replace B := aB B hb
    replace Jf := aJ Jf hb
    replace Jg := aJ Jg hb
    replace Jr := aJ Jr hb
    clear hb
    refine wp_region_held_drew (S := fun W => (IHolds W (w.heap.size) 38 [p1, p2]) ∧ (IHolds W (w.heap.size + 1) 38 [p3, p4])) (by kernel_rfl) ⟨Jf.out, Jg.out⟩ (fun hHeld1 => ?_)
    generalize U1.drew = U2 at *
    refine tk (i := 0) (v := .pointer (some ⟨w.heap.size, 0, none⟩)) rfl (by kernel_rfl) (fun _ _ _ h => h) rfl ?_ hHeld1 ?_
    · intro W hS; go_simp
    simp only [Act.put, y1, y2, y3, y4, y5, y6, y7]
    refine tk (i := 2) (v := .pointer (some ⟨w.heap.size + 1, 1, none⟩)) rfl (by kernel_rfl) (fun _ _ _ h => h) rfl ?_ hHeld1 ?_
    · intro W hS; go_simp
    simp only [Act.put, y1, y2, y3, y4, y5, y6, y7]
    refine tk (i := 5) (v := .pointer (some ⟨w.heap.size + 1, 0, none⟩)) rfl (by kernel_rfl) (fun _ _ _ h => h) rfl ?_ hHeld1 ?_
    · intro W hS; go_simp
    simp only [Act.put, y1, y2, y3, y4, y5, y6, y7]
    refine tk (i := 7) (v := .pointer (some ⟨w.heap.size, 1, none⟩)) rfl (by kernel_rfl) (fun _ _ _ h => h) rfl ?_ hHeld1 ?_
    · intro W hS; go_simp
    simp only [Act.put, y1, y2, y3, y4, y5, y6, y7]
    refine tk (i := 1) (v := p1) rfl (by kernel_rfl) (fun _ _ _ h => h) rfl ?_ hHeld1 ?_
    · intro W hS; obtain ⟨zf_0, zf_1⟩ := c2 hS.1; go_simp
    simp only [Act.put, y1, y2, y3, y4, y5, y6, y7]
    refine tk (i := 3) (v := p4) rfl (by kernel_rfl) (fun _ _ _ h => h) rfl ?_ hHeld1 ?_
    · intro W hS; obtain ⟨zg_0, zg_1⟩ := c2 hS.2; go_simp
    simp only [Act.put, y1, y2, y3, y4, y5, y6, y7]
    refine tk (i := 6) (v := p3) rfl (by kernel_rfl) (fun _ _ _ h => h) rfl ?_ hHeld1 ?_
    · intro W hS; obtain ⟨zg_0, zg_1⟩ := c2 hS.2; go_simp
    simp only [Act.put, y1, y2, y3, y4, y5, y6, y7]
    refine tk (i := 8) (v := p2) rfl (by kernel_rfl) (fun _ _ _ h => h) rfl ?_ hHeld1 ?_
    · intro W hS; obtain ⟨zf_0, zf_1⟩ := c2 hS.1; go_simp
    simp only [Act.put, y1, y2, y3, y4, y5, y6, y7]
    refine wpAnyH_ready (rs := [4, 10, 11]) (by kernel_rfl) (by simp) ?_
    refine AllReadyH.cons rfl (fun K hK => ?_) (AllReadyH.cons rfl (fun K hK => ?_) (AllReadyH.cons rfl (fun K hK => ?_) AllReadyH.nil))
    · clear hHeld1
      go_simp
      refine (C1.out U2 B.out).mono ?_
      rintro e U3 ⟨⟨x1, x2, rfl, hv, hv'⟩, hb⟩
      have Nx1 : Hid (NumV U3 1000000000 (a1) x1) := hv
      have Nx2 : Hid (NumV U3 1000000000 (e1) x2) := hv'
      clear hv hv'
      replace B := aB B hb
      replace Jf := aJ Jf hb
      replace Jg := aJ Jg hb
      replace Jr := aJ Jr hb
      clear hb
      go_wp2_with fail
      refine hK.out _ _ (⟨Jf.out, Jg.out⟩) (fun hHeld2 => ?_)
      clear hK K
      try simp only [Act.put, y1, y2, y3, y4, y5, y6, y7]
      refine wpAnyH_ready (rs := [9, 10, 11]) (by kernel_rfl) (by simp) ?_
      refine AllReadyH.cons rfl (fun K hK => ?_) (AllReadyH.cons rfl (fun K hK => ?_) (AllReadyH.cons rfl (fun K hK => ?_) AllReadyH.nil))
      · clear hHeld2
        go_simp
        refine (C2.out U3 B.out).mono ?_
        rintro e U4 ⟨⟨x3, x4, rfl, hv, hv'⟩, hb⟩
        have Nx3 : Hid (NumV U4 1000000000 (a2) x3) := hv
        have Nx4 : Hid (NumV U4 1000000000 (e2) x4) := hv'
        clear hv hv'
        replace B := aB B hb
        replace Jf := aJ Jf hb
        replace Jg := aJ Jg hb
        replace Jr := aJ Jr hb
        replace Nx1 := aN Nx1 hb
        replace Nx2 := aN Nx2 hb
        clear hb
        go_wp2_with fail
        refine hK.out _ _ (⟨Jf.out, Jg.out⟩) (fun hHeld3 => ?_)
        clear hK K
        try simp only [Act.put, y1, y2, y3, y4, y5, y6, y7]
        refine wpAnyH_ready (rs := [10, 11]) (by kernel_rfl) (by simp) ?_
        refine AllReadyH.cons rfl (fun K hK => ?_) (AllReadyH.cons rfl (fun K hK => ?_) AllReadyH.nil)
        · clear hHeld3
          go_simp
          have ne_f_l := nJ Jf
          have ne_g_l := nJ Jg
          have ne_r_l := nJ Jr
          have ge_l : Hid (w.heap.size ≤ U4.heap.size) := B.out.size
          have hb := nB U4 (.cells #[(.slice none 0 0), (.slice none 0 0)] 38)
          have Jl : Hid (IHolds (U4.alloc (.cells #[(.slice none 0 0), (.slice none 0 0)] 38)) U4.heap.size 38 [(.slice none 0 0), (.slice none 0 0)]) := IHolds.new _ _ _
          replace B := aB B hb
          replace Jf := aJ Jf hb
          replace Jg := aJ Jg hb
          replace Jr := aJ Jr hb
          replace Nx1 := aN Nx1 hb
          replace Nx2 := aN Nx2 hb
          replace Nx3 := aN Nx3 hb
          replace Nx4 := aN Nx4 hb
          clear hb
          generalize (U4.alloc (.cells #[(.slice none 0 0), (.slice none 0 0)] 38)) = U5 at *
          generalize U4.heap.size = b6 at *
          refine hK.out _ _ (⟨Jf.out, Jg.out⟩) (fun hHeld4 => ?_)
          clear hK K
          try simp only [Act.put, y1, y2, y3, y4, y5, y6, y7]
          refine wpAnyH_ready (rs := [11]) (by kernel_rfl) (by simp) ?_
          refine AllReadyH.cons rfl (fun K hK => ?_) AllReadyH.nil
          clear hHeld4
          go_simp
          have ne_f_m := nJ Jf
          have ne_g_m := nJ Jg
          have ne_r_m := nJ Jr
          have ne_l_m := nJ Jl
          have ge_m : Hid (w.heap.size ≤ U5.heap.size) := B.out.size
          have hb := nB U5 (.cells #[(.slice none 0 0), (.slice none 0 0)] 38)
          have Jm : Hid (IHolds (U5.alloc (.cells #[(.slice none 0 0), (.slice none 0 0)] 38)) U5.heap.size 38 [(.slice none 0 0), (.slice none 0 0)]) := IHolds.new _ _ _
          replace B := aB B hb
          replace Jf := aJ Jf hb
          replace Jg := aJ Jg hb
          replace Jr := aJ Jr hb
          replace Jl := aJ Jl hb
          replace Nx1 := aN Nx1 hb
          replace Nx2 := aN Nx2 hb
          replace Nx3 := aN Nx3 hb
          replace Nx4 := aN Nx4 hb
          clear hb
          generalize (U5.alloc (.cells #[(.slice none 0 0), (.slice none 0 0)] 38)) = U7 at *
          generalize U5.heap.size = b8 at *
          refine hK.out _ _ (⟨Jf.out, Jg.out⟩) (fun hHeld5 => ?_)
          clear hK K
          try simp only [Act.put, y1, y2, y3, y4, y5, y6, y7]
          refine wpAnyH_ready (rs := [12]) (by kernel_rfl) (by simp) ?_
          refine AllReadyH.cons rfl (fun K hK => ?_) AllReadyH.nil
          clear hHeld5
          obtain ⟨x1_a, x1_l, x1_c, rfl⟩ := sN Nx1
          obtain ⟨x2_a, x2_l, x2_c, rfl⟩ := sN Nx2
          obtain ⟨zl_0, zl_1⟩ := cJ Jl
          have f0 := fJ Jl
          have hBut : But (b6) U7 ((U7.setCell ⟨b6, 0, none⟩ (.slice x1_a x1_l x1_c)).setCell ⟨b6, 1, none⟩ (.slice x2_a x2_l x2_c)) := (((But.refl _ U7).setCell 0 (.slice x1_a x1_l x1_c)).setCell 1 (.slice x2_a x2_l x2_c))
          have I4 : Hid (IHolds _ (b6) 38 [(.slice x1_a x1_l x1_c), (.slice x2_a x2_l x2_c)]) := ((Jl.out.set 0 (.slice x1_a x1_l x1_c)).set 1 (.slice x2_a x2_l x2_c))
          replace B : Hid (Below w.heap.size w ((U7.setCell ⟨b6, 0, none⟩ (.slice x1_a x1_l x1_c)).setCell ⟨b6, 1, none⟩ (.slice x2_a x2_l x2_c))) := ((B.out.setCell (by first | exact Nat.le_refl _ | exact ge_l.out | (show w.heap.size ≤ b6; omega)) _).setCell (by first | exact Nat.le_refl _ | exact ge_l.out | (show w.heap.size ≤ b6; omega)) _)
          replace Jf := tJ Jf hBut (by first | exact ne_f_l.out | exact fun h => ne_l_f.out h.symm | omega)
          replace Jg := tJ Jg hBut (by first | exact ne_g_l.out | exact fun h => ne_l_g.out h.symm | omega)
          replace Jr := tJ Jr hBut (by first | exact ne_r_l.out | exact fun h => ne_l_r.out h.symm | omega)
          replace Jm := tJ Jm hBut (by first | exact ne_m_l.out | exact fun h => ne_l_m.out h.symm | omega)
          replace Nx1 := tN Nx1 Jl (by simp) hBut
          replace Nx2 := tN Nx2 Jl (by simp) hBut
          replace Nx3 := tN Nx3 Jl (by simp) hBut
          replace Nx4 := tN Nx4 Jl (by simp) hBut
          replace Jl := I4
          clear I4 hBut
          go_simp
          try go_wp2_with fail
          clear zl_0 zl_1
          clear f0
          generalize ((U7.setCell ⟨b6, 0, none⟩ (.slice x1_a x1_l x1_c)).setCell ⟨b6, 1, none⟩ (.slice x2_a x2_l x2_c)) = U9 at *
          refine hK.out _ _ (⟨Jf.out, Jg.out⟩) (fun hHeld6 => ?_)
          clear hK K
          try simp only [Act.put, y1, y2, y3, y4, y5, y6, y7]
          refine wpAnyH_ready (rs := [13]) (by kernel_rfl) (by simp) ?_
          refine AllReadyH.cons rfl (fun K hK => ?_) AllReadyH.nil
          clear hHeld6
          obtain ⟨x3_a, x3_l, x3_c, rfl⟩ := sN Nx3
          obtain ⟨x4_a, x4_l, x4_c, rfl⟩ := sN Nx4
          obtain ⟨zm_0, zm_1⟩ := cJ Jm
          have f0 := fJ Jm
          have hBut : But (b8) U9 ((U9.setCell ⟨b8, 0, none⟩ (.slice x3_a x3_l x3_c)).setCell ⟨b8, 1, none⟩ (.slice x4_a x4_l x4_c)) := (((But.refl _ U9).setCell 0 (.slice x3_a x3_l x3_c)).setCell 1 (.slice x4_a x4_l x4_c))
          have I4 : Hid (IHolds _ (b8) 38 [(.slice x3_a x3_l x3_c), (.slice x4_a x4_l x4_c)]) := ((Jm.out.set 0 (.slice x3_a x3_l x3_c)).set 1 (.slice x4_a x4_l x4_c))
          replace B : Hid (Below w.heap.size w ((U9.setCell ⟨b8, 0, none⟩ (.slice x3_a x3_l x3_c)).setCell ⟨b8, 1, none⟩ (.slice x4_a x4_l x4_c))) := ((B.out.setCell (by first | exact Nat.le_refl _ | exact ge_m.out | (show w.heap.size ≤ b8; omega)) _).setCell (by first | exact Nat.le_refl _ | exact ge_m.out | (show w.heap.size ≤ b8; omega)) _)
          replace Jf := tJ Jf hBut (by first | exact ne_f_m.out | exact fun h => ne_m_f.out h.symm | omega)
          replace Jg := tJ Jg hBut (by first | exact ne_g_m.out | exact fun h => ne_m_g.out h.symm | omega)
          replace Jr := tJ Jr hBut (by first | exact ne_r_m.out | exact fun h => ne_m_r.out h.symm | omega)
          replace Jl := tJ Jl hBut (by first | exact ne_l_m.out | exact fun h => ne_m_l.out h.symm | omega)
          replace Nx1 := tN Nx1 Jm (by simp) hBut
          replace Nx2 := tN Nx2 Jm (by simp) hBut
          replace Nx3 := tN Nx3 Jm (by simp) hBut
          replace Nx4 := tN Nx4 Jm (by simp) hBut
          replace Jm := I4
          clear I4 hBut
          go_simp
          try go_wp2_with fail
          clear zm_0 zm_1
          clear f0
          generalize ((U9.setCell ⟨b8, 0, none⟩ (.slice x3_a x3_l x3_c)).setCell ⟨b8, 1, none⟩ (.slice x4_a x4_l x4_c)) = U10 at *
          refine hK.out _ _ (⟨Jf.out, Jg.out⟩) (fun hHeld7 => ?_)
          clear hK K
          try simp only [Act.put, y1, y2, y3, y4, y5, y6, y7]
          refine wpAnyH_done (by kernel_rfl) ?_ _
          clear hHeld7
          go_wp2_with fail
          go_meet
          case rel => exact ⟨_, _, _, _, _, _, rfl, rfl, Jl.out, Jm.out, Nx1.out, Nx2.out, Nx3.out, Nx4.out, fun h => ne_r_l.out h.symm, fun h => ne_r_m.out h.symm, Jr.out, B.out⟩
        · clear hHeld3
          go_simp
          have ne_f_m := nJ Jf
          have ne_g_m := nJ Jg
          have ne_r_m := nJ Jr
          have ge_m : Hid (w.heap.size ≤ U4.heap.size) := B.out.size
          have hb := nB U4 (.cells #[(.slice none 0 0), (.slice none 0 0)] 38)
          have Jm : Hid (IHolds (U4.alloc (.cells #[(.slice none 0 0), (.slice none 0 0)] 38)) U4.heap.size 38 [(.slice none 0 0), (.slice none 0 0)]) := IHolds.new _ _ _
          replace B := aB B hb
          replace Jf := aJ Jf hb
          replace Jg := aJ Jg hb
          replace Jr := aJ Jr hb
          replace Nx1 := aN Nx1 hb
          replace Nx2 := aN Nx2 hb
          replace Nx3 := aN Nx3 hb
          replace Nx4 := aN Nx4 hb
          clear hb
          generalize (U4.alloc (.cells #[(.slice none 0 0), (.slice none 0 0)] 38)) = U11 at *
          generalize U4.heap.size = b12 at *
          refine hK.out _ _ (⟨Jf.out, Jg.out⟩) (fun hHeld8 => ?_)
          clear hK K
          try simp only [Act.put, y1, y2, y3, y4, y5, y6, y7]
          refine wpAnyH_ready (rs := [10]) (by kernel_rfl) (by simp) ?_
          refine AllReadyH.cons rfl (fun K hK => ?_) AllReadyH.nil
          clear hHeld8
          go_simp
          have ne_f_l := nJ Jf
          have ne_g_l := nJ Jg
          have ne_r_l := nJ Jr
          have ne_m_l := nJ Jm
          have ge_l : Hid (w.heap.size ≤ U11.heap.size) := B.out.size
          have hb := nB U11 (.cells #[(.slice none 0 0), (.slice none 0 0)] 38)
          have Jl : Hid (IHolds (U11.alloc (.cells #[(.slice none 0 0), (.slice none 0 0)] 38)) U11.heap.size 38 [(.slice none 0 0), (.slice none 0 0)]) := IHolds.new _ _ _
          replace B := aB B hb
          replace Jf := aJ Jf hb
          replace Jg := aJ Jg hb
          replace Jr := aJ Jr hb
          replace Jm := aJ Jm hb
          replace Nx1 := aN Nx1 hb
          replace Nx2 := aN Nx2 hb
          replace Nx3 := aN Nx3 hb
          replace Nx4 := aN Nx4 hb
          clear hb
          generalize (U11.alloc (.cells #[(.slice none 0 0), (.slice none 0 0)] 38)) = U13 at *
          generalize U11.heap.size = b14 at *
          refine hK.out _ _ (⟨Jf.out, Jg.out⟩) (fun hHeld9 => ?_)
          clear hK K
          try simp only [Act.put, y1, y2, y3, y4, y5, y6, y7]
          refine wpAnyH_ready (rs := [12]) (by kernel_rfl) (by simp) ?_
          refine AllReadyH.cons rfl (fun K hK => ?_) AllReadyH.nil
          clear hHeld9
          obtain ⟨x1_a, x1_l, x1_c, rfl⟩ := sN Nx1
          obtain ⟨x2_a, x2_l, x2_c, rfl⟩ := sN Nx2
          obtain ⟨zl_0, zl_1⟩ := cJ Jl
          have f0 := fJ Jl
          have hBut : But (b14) U13 ((U13.setCell ⟨b14, 0, none⟩ (.slice x1_a x1_l x1_c)).setCell ⟨b14, 1, none⟩ (.slice x2_a x2_l x2_c)) := (((But.refl _ U13).setCell 0 (.slice x1_a x1_l x1_c)).setCell 1 (.slice x2_a x2_l x2_c))
          have I4 : Hid (IHolds _ (b14) 38 [(.slice x1_a x1_l x1_c), (.slice x2_a x2_l x2_c)]) := ((Jl.out.set 0 (.slice x1_a x1_l x1_c)).set 1 (.slice x2_a x2_l x2_c))
          replace B : Hid (Below w.heap.size w ((U13.setCell ⟨b14, 0, none⟩ (.slice x1_a x1_l x1_c)).setCell ⟨b14, 1, none⟩ (.slice x2_a x2_l x2_c))) := ((B.out.setCell (by first | exact Nat.le_refl _ | exact ge_l.out | (show w.heap.size ≤ b14; omega)) _).setCell (by first | exact Nat.le_refl _ | exact ge_l.out | (show w.heap.size ≤ b14; omega)) _)
          replace Jf := tJ Jf hBut (by first | exact ne_f_l.out | exact fun h => ne_l_f.out h.symm | omega)
          replace Jg := tJ Jg hBut (by first | exact ne_g_l.out | exact fun h => ne_l_g.out h.symm | omega)
          replace Jr := tJ Jr hBut (by first | exact ne_r_l.out | exact fun h => ne_l_r.out h.symm | omega)
          replace Jm := tJ Jm hBut (by first | exact ne_m_l.out | exact fun h => ne_l_m.out h.symm | omega)
          replace Nx1 := tN Nx1 Jl (by simp) hBut
          replace Nx2 := tN Nx2 Jl (by simp) hBut
          replace Nx3 := tN Nx3 Jl (by simp) hBut
          replace Nx4 := tN Nx4 Jl (by simp) hBut
          replace Jl := I4
          clear I4 hBut
          go_simp
          try go_wp2_with fail
          clear zl_0 zl_1
          clear f0
          generalize ((U13.setCell ⟨b14, 0, none⟩ (.slice x1_a x1_l x1_c)).setCell ⟨b14, 1, none⟩ (.slice x2_a x2_l x2_c)) = U15 at *
          refine hK.out _ _ (⟨Jf.out, Jg.out⟩) (fun hHeld10 => ?_)
          clear hK K
          try simp only [Act.put, y1, y2, y3, y4, y5, y6, y7]
          refine wpAnyH_ready (rs := [13]) (by kernel_rfl) (by simp) ?_
          refine AllReadyH.cons rfl (fun K hK => ?_) AllReadyH.nil
          clear hHeld10
          obtain ⟨x3_a, x3_l, x3_c, rfl⟩ := sN Nx3
          obtain ⟨x4_a, x4_l, x4_c, rfl⟩ := sN Nx4
          obtain ⟨zm_0, zm_1⟩ := cJ Jm
          have f0 := fJ Jm
          have hBut : But (b12) U15 ((U15.setCell ⟨b12, 0, none⟩ (.slice x3_a x3_l x3_c)).setCell ⟨b12, 1, none⟩ (.slice x4_a x4_l x4_c)) := (((But.refl _ U15).setCell 0 (.slice x3_a x3_l x3_c)).setCell 1 (.slice x4_a x4_l x4_c))
          have I4 : Hid (IHolds _ (b12) 38 [(.slice x3_a x3_l x3_c), (.slice x4_a x4_l x4_c)]) := ((Jm.out.set 0 (.slice x3_a x3_l x3_c)).set 1 (.slice x4_a x4_l x4_c))
          replace B : Hid (Below w.heap.size w ((U15.setCell ⟨b12, 0, none⟩ (.slice x3_a x3_l x3_c)).setCell ⟨b12, 1, none⟩ (.slice x4_a x4_l x4_c))) := ((B.out.setCell (by first | exact Nat.le_refl _ | exact ge_m.out | (show w.heap.size ≤ b12; omega)) _).setCell (by first | exact Nat.le_refl _ | exact ge_m.out | (show w.heap.size ≤ b12; omega)) _)
          replace Jf := tJ Jf hBut (by first | exact ne_f_m.out | exact fun h => ne_m_f.out h.symm | omega)
          replace Jg := tJ Jg hBut (by first | exact ne_g_m.out | exact fun h => ne_m_g.out h.symm | omega)
          replace Jr := tJ Jr hBut (by first | exact ne_r_m.out | exact fun h => ne_m_r.out h.symm | omega)
          replace Jl := tJ Jl hBut (by first | exact ne_l_m.out | exact fun h => ne_m_l.out h.symm | omega)
          replace Nx1 := tN Nx1 Jm (by simp) hBut
          replace Nx2 := tN Nx2 Jm (by simp) hBut
          replace Nx3 := tN Nx3 Jm (by simp) hBut
          replace Nx4 := tN Nx4 Jm (by simp) hBut
          replace Jm := I4
          clear I4 hBut
          go_simp
          try go_wp2_with fail
          clear zm_0 zm_1
          clear f0
          generalize ((U15.setCell ⟨b12, 0, none⟩ (.slice x3_a x3_l x3_c)).setCell ⟨b12, 1, none⟩ (.slice x4_a x4_l x4_c)) = U16 at *
          refine hK.out _ _ (⟨Jf.out, Jg.out⟩) (fun hHeld11 => ?_)
          clear hK K
          try simp only [Act.put, y1, y2, y3, y4, y5, y6, y7]
          refine wpAnyH_done (by kernel_rfl) ?_ _
          clear hHeld11
          go_wp2_with fail
          go_meet
          case rel => exact ⟨_, _, _, _, _, _, rfl, rfl, Jl.out, Jm.out, Nx1.out, Nx2.out, Nx3.out, Nx4.out, fun h => ne_r_l.out h.symm, fun h => ne_r_m.out h.symm, Jr.out, B.out⟩
      · clear hHeld2
        go_simp
        have ne_f_l := nJ Jf
        have ne_g_l := nJ Jg
        have ne_r_l := nJ Jr
        have ge_l : Hid (w.heap.size ≤ U3.heap.size) := B.out.size
        have hb := nB U3 (.cells #[(.slice none 0 0), (.slice none 0 0)] 38)
        have Jl : Hid (IHolds (U3.alloc (.cells #[(.slice none 0 0), (.slice none 0 0)] 38)) U3.heap.size 38 [(.slice none 0 0), (.slice none 0 0)]) := IHolds.new _ _ _
        replace B := aB B hb
        replace Jf := aJ Jf hb
        replace Jg := aJ Jg hb
        replace Jr := aJ Jr hb
        replace Nx1 := aN Nx1 hb
        replace Nx2 := aN Nx2 hb
        clear hb
        generalize (U3.alloc (.cells #[(.slice none 0 0), (.slice none 0 0)] 38)) = U17 at *
        generalize U3.heap.size = b18 at *
        refine hK.out _ _ (⟨Jf.out, Jg.out⟩) (fun hHeld12 => ?_)
        clear hK K
        try simp only [Act.put, y1, y2, y3, y4, y5, y6, y7]
        refine wpAnyH_ready (rs := [9, 11]) (by kernel_rfl) (by simp) ?_
        refine AllReadyH.cons rfl (fun K hK => ?_) (AllReadyH.cons rfl (fun K hK => ?_) AllReadyH.nil)
        · clear hHeld12
          go_simp
          refine (C2.out U17 B.out).mono ?_
          rintro e U19 ⟨⟨x3, x4, rfl, hv, hv'⟩, hb⟩
          have Nx3 : Hid (NumV U19 1000000000 (a2) x3) := hv
          have Nx4 : Hid (NumV U19 1000000000 (e2) x4) := hv'
          clear hv hv'
          replace B := aB B hb
          replace Jf := aJ Jf hb
          replace Jg := aJ Jg hb
          replace Jr := aJ Jr hb
          replace Jl := aJ Jl hb
          replace Nx1 := aN Nx1 hb
          replace Nx2 := aN Nx2 hb
          clear hb
          go_wp2_with fail
          refine hK.out _ _ (⟨Jf.out, Jg.out⟩) (fun hHeld13 => ?_)
          clear hK K
          try simp only [Act.put, y1, y2, y3, y4, y5, y6, y7]
          refine wpAnyH_ready (rs := [11]) (by kernel_rfl) (by simp) ?_
          refine AllReadyH.cons rfl (fun K hK => ?_) AllReadyH.nil
          clear hHeld13
          go_simp
          have ne_f_m := nJ Jf
          have ne_g_m := nJ Jg
          have ne_r_m := nJ Jr
          have ne_l_m := nJ Jl
          have ge_m : Hid (w.heap.size ≤ U19.heap.size) := B.out.size
          have hb := nB U19 (.cells #[(.slice none 0 0), (.slice none 0 0)] 38)
          have Jm : Hid (IHolds (U19.alloc (.cells #[(.slice none 0 0), (.slice none 0 0)] 38)) U19.heap.size 38 [(.slice none 0 0), (.slice none 0 0)]) := IHolds.new _ _ _
          replace B := aB B hb
          replace Jf := aJ Jf hb
          replace Jg := aJ Jg hb
          replace Jr := aJ Jr hb
          replace Jl := aJ Jl hb
          replace Nx1 := aN Nx1 hb
          replace Nx2 := aN Nx2 hb
          replace Nx3 := aN Nx3 hb
          replace Nx4 := aN Nx4 hb
          clear hb
          generalize (U19.alloc (.cells #[(.slice none 0 0), (.slice none 0 0)] 38)) = U20 at *
          generalize U19.heap.size = b21 at *
          refine hK.out _ _ (⟨Jf.out, Jg.out⟩) (fun hHeld14 => ?_)
          clear hK K
          try simp only [Act.put, y1, y2, y3, y4, y5, y6, y7]
          refine wpAnyH_ready (rs := [12]) (by kernel_rfl) (by simp) ?_
          refine AllReadyH.cons rfl (fun K hK => ?_) AllReadyH.nil
          clear hHeld14
          obtain ⟨x1_a, x1_l, x1_c, rfl⟩ := sN Nx1
          obtain ⟨x2_a, x2_l, x2_c, rfl⟩ := sN Nx2
          obtain ⟨zl_0, zl_1⟩ := cJ Jl
          have f0 := fJ Jl
          have hBut : But (b18) U20 ((U20.setCell ⟨b18, 0, none⟩ (.slice x1_a x1_l x1_c)).setCell ⟨b18, 1, none⟩ (.slice x2_a x2_l x2_c)) := (((But.refl _ U20).setCell 0 (.slice x1_a x1_l x1_c)).setCell 1 (.slice x2_a x2_l x2_c))
          have I4 : Hid (IHolds _ (b18) 38 [(.slice x1_a x1_l x1_c), (.slice x2_a x2_l x2_c)]) := ((Jl.out.set 0 (.slice x1_a x1_l x1_c)).set 1 (.slice x2_a x2_l x2_c))
          replace B : Hid (Below w.heap.size w ((U20.setCell ⟨b18, 0, none⟩ (.slice x1_a x1_l x1_c)).setCell ⟨b18, 1, none⟩ (.slice x2_a x2_l x2_c))) := ((B.out.setCell (by first | exact Nat.le_refl _ | exact ge_l.out | (show w.heap.size ≤ b18; omega)) _).setCell (by first | exact Nat.le_refl _ | exact ge_l.out | (show w.heap.size ≤ b18; omega)) _)
          replace Jf := tJ Jf hBut (by first | exact ne_f_l.out | exact fun h => ne_l_f.out h.symm | omega)
          replace Jg := tJ Jg hBut (by first | exact ne_g_l.out | exact fun h => ne_l_g.out h.symm | omega)
          replace Jr := tJ Jr hBut (by first | exact ne_r_l.out | exact fun h => ne_l_r.out h.symm | omega)
          replace Jm := tJ Jm hBut (by first | exact ne_m_l.out | exact fun h => ne_l_m.out h.symm | omega)
          replace Nx1 := tN Nx1 Jl (by simp) hBut
          replace Nx2 := tN Nx2 Jl (by simp) hBut
          replace Nx3 := tN Nx3 Jl (by simp) hBut
          replace Nx4 := tN Nx4 Jl (by simp) hBut
          replace Jl := I4
          clear I4 hBut
          go_simp
          try go_wp2_with fail
          clear zl_0 zl_1
          clear f0
          generalize ((U20.setCell ⟨b18, 0, none⟩ (.slice x1_a x1_l x1_c)).setCell ⟨b18, 1, none⟩ (.slice x2_a x2_l x2_c)) = U22 at *
          refine hK.out _ _ (⟨Jf.out, Jg.out⟩) (fun hHeld15 => ?_)
          clear hK K
          try simp only [Act.put, y1, y2, y3, y4, y5, y6, y7]
          refine wpAnyH_ready (rs := [13]) (by kernel_rfl) (by simp) ?_
          refine AllReadyH.cons rfl (fun K hK => ?_) AllReadyH.nil
          clear hHeld15
          obtain ⟨x3_a, x3_l, x3_c, rfl⟩ := sN Nx3
          obtain ⟨x4_a, x4_l, x4_c, rfl⟩ := sN Nx4
          obtain ⟨zm_0, zm_1⟩ := cJ Jm
          have f0 := fJ Jm
          have hBut : But (b21) U22 ((U22.setCell ⟨b21, 0, none⟩ (.slice x3_a x3_l x3_c)).setCell ⟨b21, 1, none⟩ (.slice x4_a x4_l x4_c)) := (((But.refl _ U22).setCell 0 (.slice x3_a x3_l x3_c)).setCell 1 (.slice x4_a x4_l x4_c))
          have I4 : Hid (IHolds _ (b21) 38 [(.slice x3_a x3_l x3_c), (.slice x4_a x4_l x4_c)]) := ((Jm.out.set 0 (.slice x3_a x3_l x3_c)).set 1 (.slice x4_a x4_l x4_c))
          replace B : Hid (Below w.heap.size w ((U22.setCell ⟨b21, 0, none⟩ (.slice x3_a x3_l x3_c)).setCell ⟨b21, 1, none⟩ (.slice x4_a x4_l x4_c))) := ((B.out.setCell (by first | exact Nat.le_refl _ | exact ge_m.out | (show w.heap.size ≤ b21; omega)) _).setCell (by first | exact Nat.le_refl _ | exact ge_m.out | (show w.heap.size ≤ b21; omega)) _)
          replace Jf := tJ Jf hBut (by first | exact ne_f_m.out | exact fun h => ne_m_f.out h.symm | omega)
          replace Jg := tJ Jg hBut (by first | exact ne_g_m.out | exact fun h => ne_m_g.out h.symm | omega)
          replace Jr := tJ Jr hBut (by first | exact ne_r_m.out | exact fun h => ne_m_r.out h.symm | omega)
          replace Jl := tJ Jl hBut (by first | exact ne_l_m.out | exact fun h => ne_m_l.out h.symm | omega)
          replace Nx1 := tN Nx1 Jm (by simp) hBut
          replace Nx2 := tN Nx2 Jm (by simp) hBut
          replace Nx3 := tN Nx3 Jm (by simp) hBut
          replace Nx4 := tN Nx4 Jm (by simp) hBut
          replace Jm := I4
          clear I4 hBut
          go_simp
          try go_wp2_with fail
          clear zm_0 zm_1
          clear f0
          generalize ((U22.setCell ⟨b21, 0, none⟩ (.slice x3_a x3_l x3_c)).setCell ⟨b21, 1, none⟩ (.slice x4_a x4_l x4_c)) = U23 at *
          refine hK.out _ _ (⟨Jf.out, Jg.out⟩) (fun hHeld16 => ?_)
          clear hK K
          try simp only [Act.put, y1, y2, y3, y4, y5, y6, y7]
          refine wpAnyH_done (by kernel_rfl) ?_ _
          clear hHeld16
          go_wp2_with fail
          go_meet
          case rel => exact ⟨_, _, _, _, _, _, rfl, rfl, Jl.out, Jm.out, Nx1.out, Nx2.out, Nx3.out, Nx4.out, fun h => ne_r_l.out h.symm, fun h => ne_r_m.out h.symm, Jr.out, B.out⟩
        · clear hHeld12
          go_simp
          have ne_f_m := nJ Jf
          have ne_g_m := nJ Jg
          have ne_r_m := nJ Jr
          have ne_l_m := nJ Jl
          have ge_m : Hid (w.heap.size ≤ U17.heap.size) := B.out.size
          have hb := nB U17 (.cells #[(.slice none 0 0), (.slice none 0 0)] 38)
          have Jm : Hid (IHolds (U17.alloc (.cells #[(.slice none 0 0), (.slice none 0 0)] 38)) U17.heap.size 38 [(.slice none 0 0), (.slice none 0 0)]) := IHolds.new _ _ _
          replace B := aB B hb
          replace Jf := aJ Jf hb
          replace Jg := aJ Jg hb
          replace Jr := aJ Jr hb
          replace Jl := aJ Jl hb
          replace Nx1 := aN Nx1 hb
          replace Nx2 := aN Nx2 hb
          clear hb
          generalize (U17.alloc (.cells #[(.slice none 0 0), (.slice none 0 0)] 38)) = U24 at *
          generalize U17.heap.size = b25 at *
          refine hK.out _ _ (⟨Jf.out, Jg.out⟩) (fun hHeld17 => ?_)
          clear hK K
          try simp only [Act.put, y1, y2, y3, y4, y5, y6, y7]
          refine wpAnyH_ready (rs := [9]) (by kernel_rfl) (by simp) ?_
          refine AllReadyH.cons rfl (fun K hK => ?_) AllReadyH.nil
          clear hHeld17
          go_simp
          refine (C2.out U24 B.out).mono ?_
          rintro e U26 ⟨⟨x3, x4, rfl, hv, hv'⟩, hb⟩
          have Nx3 : Hid (NumV U26 1000000000 (a2) x3) := hv
          have Nx4 : Hid (NumV U26 1000000000 (e2) x4) := hv'
          clear hv hv'
          replace B := aB B hb
          replace Jf := aJ Jf hb
          replace Jg := aJ Jg hb
          replace Jr := aJ Jr hb
          replace Jl := aJ Jl hb
          replace Jm := aJ Jm hb
          replace Nx1 := aN Nx1 hb
          replace Nx2 := aN Nx2 hb
          clear hb
          go_wp2_with fail
          refine hK.out _ _ (⟨Jf.out, Jg.out⟩) (fun hHeld18 => ?_)
          clear hK K
          try simp only [Act.put, y1, y2, y3, y4, y5, y6, y7]
          refine wpAnyH_ready (rs := [12]) (by kernel_rfl) (by simp) ?_
          refine AllReadyH.cons rfl (fun K hK => ?_) AllReadyH.nil
          clear hHeld18
          obtain ⟨x1_a, x1_l, x1_c, rfl⟩ := sN Nx1
          obtain ⟨x2_a, x2_l, x2_c, rfl⟩ := sN Nx2
          obtain ⟨zl_0, zl_1⟩ := cJ Jl
          have f0 := fJ Jl
          have hBut : But (b18) U26 ((U26.setCell ⟨b18, 0, none⟩ (.slice x1_a x1_l x1_c)).setCell ⟨b18, 1, none⟩ (.slice x2_a x2_l x2_c)) := (((But.refl _ U26).setCell 0 (.slice x1_a x1_l x1_c)).setCell 1 (.slice x2_a x2_l x2_c))
          have I4 : Hid (IHolds _ (b18) 38 [(.slice x1_a x1_l x1_c), (.slice x2_a x2_l x2_c)]) := ((Jl.out.set 0 (.slice x1_a x1_l x1_c)).set 1 (.slice x2_a x2_l x2_c))
          replace B : Hid (Below w.heap.size w ((U26.setCell ⟨b18, 0, none⟩ (.slice x1_a x1_l x1_c)).setCell ⟨b18, 1, none⟩ (.slice x2_a x2_l x2_c))) := ((B.out.setCell (by first | exact Nat.le_refl _ | exact ge_l.out | (show w.heap.size ≤ b18; omega)) _).setCell (by first | exact Nat.le_refl _ | exact ge_l.out | (show w.heap.size ≤ b18; omega)) _)
          replace Jf := tJ Jf hBut (by first | exact ne_f_l.out | exact fun h => ne_l_f.out h.symm | omega)
          replace Jg := tJ Jg hBut (by first | exact ne_g_l.out | exact fun h => ne_l_g.out h.symm | omega)
          replace Jr := tJ Jr hBut (by first | exact ne_r_l.out | exact fun h => ne_l_r.out h.symm | omega)
          replace Jm := tJ Jm hBut (by first | exact ne_m_l.out | exact fun h => ne_l_m.out h.symm | omega)
          replace Nx1 := tN Nx1 Jl (by simp) hBut
          replace Nx2 := tN Nx2 Jl (by simp) hBut
          replace Nx3 := tN Nx3 Jl (by simp) hBut
          replace Nx4 := tN Nx4 Jl (by simp) hBut
          replace Jl := I4
          clear I4 hBut
          go_simp
          try go_wp2_with fail
          clear zl_0 zl_1
          clear f0
          generalize ((U26.setCell ⟨b18, 0, none⟩ (.slice x1_a x1_l x1_c)).setCell ⟨b18, 1, none⟩ (.slice x2_a x2_l x2_c)) = U27 at *
          refine hK.out _ _ (⟨Jf.out, Jg.out⟩) (fun hHeld19 => ?_)
          clear hK K
          try simp only [Act.put, y1, y2, y3, y4, y5, y6, y7]
          refine wpAnyH_ready (rs := [13]) (by kernel_rfl) (by simp) ?_
          refine AllReadyH.cons rfl (fun K hK => ?_) AllReadyH.nil
          clear hHeld19
          obtain ⟨x3_a, x3_l, x3_c, rfl⟩ := sN Nx3
          obtain ⟨x4_a, x4_l, x4_c, rfl⟩ := sN Nx4
          obtain ⟨zm_0, zm_1⟩ := cJ Jm
          have f0 := fJ Jm
          have hBut : But (b25) U27 ((U27.setCell ⟨b25, 0, none⟩ (.slice x3_a x3_l x3_c)).setCell ⟨b25, 1, none⟩ (.slice x4_a x4_l x4_c)) := (((But.refl _ U27).setCell 0 (.slice x3_a x3_l x3_c)).setCell 1 (.slice x4_a x4_l x4_c))
          have I4 : Hid (IHolds _ (b25) 38 [(.slice x3_a x3_l x3_c), (.slice x4_a x4_l x4_c)]) := ((Jm.out.set 0 (.slice x3_a x3_l x3_c)).set 1 (.slice x4_a x4_l x4_c))
          replace B : Hid (Below w.heap.size w ((U27.setCell ⟨b25, 0, none⟩ (.slice x3_a x3_l x3_c)).setCell ⟨b25, 1, none⟩ (.slice x4_a x4_l x4_c))) := ((B.out.setCell (by first | exact Nat.le_refl _ | exact ge_m.out | (show w.heap.size ≤ b25; omega)) _).setCell (by first | exact Nat.le_refl _ | exact ge_m.out | (show w.heap.size ≤ b25; omega)) _)
          replace Jf := tJ Jf hBut (by first | exact ne_f_m.out | exact fun h => ne_m_f.out h.symm | omega)
          replace Jg := tJ Jg hBut (by first | exact ne_g_m.out | exact fun h => ne_m_g.out h.symm | omega)
          replace Jr := tJ Jr hBut (by first | exact ne_r_m.out | exact fun h => ne_m_r.out h.symm | omega)
          replace Jl := tJ Jl hBut (by first | exact ne_l_m.out | exact fun h => ne_m_l.out h.symm | omega)
          replace Nx1 := tN Nx1 Jm (by simp) hBut
          replace Nx2 := tN Nx2 Jm (by simp) hBut
          replace Nx3 := tN Nx3 Jm (by simp) hBut
          replace Nx4 := tN Nx4 Jm (by simp) hBut
          replace Jm := I4
          clear I4 hBut
          go_simp
          try go_wp2_with fail
          clear zm_0 zm_1
          clear f0
          generalize ((U27.setCell ⟨b25, 0, none⟩ (.slice x3_a x3_l x3_c)).setCell ⟨b25, 1, none⟩ (.slice x4_a x4_l x4_c)) = U28 at *
          refine hK.out _ _ (⟨Jf.out, Jg.out⟩) (fun hHeld20 => ?_)
          clear hK K
          try simp only [Act.put, y1, y2, y3, y4, y5, y6, y7]
          refine wpAnyH_done (by kernel_rfl) ?_ _
          clear hHeld20
          go_wp2_with fail
          go_meet
          case rel => exact ⟨_, _, _, _, _, _, rfl, rfl, Jl.out, Jm.out, Nx1.out, Nx2.out, Nx3.out, Nx4.out, fun h => ne_r_l.out h.symm, fun h => ne_r_m.out h.symm, Jr.out, B.out⟩
      · clear hHeld2
        go_simp
        have ne_f_m := nJ Jf
        have ne_g_m := nJ Jg
        have ne_r_m := nJ Jr
        have ge_m : Hid (w.heap.size ≤ U3.heap.size) := B.out.size
        have hb := nB U3 (.cells #[(.slice none 0 0), (.slice none 0 0)] 38)
        have Jm : Hid (IHolds (U3.alloc (.cells #[(.slice none 0 0), (.slice none 0 0)] 38)) U3.heap.size 38 [(.slice none 0 0), (.slice none 0 0)]) := IHolds.new _ _ _
        replace B := aB B hb
        replace Jf := aJ Jf hb
        replace Jg := aJ Jg hb
        replace Jr := aJ Jr hb
        replace Nx1 := aN Nx1 hb
        replace Nx2 := aN Nx2 hb
        clear hb
        generalize (U3.alloc (.cells #[(.slice none 0 0), (.slice none 0 0)] 38)) = U29 at *
        generalize U3.heap.size = b30 at *
        refine hK.out _ _ (⟨Jf.out, Jg.out⟩) (fun hHeld21 => ?_)
        clear hK K
        try simp only [Act.put, y1, y2, y3, y4, y5, y6, y7]
        refine wpAnyH_ready (rs := [9, 10]) (by kernel_rfl) (by simp) ?_
        refine AllReadyH.cons rfl (fun K hK => ?_) (AllReadyH.cons rfl (fun K hK => ?_) AllReadyH.nil)
        · clear hHeld21
          go_simp
          refine (C2.out U29 B.out).mono ?_
          rintro e U31 ⟨⟨x3, x4, rfl, hv, hv'⟩, hb⟩
          have Nx3 : Hid (NumV U31 1000000000 (a2) x3) := hv
          have Nx4 : Hid (NumV U31 1000000000 (e2) x4) := hv'
          clear hv hv'
          replace B := aB B hb
          replace Jf := aJ Jf hb
          replace Jg := aJ Jg hb
          replace Jr := aJ Jr hb
          replace Jm := aJ Jm hb
          replace Nx1 := aN Nx1 hb
          replace Nx2 := aN Nx2 hb
          clear hb
          go_wp2_with fail
          refine hK.out _ _ (⟨Jf.out, Jg.out⟩) (fun hHeld22 => ?_)
          clear hK K
          try simp only [Act.put, y1, y2, y3, y4, y5, y6, y7]
          refine wpAnyH_ready (rs := [10]) (by kernel_rfl) (by simp) ?_
          refine AllReadyH.cons rfl (fun K hK => ?_) AllReadyH.nil
          clear hHeld22
          go_simp
          have ne_f_l := nJ Jf
          have ne_g_l := nJ Jg
          have ne_r_l := nJ Jr
          have ne_m_l := nJ Jm
          have ge_l : Hid (w.heap.size ≤ U31.heap.size) := B.out.size
          have hb := nB U31 (.cells #[(.slice none 0 0), (.slice none 0 0)] 38)
          have Jl : Hid (IHolds (U31.alloc (.cells #[(.slice none 0 0), (.slice none 0 0)] 38)) U31.heap.size 38 [(.slice none 0 0), (.slice none 0 0)]) := IHolds.new _ _ _
          replace B := aB B hb
          replace Jf := aJ Jf hb
          replace Jg := aJ Jg hb
          replace Jr := aJ Jr hb
          replace Jm := aJ Jm hb
          replace Nx1 := aN Nx1 hb
          replace Nx2 := aN Nx2 hb
          replace Nx3 := aN Nx3 hb
          replace Nx4 := aN Nx4 hb
          clear hb
          generalize (U31.alloc (.cells #[(.slice none 0 0), (.slice none 0 0)] 38)) = U32 at *
          generalize U31.heap.size = b33 at *
          refine hK.out _ _ (⟨Jf.out, Jg.out⟩) (fun hHeld23 => ?_)
          clear hK K
          try simp only [Act.put, y1, y2, y3, y4, y5, y6, y7]
          refine wpAnyH_ready (rs := [12]) (by kernel_rfl) (by simp) ?_
          refine AllReadyH.cons rfl (fun K hK => ?_) AllReadyH.nil
          clear hHeld23
          obtain ⟨x1_a, x1_l, x1_c, rfl⟩ := sN Nx1
          obtain ⟨x2_a, x2_l, x2_c, rfl⟩ := sN Nx2
          obtain ⟨zl_0, zl_1⟩ := cJ Jl
          have f0 := fJ Jl
          have hBut : But (b33) U32 ((U32.setCell ⟨b33, 0, none⟩ (.slice x1_a x1_l x1_c)).setCell ⟨b33, 1, none⟩ (.slice x2_a x2_l x2_c)) := (((But.refl _ U32).setCell 0 (.slice x1_a x1_l x1_c)).setCell 1 (.slice x2_a x2_l x2_c))
          have I4 : Hid (IHolds _ (b33) 38 [(.slice x1_a x1_l x1_c), (.slice x2_a x2_l x2_c)]) := ((Jl.out.set 0 (.slice x1_a x1_l x1_c)).set 1 (.slice x2_a x2_l x2_c))
          replace B : Hid (Below w.heap.size w ((U32.setCell ⟨b33, 0, none⟩ (.slice x1_a x1_l x1_c)).setCell ⟨b33, 1, none⟩ (.slice x2_a x2_l x2_c))) := ((B.out.setCell (by first | exact Nat.le_refl _ | exact ge_l.out | (show w.heap.size ≤ b33; omega)) _).setCell (by first | exact Nat.le_refl _ | exact ge_l.out | (show w.heap.size ≤ b33; omega)) _)
          replace Jf := tJ Jf hBut (by first | exact ne_f_l.out | exact fun h => ne_l_f.out h.symm | omega)
          replace Jg := tJ Jg hBut (by first | exact ne_g_l.out | exact fun h => ne_l_g.out h.symm | omega)
          replace Jr := tJ Jr hBut (by first | exact ne_r_l.out | exact fun h => ne_l_r.out h.symm | omega)
          replace Jm := tJ Jm hBut (by first | exact ne_m_l.out | exact fun h => ne_l_m.out h.symm | omega)
          replace Nx1 := tN Nx1 Jl (by simp) hBut
          replace Nx2 := tN Nx2 Jl (by simp) hBut
          replace Nx3 := tN Nx3 Jl (by simp) hBut
          replace Nx4 := tN Nx4 Jl (by simp) hBut
          replace Jl := I4
          clear I4 hBut
          go_simp
          try go_wp2_with fail
          clear zl_0 zl_1
          clear f0
          generalize ((U32.setCell ⟨b33, 0, none⟩ (.slice x1_a x1_l x1_c)).setCell ⟨b33, 1, none⟩ (.slice x2_a x2_l x2_c)) = U34 at *
          refine hK.out _ _ (⟨Jf.out, Jg.out⟩) (fun hHeld24 => ?_)
          clear hK K
          try simp only [Act.put, y1, y2, y3, y4, y5, y6, y7]
          refine wpAnyH_ready (rs := [13]) (by kernel_rfl) (by simp) ?_
          refine AllReadyH.cons rfl (fun K hK => ?_) AllReadyH.nil
          clear hHeld24
          obtain ⟨x3_a, x3_l, x3_c, rfl⟩ := sN Nx3
          obtain ⟨x4_a, x4_l, x4_c, rfl⟩ := sN Nx4
          obtain ⟨zm_0, zm_1⟩ := cJ Jm
          have f0 := fJ Jm
          have hBut : But (b30) U34 ((U34.setCell ⟨b30, 0, none⟩ (.slice x3_a x3_l x3_c)).setCell ⟨b30, 1, none⟩ (.slice x4_a x4_l x4_c)) := (((But.refl _ U34).setCell 0 (.slice x3_a x3_l x3_c)).setCell 1 (.slice x4_a x4_l x4_c))
          have I4 : Hid (IHolds _ (b30) 38 [(.slice x3_a x3_l x3_c), (.slice x4_a x4_l x4_c)]) := ((Jm.out.set 0 (.slice x3_a x3_l x3_c)).set 1 (.slice x4_a x4_l x4_c))
          replace B : Hid (Below w.heap.size w ((U34.setCell ⟨b30, 0, none⟩ (.slice x3_a x3_l x3_c)).setCell ⟨b30, 1, none⟩ (.slice x4_a x4_l x4_c))) := ((B.out.setCell (by first | exact Nat.le_refl _ | exact ge_m.out | (show w.heap.size ≤ b30; omega)) _).setCell (by first | exact Nat.le_refl _ | exact ge_m.out | (show w.heap.size ≤ b30; omega)) _)
          replace Jf := tJ Jf hBut (by first | exact ne_f_m.out | exact fun h => ne_m_f.out h.symm | omega)
          replace Jg := tJ Jg hBut (by first | exact ne_g_m.out | exact fun h => ne_m_g.out h.symm | omega)
          replace Jr := tJ Jr hBut (by first | exact ne_r_m.out | exact fun h => ne_m_r.out h.symm | omega)
          replace Jl := tJ Jl hBut (by first | exact ne_l_m.out | exact fun h => ne_m_l.out h.symm | omega)
          replace Nx1 := tN Nx1 Jm (by simp) hBut
          replace Nx2 := tN Nx2 Jm (by simp) hBut
          replace Nx3 := tN Nx3 Jm (by simp) hBut
          replace Nx4 := tN Nx4 Jm (by simp) hBut
          replace Jm := I4
          clear I4 hBut
          go_simp
          try go_wp2_with fail
          clear zm_0 zm_1
          clear f0
          generalize ((U34.setCell ⟨b30, 0, none⟩ (.slice x3_a x3_l x3_c)).setCell ⟨b30, 1, none⟩ (.slice x4_a x4_l x4_c)) = U35 at *
          refine hK.out _ _ (⟨Jf.out, Jg.out⟩) (fun hHeld25 => ?_)
          clear hK K
          try simp only [Act.put, y1, y2, y3, y4, y5, y6, y7]
          refine wpAnyH_done (by kernel_rfl) ?_ _
          clear hHeld25
          go_wp2_with fail
          go_meet
          case rel => exact ⟨_, _, _, _, _, _, rfl, rfl, Jl.out, Jm.out, Nx1.out, Nx2.out, Nx3.out, Nx4.out, fun h => ne_r_l.out h.symm, fun h => ne_r_m.out h.symm, Jr.out, B.out⟩
        · clear hHeld21
          go_simp
          have ne_f_l := nJ Jf
          have ne_g_l := nJ Jg
          have ne_r_l := nJ Jr
          have ne_m_l := nJ Jm
          have ge_l : Hid (w.heap.size ≤ U29.heap.size) := B.out.size
          have hb := nB U29 (.cells #[(.slice none 0 0), (.slice none 0 0)] 38)
          have Jl : Hid (IHolds (U29.alloc (.cells #[(.slice none 0 0), (.slice none 0 0)] 38)) U29.heap.size 38 [(.slice none 0 0), (.slice none 0 0)]) := IHolds.new _ _ _
          replace B := aB B hb
          replace Jf := aJ Jf hb
          replace Jg := aJ Jg hb
          replace Jr := aJ Jr hb
          replace Jm := aJ Jm hb
          replace Nx1 := aN Nx1 hb
          replace Nx2 := aN Nx2 hb
          clear hb
          generalize (U29.alloc (.cells #[(.slice none 0 0), (.slice none 0 0)] 38)) = U36 at *
          generalize U29.heap.size = b37 at *
          refine hK.out _ _ (⟨Jf.out, Jg.out⟩) (fun hHeld26 => ?_)
          clear hK K
          try simp only [Act.put, y1, y2, y3, y4, y5, y6, y7]
          refine wpAnyH_ready (rs := [9]) (by kernel_rfl) (by simp) ?_
          refine AllReadyH.cons rfl (fun K hK => ?_) AllReadyH.nil
          clear hHeld26
          go_simp
          refine (C2.out U36 B.out).mono ?_
          rintro e U38 ⟨⟨x3, x4, rfl, hv, hv'⟩, hb⟩
          have Nx3 : Hid (NumV U38 1000000000 (a2) x3) := hv
          have Nx4 : Hid (NumV U38 1000000000 (e2) x4) := hv'
          clear hv hv'
          replace B := aB B hb
          replace Jf := aJ Jf hb
          replace Jg := aJ Jg hb
          replace Jr := aJ Jr hb
          replace Jm := aJ Jm hb
          replace Jl := aJ Jl hb
          replace Nx1 := aN Nx1 hb
          replace Nx2 := aN Nx2 hb
          clear hb
          go_wp2_with fail
          refine hK.out _ _ (⟨Jf.out, Jg.out⟩) (fun hHeld27 => ?_)
          clear hK K
          try simp only [Act.put, y1, y2, y3, y4, y5, y6, y7]
          refine wpAnyH_ready (rs := [12]) (by kernel_rfl) (by simp) ?_
          refine AllReadyH.cons rfl (fun K hK => ?_) AllReadyH.nil
          clear hHeld27
          obtain ⟨x1_a, x1_l, x1_c, rfl⟩ := sN Nx1
          obtain ⟨x2_a, x2_l, x2_c, rfl⟩ := sN Nx2
          obtain ⟨zl_0, zl_1⟩ := cJ Jl
          have f0 := fJ Jl
          have hBut : But (b37) U38 ((U38.setCell ⟨b37, 0, none⟩ (.slice x1_a x1_l x1_c)).setCell ⟨b37, 1, none⟩ (.slice x2_a x2_l x2_c)) := (((But.refl _ U38).setCell 0 (.slice x1_a x1_l x1_c)).setCell 1 (.slice x2_a x2_l x2_c))
          have I4 : Hid (IHolds _ (b37) 38 [(.slice x1_a x1_l x1_c), (.slice x2_a x2_l x2_c)]) := ((Jl.out.set 0 (.slice x1_a x1_l x1_c)).set 1 (.slice x2_a x2_l x2_c))
          replace B : Hid (Below w.heap.size w ((U38.setCell ⟨b37, 0, none⟩ (.slice x1_a x1_l x1_c)).setCell ⟨b37, 1, none⟩ (.slice x2_a x2_l x2_c))) := ((B.out.setCell (by first | exact Nat.le_refl _ | exact ge_l.out | (show w.heap.size ≤ b37; omega)) _).setCell (by first | exact Nat.le_refl _ | exact ge_l.out | (show w.heap.size ≤ b37; omega)) _)
          replace Jf := tJ Jf hBut (by first | exact ne_f_l.out | exact fun h => ne_l_f.out h.symm | omega)
          replace Jg := tJ Jg hBut (by first | exact ne_g_l.out | exact fun h => ne_l_g.out h.symm | omega)
          replace Jr := tJ Jr hBut (by first | exact ne_r_l.out | exact fun h => ne_l_r.out h.symm | omega)
          replace Jm := tJ Jm hBut (by first | exact ne_m_l.out | exact fun h => ne_l_m.out h.symm | omega)
          replace Nx1 := tN Nx1 Jl (by simp) hBut
          replace Nx2 := tN Nx2 Jl (by simp) hBut
          replace Nx3 := tN Nx3 Jl (by simp) hBut
          replace Nx4 := tN Nx4 Jl (by simp) hBut
          replace Jl := I4
          clear I4 hBut
          go_simp
          try go_wp2_with fail
          clear zl_0 zl_1
          clear f0
          generalize ((U38.setCell ⟨b37, 0, none⟩ (.slice x1_a x1_l x1_c)).setCell ⟨b37, 1, none⟩ (.slice x2_a x2_l x2_c)) = U39 at *
          refine hK.out _ _ (⟨Jf.out, Jg.out⟩) (fun hHeld28 => ?_)
          clear hK K
          try simp only [Act.put, y1, y2, y3, y4, y5, y6, y7]
          refine wpAnyH_ready (rs := [13]) (by kernel_rfl) (by simp) ?_
          refine AllReadyH.cons rfl (fun K hK => ?_) AllReadyH.nil
          clear hHeld28
          obtain ⟨x3_a, x3_l, x3_c, rfl⟩ := sN Nx3
          obtain ⟨x4_a, x4_l, x4_c, rfl⟩ := sN Nx4
          obtain ⟨zm_0, zm_1⟩ := cJ Jm
          have f0 := fJ Jm
          have hBut : But (b30) U39 ((U39.setCell ⟨b30, 0, none⟩ (.slice x3_a x3_l x3_c)).setCell ⟨b30, 1, none⟩ (.slice x4_a x4_l x4_c)) := (((But.refl _ U39).setCell 0 (.slice x3_a x3_l x3_c)).setCell 1 (.slice x4_a x4_l x4_c))
          have I4 : Hid (IHolds _ (b30) 38 [(.slice x3_a x3_l x3_c), (.slice x4_a x4_l x4_c)]) := ((Jm.out.set 0 (.slice x3_a x3_l x3_c)).set 1 (.slice x4_a x4_l x4_c))
          replace B : Hid (Below w.heap.size w ((U39.setCell ⟨b30, 0, none⟩ (.slice x3_a x3_l x3_c)).setCell ⟨b30, 1, none⟩ (.slice x4_a x4_l x4_c))) := ((B.out.setCell (by first | exact Nat.le_refl _ | exact ge_m.out | (show w.heap.size ≤ b30; omega)) _).setCell (by first | exact Nat.le_refl _ | exact ge_m.out | (show w.heap.size ≤ b30; omega)) _)
          replace Jf := tJ Jf hBut (by first | exact ne_f_m.out | exact fun h => ne_m_f.out h.symm | omega)
          replace Jg := tJ Jg hBut (by first | exact ne_g_m.out | exact fun h => ne_m_g.out h.symm | omega)
          replace Jr := tJ Jr hBut (by first | exact ne_r_m.out | exact fun h => ne_m_r.out h.symm | omega)
          replace Jl := tJ Jl hBut (by first | exact ne_l_m.out | exact fun h => ne_m_l.out h.symm | omega)
          replace Nx1 := tN Nx1 Jm (by simp) hBut
          replace Nx2 := tN Nx2 Jm (by simp) hBut
          replace Nx3 := tN Nx3 Jm (by simp) hBut
          replace Nx4 := tN Nx4 Jm (by simp) hBut
          replace Jm := I4
          clear I4 hBut
          go_simp
          try go_wp2_with fail
          clear zm_0 zm_1
          clear f0
          generalize ((U39.setCell ⟨b30, 0, none⟩ (.slice x3_a x3_l x3_c)).setCell ⟨b30, 1, none⟩ (.slice x4_a x4_l x4_c)) = U40 at *
          refine hK.out _ _ (⟨Jf.out, Jg.out⟩) (fun hHeld29 => ?_)
          clear hK K
          try simp only [Act.put, y1, y2, y3, y4, y5, y6, y7]
          refine wpAnyH_done (by kernel_rfl) ?_ _
          clear hHeld29
          go_wp2_with fail
          go_meet
          case rel => exact ⟨_, _, _, _, _, _, rfl, rfl, Jl.out, Jm.out, Nx1.out, Nx2.out, Nx3.out, Nx4.out, fun h => ne_r_l.out h.symm, fun h => ne_r_m.out h.symm, Jr.out, B.out⟩
    · clear hHeld1
      go_simp
      have ne_f_l := nJ Jf
      have ne_g_l := nJ Jg
      have ne_r_l := nJ Jr
      have ge_l : Hid (w.heap.size ≤ U2.heap.size) := B.out.size
      have hb := nB U2 (.cells #[(.slice none 0 0), (.slice none 0 0)] 38)
      have Jl : Hid (IHolds (U2.alloc (.cells #[(.slice none 0 0), (.slice none 0 0)] 38)) U2.heap.size 38 [(.slice none 0 0), (.slice none 0 0)]) := IHolds.new _ _ _
      replace B := aB B hb
      replace Jf := aJ Jf hb
      replace Jg := aJ Jg hb
      replace Jr := aJ Jr hb
      clear hb
      generalize (U2.alloc (.cells #[(.slice none 0 0), (.slice none 0 0)] 38)) = U41 at *
      generalize U2.heap.size = b42 at *
      refine hK.out _ _ (⟨Jf.out, Jg.out⟩) (fun hHeld30 => ?_)
      clear hK K
      try simp only [Act.put, y1, y2, y3, y4, y5, y6, y7]
      refine wpAnyH_ready (rs := [4, 11]) (by kernel_rfl) (by simp) ?_
      refine AllReadyH.cons rfl (fun K hK => ?_) (AllReadyH.cons rfl (fun K hK => ?_) AllReadyH.nil)
      · clear hHeld30
        go_simp
        refine (C1.out U41 B.out).mono ?_
        rintro e U43 ⟨⟨x1, x2, rfl, hv, hv'⟩, hb⟩
        have Nx1 : Hid (NumV U43 1000000000 (a1) x1) := hv
        have Nx2 : Hid (NumV U43 1000000000 (e1) x2) := hv'
        clear hv hv'
        replace B := aB B hb
        replace Jf := aJ Jf hb
        replace Jg := aJ Jg hb
        replace Jr := aJ Jr hb
        replace Jl := aJ Jl hb
        clear hb
        go_wp2_with fail
        refine hK.out _ _ (⟨Jf.out, Jg.out⟩) (fun hHeld31 => ?_)
        clear hK K
        try simp only [Act.put, y1, y2, y3, y4, y5, y6, y7]
        refine wpAnyH_ready (rs := [9, 11]) (by kernel_rfl) (by simp) ?_
        refine AllReadyH.cons rfl (fun K hK => ?_) (AllReadyH.cons rfl (fun K hK => ?_) AllReadyH.nil)
        · clear hHeld31
          go_simp
          refine (C2.out U43 B.out).mono ?_
          rintro e U44 ⟨⟨x3, x4, rfl, hv, hv'⟩, hb⟩
          have Nx3 : Hid (NumV U44 1000000000 (a2) x3) := hv
          have Nx4 : Hid (NumV U44 1000000000 (e2) x4) := hv'
          clear hv hv'
          replace B := aB B hb
          replace Jf := aJ Jf hb
          replace Jg := aJ Jg hb
          replace Jr := aJ Jr hb
          replace Jl := aJ Jl hb
          replace Nx1 := aN Nx1 hb
          replace Nx2 := aN Nx2 hb
          clear hb
          go_wp2_with fail
          refine hK.out _ _ (⟨Jf.out, Jg.out⟩) (fun hHeld32 => ?_)
          clear hK K
          try simp only [Act.put, y1, y2, y3, y4, y5, y6, y7]
          refine wpAnyH_ready (rs := [11]) (by kernel_rfl) (by simp) ?_
          refine AllReadyH.cons rfl (fun K hK => ?_) AllReadyH.nil
          clear hHeld32
          go_simp
          have ne_f_m := nJ Jf
          have ne_g_m := nJ Jg
          have ne_r_m := nJ Jr
          have ne_l_m := nJ Jl
          have ge_m : Hid (w.heap.size ≤ U44.heap.size) := B.out.size
          have hb := nB U44 (.cells #[(.slice none 0 0), (.slice none 0 0)] 38)
          have Jm : Hid (IHolds (U44.alloc (.cells #[(.slice none 0 0), (.slice none 0 0)] 38)) U44.heap.size 38 [(.slice none 0 0), (.slice none 0 0)]) := IHolds.new _ _ _
          replace B := aB B hb
          replace Jf := aJ Jf hb
          replace Jg := aJ Jg hb
          replace Jr := aJ Jr hb
          replace Jl := aJ Jl hb
          replace Nx1 := aN Nx1 hb
          replace Nx2 := aN Nx2 hb
          replace Nx3 := aN Nx3 hb
          replace Nx4 := aN Nx4 hb
          clear hb
          generalize (U44.alloc (.cells #[(.slice none 0 0), (.slice none 0 0)] 38)) = U45 at *
          generalize U44.heap.size = b46 at *
          refine hK.out _ _ (⟨Jf.out, Jg.out⟩) (fun hHeld33 => ?_)
          clear hK K
          try simp only [Act.put, y1, y2, y3, y4, y5, y6, y7]
          refine wpAnyH_ready (rs := [12]) (by kernel_rfl) (by simp) ?_
          refine AllReadyH.cons rfl (fun K hK => ?_) AllReadyH.nil
          clear hHeld33
          obtain ⟨x1_a, x1_l, x1_c, rfl⟩ := sN Nx1
          obtain ⟨x2_a, x2_l, x2_c, rfl⟩ := sN Nx2
          obtain ⟨zl_0, zl_1⟩ := cJ Jl
          have f0 := fJ Jl
          have hBut : But (b42) U45 ((U45.setCell ⟨b42, 0, none⟩ (.slice x1_a x1_l x1_c)).setCell ⟨b42, 1, none⟩ (.slice x2_a x2_l x2_c)) := (((But.refl _ U45).setCell 0 (.slice x1_a x1_l x1_c)).setCell 1 (.slice x2_a x2_l x2_c))
          have I4 : Hid (IHolds _ (b42) 38 [(.slice x1_a x1_l x1_c), (.slice x2_a x2_l x2_c)]) := ((Jl.out.set 0 (.slice x1_a x1_l x1_c)).set 1 (.slice x2_a x2_l x2_c))
          replace B : Hid (Below w.heap.size w ((U45.setCell ⟨b42, 0, none⟩ (.slice x1_a x1_l x1_c)).setCell ⟨b42, 1, none⟩ (.slice x2_a x2_l x2_c))) := ((B.out.setCell (by first | exact Nat.le_refl _ | exact ge_l.out | (show w.heap.size ≤ b42; omega)) _).setCell (by first | exact Nat.le_refl _ | exact ge_l.out | (show w.heap.size ≤ b42; omega)) _)
          replace Jf := tJ Jf hBut (by first | exact ne_f_l.out | exact fun h => ne_l_f.out h.symm | omega)
          replace Jg := tJ Jg hBut (by first | exact ne_g_l.out | exact fun h => ne_l_g.out h.symm | omega)
          replace Jr := tJ Jr hBut (by first | exact ne_r_l.out | exact fun h => ne_l_r.out h.symm | omega)
          replace Jm := tJ Jm hBut (by first | exact ne_m_l.out | exact fun h => ne_l_m.out h.symm | omega)
          replace Nx1 := tN Nx1 Jl (by simp) hBut
          replace Nx2 := tN Nx2 Jl (by simp) hBut
          replace Nx3 := tN Nx3 Jl (by simp) hBut
          replace Nx4 := tN Nx4 Jl (by simp) hBut
          replace Jl := I4
          clear I4 hBut
          go_simp
          try go_wp2_with fail
          clear zl_0 zl_1
          clear f0
          generalize ((U45.setCell ⟨b42, 0, none⟩ (.slice x1_a x1_l x1_c)).setCell ⟨b42, 1, none⟩ (.slice x2_a x2_l x2_c)) = U47 at *
          refine hK.out _ _ (⟨Jf.out, Jg.out⟩) (fun hHeld34 => ?_)
          clear hK K
          try simp only [Act.put, y1, y2, y3, y4, y5, y6, y7]
          refine wpAnyH_ready (rs := [13]) (by kernel_rfl) (by simp) ?_
          refine AllReadyH.cons rfl (fun K hK => ?_) AllReadyH.nil
          clear hHeld34
          obtain ⟨x3_a, x3_l, x3_c, rfl⟩ := sN Nx3
          obtain ⟨x4_a, x4_l, x4_c, rfl⟩ := sN Nx4
          obtain ⟨zm_0, zm_1⟩ := cJ Jm
          have f0 := fJ Jm
          have hBut : But (b46) U47 ((U47.setCell ⟨b46, 0, none⟩ (.slice x3_a x3_l x3_c)).setCell ⟨b46, 1, none⟩ (.slice x4_a x4_l x4_c)) := (((But.refl _ U47).setCell 0 (.slice x3_a x3_l x3_c)).setCell 1 (.slice x4_a x4_l x4_c))
          have I4 : Hid (IHolds _ (b46) 38 [(.slice x3_a x3_l x3_c), (.slice x4_a x4_l x4_c)]) := ((Jm.out.set 0 (.slice x3_a x3_l x3_c)).set 1 (.slice x4_a x4_l x4_c))
          replace B : Hid (Below w.heap.size w ((U47.setCell ⟨b46, 0, none⟩ (.slice x3_a x3_l x3_c)).setCell ⟨b46, 1, none⟩ (.slice x4_a x4_l x4_c))) := ((B.out.setCell (by first | exact Nat.le_refl _ | exact ge_m.out | (show w.heap.size ≤ b46; omega)) _).setCell (by first | exact Nat.le_refl _ | exact ge_m.out | (show w.heap.size ≤ b46; omega)) _)
          replace Jf := tJ Jf hBut (by first | exact ne_f_m.out | exact fun h => ne_m_f.out h.symm | omega)
          replace Jg := tJ Jg hBut (by first | exact ne_g_m.out | exact fun h => ne_m_g.out h.symm | omega)
          replace Jr := tJ Jr hBut (by first | exact ne_r_m.out | exact fun h => ne_m_r.out h.symm | omega)
          replace Jl := tJ Jl hBut (by first | exact ne_l_m.out | exact fun h => ne_m_l.out h.symm | omega)
          replace Nx1 := tN Nx1 Jm (by simp) hBut
          replace Nx2 := tN Nx2 Jm (by simp) hBut
          replace Nx3 := tN Nx3 Jm (by simp) hBut
          replace Nx4 := tN Nx4 Jm (by simp) hBut
          replace Jm := I4
          clear I4 hBut
          go_simp
          try go_wp2_with fail
          clear zm_0 zm_1
          clear f0
          generalize ((U47.setCell ⟨b46, 0, none⟩ (.slice x3_a x3_l x3_c)).setCell ⟨b46, 1, none⟩ (.slice x4_a x4_l x4_c)) = U48 at *
          refine hK.out _ _ (⟨Jf.out, Jg.out⟩) (fun hHeld35 => ?_)
          clear hK K
          try simp only [Act.put, y1, y2, y3, y4, y5, y6, y7]
          refine wpAnyH_done (by kernel_rfl) ?_ _
          clear hHeld35
          go_wp2_with fail
          go_meet
          case rel => exact ⟨_, _, _, _, _, _, rfl, rfl, Jl.out, Jm.out, Nx1.out, Nx2.out, Nx3.out, Nx4.out, fun h => ne_r_l.out h.symm, fun h => ne_r_m.out h.symm, Jr.out, B.out⟩
        · clear hHeld31
          go_simp
          have ne_f_m := nJ Jf
          have ne_g_m := nJ Jg
          have ne_r_m := nJ Jr
          have ne_l_m := nJ Jl
          have ge_m : Hid (w.heap.size ≤ U43.heap.size) := B.out.size
          have hb := nB U43 (.cells #[(.slice none 0 0), (.slice none 0 0)] 38)
          have Jm : Hid (IHolds (U43.alloc (.cells #[(.slice none 0 0), (.slice none 0 0)] 38)) U43.heap.size 38 [(.slice none 0 0), (.slice none 0 0)]) := IHolds.new _ _ _
          replace B := aB B hb
          replace Jf := aJ Jf hb
          replace Jg := aJ Jg hb
          replace Jr := aJ Jr hb
          replace Jl := aJ Jl hb
          replace Nx1 := aN Nx1 hb
          replace Nx2 := aN Nx2 hb
          clear hb
          generalize (U43.alloc (.cells #[(.slice none 0 0), (.slice none 0 0)] 38)) = U49 at *
          generalize U43.heap.size = b50 at *
          refine hK.out _ _ (⟨Jf.out, Jg.out⟩) (fun hHeld36 => ?_)
          clear hK K
          try simp only [Act.put, y1, y2, y3, y4, y5, y6, y7]
          refine wpAnyH_ready (rs := [9]) (by kernel_rfl) (by simp) ?_
          refine AllReadyH.cons rfl (fun K hK => ?_) AllReadyH.nil
          clear hHeld36
          go_simp
          refine (C2.out U49 B.out).mono ?_
          rintro e U51 ⟨⟨x3, x4, rfl, hv, hv'⟩, hb⟩
          have Nx3 : Hid (NumV U51 1000000000 (a2) x3) := hv
          have Nx4 : Hid (NumV U51 1000000000 (e2) x4) := hv'
          clear hv hv'
          replace B := aB B hb
          replace Jf := aJ Jf hb
          replace Jg := aJ Jg hb
          replace Jr := aJ Jr hb
          replace Jl := aJ Jl hb
          replace Jm := aJ Jm hb
          replace Nx1 := aN Nx1 hb
          replace Nx2 := aN Nx2 hb
          clear hb
          go_wp2_with fail
          refine hK.out _ _ (⟨Jf.out, Jg.out⟩) (fun hHeld37 => ?_)
          clear hK K
          try simp only [Act.put, y1, y2, y3, y4, y5, y6, y7]
          refine wpAnyH_ready (rs := [12]) (by kernel_rfl) (by simp) ?_
          refine AllReadyH.cons rfl (fun K hK => ?_) AllReadyH.nil
          clear hHeld37
          obtain ⟨x1_a, x1_l, x1_c, rfl⟩ := sN Nx1
          obtain ⟨x2_a, x2_l, x2_c, rfl⟩ := sN Nx2
          obtain ⟨zl_0, zl_1⟩ := cJ Jl
          have f0 := fJ Jl
          have hBut : But (b42) U51 ((U51.setCell ⟨b42, 0, none⟩ (.slice x1_a x1_l x1_c)).setCell ⟨b42, 1, none⟩ (.slice x2_a x2_l x2_c)) := (((But.refl _ U51).setCell 0 (.slice x1_a x1_l x1_c)).setCell 1 (.slice x2_a x2_l x2_c))
          have I4 : Hid (IHolds _ (b42) 38 [(.slice x1_a x1_l x1_c), (.slice x2_a x2_l x2_c)]) := ((Jl.out.set 0 (.slice x1_a x1_l x1_c)).set 1 (.slice x2_a x2_l x2_c))
          replace B : Hid (Below w.heap.size w ((U51.setCell ⟨b42, 0, none⟩ (.slice x1_a x1_l x1_c)).setCell ⟨b42, 1, none⟩ (.slice x2_a x2_l x2_c))) := ((B.out.setCell (by first | exact Nat.le_refl _ | exact ge_l.out | (show w.heap.size ≤ b42; omega)) _).setCell (by first | exact Nat.le_refl _ | exact ge_l.out | (show w.heap.size ≤ b42; omega)) _)
          replace Jf := tJ Jf hBut (by first | exact ne_f_l.out | exact fun h => ne_l_f.out h.symm | omega)
          replace Jg := tJ Jg hBut (by first | exact ne_g_l.out | exact fun h => ne_l_g.out h.symm | omega)
          replace Jr := tJ Jr hBut (by first | exact ne_r_l.out | exact fun h => ne_l_r.out h.symm | omega)
          replace Jm := tJ Jm hBut (by first | exact ne_m_l.out | exact fun h => ne_l_m.out h.symm | omega)
          replace Nx1 := tN Nx1 Jl (by simp) hBut
          replace Nx2 := tN Nx2 Jl (by simp) hBut
          replace Nx3 := tN Nx3 Jl (by simp) hBut
          replace Nx4 := tN Nx4 Jl (by simp) hBut
          replace Jl := I4
          clear I4 hBut
          go_simp
          try go_wp2_with fail
          clear zl_0 zl_1
          clear f0
          generalize ((U51.setCell ⟨b42, 0, none⟩ (.slice x1_a x1_l x1_c)).setCell ⟨b42, 1, none⟩ (.slice x2_a x2_l x2_c)) = U52 at *
          refine hK.out _ _ (⟨Jf.out, Jg.out⟩) (fun hHeld38 => ?_)
          clear hK K
          try simp only [Act.put, y1, y2, y3, y4, y5, y6, y7]
          refine wpAnyH_ready (rs := [13]) (by kernel_rfl) (by simp) ?_
          refine AllReadyH.cons rfl (fun K hK => ?_) AllReadyH.nil
          clear hHeld38
          obtain ⟨x3_a, x3_l, x3_c, rfl⟩ := sN Nx3
          obtain ⟨x4_a, x4_l, x4_c, rfl⟩ := sN Nx4
          obtain ⟨zm_0, zm_1⟩ := cJ Jm
          have f0 := fJ Jm
          have hBut : But (b50) U52 ((U52.setCell ⟨b50, 0, none⟩ (.slice x3_a x3_l x3_c)).setCell ⟨b50, 1, none⟩ (.slice x4_a x4_l x4_c)) := (((But.refl _ U52).setCell 0 (.slice x3_a x3_l x3_c)).setCell 1 (.slice x4_a x4_l x4_c))
          have I4 : Hid (IHolds _ (b50) 38 [(.slice x3_a x3_l x3_c), (.slice x4_a x4_l x4_c)]) := ((Jm.out.set 0 (.slice x3_a x3_l x3_c)).set 1 (.slice x4_a x4_l x4_c))
          replace B : Hid (Below w.heap.size w ((U52.setCell ⟨b50, 0, none⟩ (.slice x3_a x3_l x3_c)).setCell ⟨b50, 1, none⟩ (.slice x4_a x4_l x4_c))) := ((B.out.setCell (by first | exact Nat.le_refl _ | exact ge_m.out | (show w.heap.size ≤ b50; omega)) _).setCell (by first | exact Nat.le_refl _ | exact ge_m.out | (show w.heap.size ≤ b50; omega)) _)
          replace Jf := tJ Jf hBut (by first | exact ne_f_m.out | exact fun h => ne_m_f.out h.symm | omega)
          replace Jg := tJ Jg hBut (by first | exact ne_g_m.out | exact fun h => ne_m_g.out h.symm | omega)
          replace Jr := tJ Jr hBut (by first | exact ne_r_m.out | exact fun h => ne_m_r.out h.symm | omega)
          replace Jl := tJ Jl hBut (by first | exact ne_l_m.out | exact fun h => ne_m_l.out h.symm | omega)
          replace Nx1 := tN Nx1 Jm (by simp) hBut
          replace Nx2 := tN Nx2 Jm (by simp) hBut
          replace Nx3 := tN Nx3 Jm (by simp) hBut
          replace Nx4 := tN Nx4 Jm (by simp) hBut
          replace Jm := I4
          clear I4 hBut
          go_simp
          try go_wp2_with fail
          clear zm_0 zm_1
          clear f0
          generalize ((U52.setCell ⟨b50, 0, none⟩ (.slice x3_a x3_l x3_c)).setCell ⟨b50, 1, none⟩ (.slice x4_a x4_l x4_c)) = U53 at *
          refine hK.out _ _ (⟨Jf.out, Jg.out⟩) (fun hHeld39 => ?_)
          clear hK K
          try simp only [Act.put, y1, y2, y3, y4, y5, y6, y7]
          refine wpAnyH_done (by kernel_rfl) ?_ _
          clear hHeld39
          go_wp2_with fail
          go_meet
          case rel => exact ⟨_, _, _, _, _, _, rfl, rfl, Jl.out, Jm.out, Nx1.out, Nx2.out, Nx3.out, Nx4.out, fun h => ne_r_l.out h.symm, fun h => ne_r_m.out h.symm, Jr.out, B.out⟩
      · clear hHeld30
        go_simp
        have ne_f_m := nJ Jf
        have ne_g_m := nJ Jg
        have ne_r_m := nJ Jr
        have ne_l_m := nJ Jl
        have ge_m : Hid (w.heap.size ≤ U41.heap.size) := B.out.size
        have hb := nB U41 (.cells #[(.slice none 0 0), (.slice none 0 0)] 38)
        have Jm : Hid (IHolds (U41.alloc (.cells #[(.slice none 0 0), (.slice none 0 0)] 38)) U41.heap.size 38 [(.slice none 0 0), (.slice none 0 0)]) := IHolds.new _ _ _
        replace B := aB B hb
        replace Jf := aJ Jf hb
        replace Jg := aJ Jg hb
        replace Jr := aJ Jr hb
        replace Jl := aJ Jl hb
        clear hb
        generalize (U41.alloc (.cells #[(.slice none 0 0), (.slice none 0 0)] 38)) = U54 at *
        generalize U41.heap.size = b55 at *
        refine hK.out _ _ (⟨Jf.out, Jg.out⟩) (fun hHeld40 => ?_)
        clear hK K
        try simp only [Act.put, y1, y2, y3, y4, y5, y6, y7]
        refine wpAnyH_ready (rs := [4]) (by kernel_rfl) (by simp) ?_
        refine AllReadyH.cons rfl (fun K hK => ?_) AllReadyH.nil
        clear hHeld40
        go_simp
        refine (C1.out U54 B.out).mono ?_
        rintro e U56 ⟨⟨x1, x2, rfl, hv, hv'⟩, hb⟩
        have Nx1 : Hid (NumV U56 1000000000 (a1) x1) := hv
        have Nx2 : Hid (NumV U56 1000000000 (e1) x2) := hv'
        clear hv hv'
        replace B := aB B hb
        replace Jf := aJ Jf hb
        replace Jg := aJ Jg hb
        replace Jr := aJ Jr hb
        replace Jl := aJ Jl hb
        replace Jm := aJ Jm hb
        clear hb
        go_wp2_with fail
        refine hK.out _ _ (⟨Jf.out, Jg.out⟩) (fun hHeld41 => ?_)
        clear hK K
        try simp only [Act.put, y1, y2, y3, y4, y5, y6, y7]
        refine wpAnyH_ready (rs := [9]) (by kernel_rfl) (by simp) ?_
        refine AllReadyH.cons rfl (fun K hK => ?_) AllReadyH.nil
        clear hHeld41
        go_simp
        refine (C2.out U56 B.out).mono ?_
        rintro e U57 ⟨⟨x3, x4, rfl, hv, hv'⟩, hb⟩
        have Nx3 : Hid (NumV U57 1000000000 (a2) x3) := hv
        have Nx4 : Hid (NumV U57 1000000000 (e2) x4) := hv'
        clear hv hv'
        replace B := aB B hb
        replace Jf := aJ Jf hb
        replace Jg := aJ Jg hb
        replace Jr := aJ Jr hb
        replace Jl := aJ Jl hb
        replace Jm := aJ Jm hb
        replace Nx1 := aN Nx1 hb
        replace Nx2 := aN Nx2 hb
        clear hb
        go_wp2_with fail
        refine hK.out _ _ (⟨Jf.out, Jg.out⟩) (fun hHeld42 => ?_)
        clear hK K
        try simp only [Act.put, y1, y2, y3, y4, y5, y6, y7]
        refine wpAnyH_ready (rs := [12]) (by kernel_rfl) (by simp) ?_
        refine AllReadyH.cons rfl (fun K hK => ?_) AllReadyH.nil
        clear hHeld42
        obtain ⟨x1_a, x1_l, x1_c, rfl⟩ := sN Nx1
        obtain ⟨x2_a, x2_l, x2_c, rfl⟩ := sN Nx2
        obtain ⟨zl_0, zl_1⟩ := cJ Jl
        have f0 := fJ Jl
        have hBut : But (b42) U57 ((U57.setCell ⟨b42, 0, none⟩ (.slice x1_a x1_l x1_c)).setCell ⟨b42, 1, none⟩ (.slice x2_a x2_l x2_c)) := (((But.refl _ U57).setCell 0 (.slice x1_a x1_l x1_c)).setCell 1 (.slice x2_a x2_l x2_c))
        have I4 : Hid (IHolds _ (b42) 38 [(.slice x1_a x1_l x1_c), (.slice x2_a x2_l x2_c)]) := ((Jl.out.set 0 (.slice x1_a x1_l x1_c)).set 1 (.slice x2_a x2_l x2_c))
        replace B : Hid (Below w.heap.size w ((U57.setCell ⟨b42, 0, none⟩ (.slice x1_a x1_l x1_c)).setCell ⟨b42, 1, none⟩ (.slice x2_a x2_l x2_c))) := ((B.out.setCell (by first | exact Nat.le_refl _ | exact ge_l.out | (show w.heap.size ≤ b42; omega)) _).setCell (by first | exact Nat.le_refl _ | exact ge_l.out | (show w.heap.size ≤ b42; omega)) _)
        replace Jf := tJ Jf hBut (by first | exact ne_f_l.out | exact fun h => ne_l_f.out h.symm | omega)
        replace Jg := tJ Jg hBut (by first | exact ne_g_l.out | exact fun h => ne_l_g.out h.symm | omega)
        replace Jr := tJ Jr hBut (by first | exact ne_r_l.out | exact fun h => ne_l_r.out h.symm | omega)
        replace Jm := tJ Jm hBut (by first | exact ne_m_l.out | exact fun h => ne_l_m.out h.symm | omega)
        replace Nx1 := tN Nx1 Jl (by simp) hBut
        replace Nx2 := tN Nx2 Jl (by simp) hBut
        replace Nx3 := tN Nx3 Jl (by simp) hBut
        replace Nx4 := tN Nx4 Jl (by simp) hBut
        replace Jl := I4
        clear I4 hBut
        go_simp
        try go_wp2_with fail
        clear zl_0 zl_1
        clear f0
        generalize ((U57.setCell ⟨b42, 0, none⟩ (.slice x1_a x1_l x1_c)).setCell ⟨b42, 1, none⟩ (.slice x2_a x2_l x2_c)) = U58 at *
        refine hK.out _ _ (⟨Jf.out, Jg.out⟩) (fun hHeld43 => ?_)
        clear hK K
        try simp only [Act.put, y1, y2, y3, y4, y5, y6, y7]
        refine wpAnyH_ready (rs := [13]) (by kernel_rfl) (by simp) ?_
        refine AllReadyH.cons rfl (fun K hK => ?_) AllReadyH.nil
        clear hHeld43
        obtain ⟨x3_a, x3_l, x3_c, rfl⟩ := sN Nx3
        obtain ⟨x4_a, x4_l, x4_c, rfl⟩ := sN Nx4
        obtain ⟨zm_0, zm_1⟩ := cJ Jm
        have f0 := fJ Jm
        have hBut : But (b55) U58 ((U58.setCell ⟨b55, 0, none⟩ (.slice x3_a x3_l x3_c)).setCell ⟨b55, 1, none⟩ (.slice x4_a x4_l x4_c)) := (((But.refl _ U58).setCell 0 (.slice x3_a x3_l x3_c)).setCell 1 (.slice x4_a x4_l x4_c))
        have I4 : Hid (IHolds _ (b55) 38 [(.slice x3_a x3_l x3_c), (.slice x4_a x4_l x4_c)]) := ((Jm.out.set 0 (.slice x3_a x3_l x3_c)).set 1 (.slice x4_a x4_l x4_c))
        replace B : Hid (Below w.heap.size w ((U58.setCell ⟨b55, 0, none⟩ (.slice x3_a x3_l x3_c)).setCell ⟨b55, 1, none⟩ (.slice x4_a x4_l x4_c))) := ((B.out.setCell (by first | exact Nat.le_refl _ | exact ge_m.out | (show w.heap.size ≤ b55; omega)) _).setCell (by first | exact Nat.le_refl _ | exact ge_m.out | (show w.heap.size ≤ b55; omega)) _)
        replace Jf := tJ Jf hBut (by first | exact ne_f_m.out | exact fun h => ne_m_f.out h.symm | omega)
        replace Jg := tJ Jg hBut (by first | exact ne_g_m.out | exact fun h => ne_m_g.out h.symm | omega)
        replace Jr := tJ Jr hBut (by first | exact ne_r_m.out | exact fun h => ne_m_r.out h.symm | omega)
        replace Jl := tJ Jl hBut (by first | exact ne_l_m.out | exact fun h => ne_m_l.out h.symm | omega)
        replace Nx1 := tN Nx1 Jm (by simp) hBut
        replace Nx2 := tN Nx2 Jm (by simp) hBut
        replace Nx3 := tN Nx3 Jm (by simp) hBut
        replace Nx4 := tN Nx4 Jm (by simp) hBut
        replace Jm := I4
        clear I4 hBut
        go_simp
        try go_wp2_with fail
        clear zm_0 zm_1
        clear f0
        generalize ((U58.setCell ⟨b55, 0, none⟩ (.slice x3_a x3_l x3_c)).setCell ⟨b55, 1, none⟩ (.slice x4_a x4_l x4_c)) = U59 at *
        refine hK.out _ _ (⟨Jf.out, Jg.out⟩) (fun hHeld44 => ?_)
        clear hK K
        try simp only [Act.put, y1, y2, y3, y4, y5, y6, y7]
        refine wpAnyH_done (by kernel_rfl) ?_ _
        clear hHeld44
        go_wp2_with fail
        go_meet
        case rel => exact ⟨_, _, _, _, _, _, rfl, rfl, Jl.out, Jm.out, Nx1.out, Nx2.out, Nx3.out, Nx4.out, fun h => ne_r_l.out h.symm, fun h => ne_r_m.out h.symm, Jr.out, B.out⟩
    · clear hHeld1
      go_simp
      have ne_f_m := nJ Jf
      have ne_g_m := nJ Jg
      have ne_r_m := nJ Jr
      have ge_m : Hid (w.heap.size ≤ U2.heap.size) := B.out.size
      have hb := nB U2 (.cells #[(.slice none 0 0), (.slice none 0 0)] 38)
      have Jm : Hid (IHolds (U2.alloc (.cells #[(.slice none 0 0), (.slice none 0 0)] 38)) U2.heap.size 38 [(.slice none 0 0), (.slice none 0 0)]) := IHolds.new _ _ _
      replace B := aB B hb
      replace Jf := aJ Jf hb
      replace Jg := aJ Jg hb
      replace Jr := aJ Jr hb
      clear hb
      generalize (U2.alloc (.cells #[(.slice none 0 0), (.slice none 0 0)] 38)) = U60 at *
      generalize U2.heap.size = b61 at *
      refine hK.out _ _ (⟨Jf.out, Jg.out⟩) (fun hHeld45 => ?_)
      clear hK K
      try simp only [Act.put, y1, y2, y3, y4, y5, y6, y7]
      refine wpAnyH_ready (rs := [4, 10]) (by kernel_rfl) (by simp) ?_
      refine AllReadyH.cons rfl (fun K hK => ?_) (AllReadyH.cons rfl (fun K hK => ?_) AllReadyH.nil)
      · clear hHeld45
        go_simp
        refine (C1.out U60 B.out).mono ?_
        rintro e U62 ⟨⟨x1, x2, rfl, hv, hv'⟩, hb⟩
        have Nx1 : Hid (NumV U62 1000000000 (a1) x1) := hv
        have Nx2 : Hid (NumV U62 1000000000 (e1) x2) := hv'
        clear hv hv'
        replace B := aB B hb
        replace Jf := aJ Jf hb
        replace Jg := aJ Jg hb
        replace Jr := aJ Jr hb
        replace Jm := aJ Jm hb
        clear hb
        go_wp2_with fail
        refine hK.out _ _ (⟨Jf.out, Jg.out⟩) (fun hHeld46 => ?_)
        clear hK K
        try simp only [Act.put, y1, y2, y3, y4, y5, y6, y7]
        refine wpAnyH_ready (rs := [9, 10]) (by kernel_rfl) (by simp) ?_
        refine AllReadyH.cons rfl (fun K hK => ?_) (AllReadyH.cons rfl (fun K hK => ?_) AllReadyH.nil)
        · clear hHeld46
          go_simp
          refine (C2.out U62 B.out).mono ?_
          rintro e U63 ⟨⟨x3, x4, rfl, hv, hv'⟩, hb⟩
          have Nx3 : Hid (NumV U63 1000000000 (a2) x3) := hv
          have Nx4 : Hid (NumV U63 1000000000 (e2) x4) := hv'
          clear hv hv'
          replace B := aB B hb
          replace Jf := aJ Jf hb
          replace Jg := aJ Jg hb
          replace Jr := aJ Jr hb
          replace Jm := aJ Jm hb
          replace Nx1 := aN Nx1 hb
          replace Nx2 := aN Nx2 hb
          clear hb
          go_wp2_with fail
          refine hK.out _ _ (⟨Jf.out, Jg.out⟩) (fun hHeld47 => ?_)
          clear hK K
          try simp only [Act.put, y1, y2, y3, y4, y5, y6, y7]
          refine wpAnyH_ready (rs := [10]) (by kernel_rfl) (by simp) ?_
          refine AllReadyH.cons rfl (fun K hK => ?_) AllReadyH.nil
          clear hHeld47
          go_simp
          have ne_f_l := nJ Jf
          have ne_g_l := nJ Jg
          have ne_r_l := nJ Jr
          have ne_m_l := nJ Jm
          have ge_l : Hid (w.heap.size ≤ U63.heap.size) := B.out.size
          have hb := nB U63 (.cells #[(.slice none 0 0), (.slice none 0 0)] 38)
          have Jl : Hid (IHolds (U63.alloc (.cells #[(.slice none 0 0), (.slice none 0 0)] 38)) U63.heap.size 38 [(.slice none 0 0), (.slice none 0 0)]) := IHolds.new _ _ _
          replace B := aB B hb
          replace Jf := aJ Jf hb
          replace Jg := aJ Jg hb
          replace Jr := aJ Jr hb
          replace Jm := aJ Jm hb
          replace Nx1 := aN Nx1 hb
          replace Nx2 := aN Nx2 hb
          replace Nx3 := aN Nx3 hb
          replace Nx4 := aN Nx4 hb
          clear hb
          generalize (U63.alloc (.cells #[(.slice none 0 0), (.slice none 0 0)] 38)) = U64 at *
          generalize U63.heap.size = b65 at *
          refine hK.out _ _ (⟨Jf.out, Jg.out⟩) (fun hHeld48 => ?_)
          clear hK K
          try simp only [Act.put, y1, y2, y3, y4, y5, y6, y7]
          refine wpAnyH_ready (rs := [12]) (by kernel_rfl) (by simp) ?_
          refine AllReadyH.cons rfl (fun K hK => ?_) AllReadyH.nil
          clear hHeld48
          obtain ⟨x1_a, x1_l, x1_c, rfl⟩ := sN Nx1
          obtain ⟨x2_a, x2_l, x2_c, rfl⟩ := sN Nx2
          obtain ⟨zl_0, zl_1⟩ := cJ Jl
          have f0 := fJ Jl
          have hBut : But (b65) U64 ((U64.setCell ⟨b65, 0, none⟩ (.slice x1_a x1_l x1_c)).setCell ⟨b65, 1, none⟩ (.slice x2_a x2_l x2_c)) := (((But.refl _ U64).setCell 0 (.slice x1_a x1_l x1_c)).setCell 1 (.slice x2_a x2_l x2_c))
          have I4 : Hid (IHolds _ (b65) 38 [(.slice x1_a x1_l x1_c), (.slice x2_a x2_l x2_c)]) := ((Jl.out.set 0 (.slice x1_a x1_l x1_c)).set 1 (.slice x2_a x2_l x2_c))
          replace B : Hid (Below w.heap.size w ((U64.setCell ⟨b65, 0, none⟩ (.slice x1_a x1_l x1_c)).setCell ⟨b65, 1, none⟩ (.slice x2_a x2_l x2_c))) := ((B.out.setCell (by first | exact Nat.le_refl _ | exact ge_l.out | (show w.heap.size ≤ b65; omega)) _).setCell (by first | exact Nat.le_refl _ | exact ge_l.out | (show w.heap.size ≤ b65; omega)) _)
          replace Jf := tJ Jf hBut (by first | exact ne_f_l.out | exact fun h => ne_l_f.out h.symm | omega)
          replace Jg := tJ Jg hBut (by first | exact ne_g_l.out | exact fun h => ne_l_g.out h.symm | omega)
          replace Jr := tJ Jr hBut (by first | exact ne_r_l.out | exact fun h => ne_l_r.out h.symm | omega)
          replace Jm := tJ Jm hBut (by first | exact ne_m_l.out | exact fun h => ne_l_m.out h.symm | omega)
          replace Nx1 := tN Nx1 Jl (by simp) hBut
          replace Nx2 := tN Nx2 Jl (by simp) hBut
          replace Nx3 := tN Nx3 Jl (by simp) hBut
          replace Nx4 := tN Nx4 Jl (by simp) hBut
          replace Jl := I4
          clear I4 hBut
          go_simp
          try go_wp2_with fail
          clear zl_0 zl_1
          clear f0
          generalize ((U64.setCell ⟨b65, 0, none⟩ (.slice x1_a x1_l x1_c)).setCell ⟨b65, 1, none⟩ (.slice x2_a x2_l x2_c)) = U66 at *
          refine hK.out _ _ (⟨Jf.out, Jg.out⟩) (fun hHeld49 => ?_)
          clear hK K
          try simp only [Act.put, y1, y2, y3, y4, y5, y6, y7]
          refine wpAnyH_ready (rs := [13]) (by kernel_rfl) (by simp) ?_
          refine AllReadyH.cons rfl (fun K hK => ?_) AllReadyH.nil
          clear hHeld49
          obtain ⟨x3_a, x3_l, x3_c, rfl⟩ := sN Nx3
          obtain ⟨x4_a, x4_l, x4_c, rfl⟩ := sN Nx4
          obtain ⟨zm_0, zm_1⟩ := cJ Jm
          have f0 := fJ Jm
          have hBut : But (b61) U66 ((U66.setCell ⟨b61, 0, none⟩ (.slice x3_a x3_l x3_c)).setCell ⟨b61, 1, none⟩ (.slice x4_a x4_l x4_c)) := (((But.refl _ U66).setCell 0 (.slice x3_a x3_l x3_c)).setCell 1 (.slice x4_a x4_l x4_c))
          have I4 : Hid (IHolds _ (b61) 38 [(.slice x3_a x3_l x3_c), (.slice x4_a x4_l x4_c)]) := ((Jm.out.set 0 (.slice x3_a x3_l x3_c)).set 1 (.slice x4_a x4_l x4_c))
          replace B : Hid (Below w.heap.size w ((U66.setCell ⟨b61, 0, none⟩ (.slice x3_a x3_l x3_c)).setCell ⟨b61, 1, none⟩ (.slice x4_a x4_l x4_c))) := ((B.out.setCell (by first | exact Nat.le_refl _ | exact ge_m.out | (show w.heap.size ≤ b61; omega)) _).setCell (by first | exact Nat.le_refl _ | exact ge_m.out | (show w.heap.size ≤ b61; omega)) _)
          replace Jf := tJ Jf hBut (by first | exact ne_f_m.out | exact fun h => ne_m_f.out h.symm | omega)
          replace Jg := tJ Jg hBut (by first | exact ne_g_m.out | exact fun h => ne_m_g.out h.symm | omega)
          replace Jr := tJ Jr hBut (by first | exact ne_r_m.out | exact fun h => ne_m_r.out h.symm | omega)
          replace Jl := tJ Jl hBut (by first | exact ne_l_m.out | exact fun h => ne_m_l.out h.symm | omega)
          replace Nx1 := tN Nx1 Jm (by simp) hBut
          replace Nx2 := tN Nx2 Jm (by simp) hBut
          replace Nx3 := tN Nx3 Jm (by simp) hBut
          replace Nx4 := tN Nx4 Jm (by simp) hBut
          replace Jm := I4
          clear I4 hBut
          go_simp
          try go_wp2_with fail
          clear zm_0 zm_1
          clear f0
          generalize ((U66.setCell ⟨b61, 0, none⟩ (.slice x3_a x3_l x3_c)).setCell ⟨b61, 1, none⟩ (.slice x4_a x4_l x4_c)) = U67 at *
          refine hK.out _ _ (⟨Jf.out, Jg.out⟩) (fun hHeld50 => ?_)
          clear hK K
          try simp only [Act.put, y1, y2, y3, y4, y5, y6, y7]
          refine wpAnyH_done (by kernel_rfl) ?_ _
          clear hHeld50
          go_wp2_with fail
          go_meet
          case rel => exact ⟨_, _, _, _, _, _, rfl, rfl, Jl.out, Jm.out, Nx1.out, Nx2.out, Nx3.out, Nx4.out, fun h => ne_r_l.out h.symm, fun h => ne_r_m.out h.symm, Jr.out, B.out⟩
        · clear hHeld46
          go_simp
          have ne_f_l := nJ Jf
          have ne_g_l := nJ Jg
          have ne_r_l := nJ Jr
          have ne_m_l := nJ Jm
          have ge_l : Hid (w.heap.size ≤ U62.heap.size) := B.out.size
          have hb := nB U62 (.cells #[(.slice none 0 0), (.slice none 0 0)] 38)
          have Jl : Hid (IHolds (U62.alloc (.cells #[(.slice none 0 0), (.slice none 0 0)] 38)) U62.heap.size 38 [(.slice none 0 0), (.slice none 0 0)]) := IHolds.new _ _ _
          replace B := aB B hb
          replace Jf := aJ Jf hb
          replace Jg := aJ Jg hb
          replace Jr := aJ Jr hb
          replace Jm := aJ Jm hb
          replace Nx1 := aN Nx1 hb
          replace Nx2 := aN Nx2 hb
          clear hb
          generalize (U62.alloc (.cells #[(.slice none 0 0), (.slice none 0 0)] 38)) = U68 at *
          generalize U62.heap.size = b69 at *
          refine hK.out _ _ (⟨Jf.out, Jg.out⟩) (fun hHeld51 => ?_)
          clear hK K
          try simp only [Act.put, y1, y2, y3, y4, y5, y6, y7]
          refine wpAnyH_ready (rs := [9]) (by kernel_rfl) (by simp) ?_
          refine AllReadyH.cons rfl (fun K hK => ?_) AllReadyH.nil
          clear hHeld51
          go_simp
          refine (C2.out U68 B.out).mono ?_
          rintro e U70 ⟨⟨x3, x4, rfl, hv, hv'⟩, hb⟩
          have Nx3 : Hid (NumV U70 1000000000 (a2) x3) := hv
          have Nx4 : Hid (NumV U70 1000000000 (e2) x4) := hv'
          clear hv hv'
          replace B := aB B hb
          replace Jf := aJ Jf hb
          replace Jg := aJ Jg hb
          replace Jr := aJ Jr hb
          replace Jm := aJ Jm hb
          replace Jl := aJ Jl hb
          replace Nx1 := aN Nx1 hb
          replace Nx2 := aN Nx2 hb
          clear hb
          go_wp2_with fail
          refine hK.out _ _ (⟨Jf.out, Jg.out⟩) (fun hHeld52 => ?_)
          clear hK K
          try simp only [Act.put, y1, y2, y3, y4, y5, y6, y7]
          refine wpAnyH_ready (rs := [12]) (by kernel_rfl) (by simp) ?_
          refine AllReadyH.cons rfl (fun K hK => ?_) AllReadyH.nil
          clear hHeld52
          obtain ⟨x1_a, x1_l, x1_c, rfl⟩ := sN Nx1
          obtain ⟨x2_a, x2_l, x2_c, rfl⟩ := sN Nx2
          obtain ⟨zl_0, zl_1⟩ := cJ Jl
          have f0 := fJ Jl
          have hBut : But (b69) U70 ((U70.setCell ⟨b69, 0, none⟩ (.slice x1_a x1_l x1_c)).setCell ⟨b69, 1, none⟩ (.slice x2_a x2_l x2_c)) := (((But.refl _ U70).setCell 0 (.slice x1_a x1_l x1_c)).setCell 1 (.slice x2_a x2_l x2_c))
          have I4 : Hid (IHolds _ (b69) 38 [(.slice x1_a x1_l x1_c), (.slice x2_a x2_l x2_c)]) := ((Jl.out.set 0 (.slice x1_a x1_l x1_c)).set 1 (.slice x2_a x2_l x2_c))
          replace B : Hid (Below w.heap.size w ((U70.setCell ⟨b69, 0, none⟩ (.slice x1_a x1_l x1_c)).setCell ⟨b69, 1, none⟩ (.slice x2_a x2_l x2_c))) := ((B.out.setCell (by first | exact Nat.le_refl _ | exact ge_l.out | (show w.heap.size ≤ b69; omega)) _).setCell (by first | exact Nat.le_refl _ | exact ge_l.out | (show w.heap.size ≤ b69; omega)) _)
          replace Jf := tJ Jf hBut (by first | exact ne_f_l.out | exact fun h => ne_l_f.out h.symm | omega)
          replace Jg := tJ Jg hBut (by first | exact ne_g_l.out | exact fun h => ne_l_g.out h.symm | omega)
          replace Jr := tJ Jr hBut (by first | exact ne_r_l.out | exact fun h => ne_l_r.out h.symm | omega)
          replace Jm := tJ Jm hBut (by first | exact ne_m_l.out | exact fun h => ne_l_m.out h.symm | omega)
          replace Nx1 := tN Nx1 Jl (by simp) hBut
          replace Nx2 := tN Nx2 Jl (by simp) hBut
          replace Nx3 := tN Nx3 Jl (by simp) hBut
          replace Nx4 := tN Nx4 Jl (by simp) hBut
          replace Jl := I4
          clear I4 hBut
          go_simp
          try go_wp2_with fail
          clear zl_0 zl_1
          clear f0
          generalize ((U70.setCell ⟨b69, 0, none⟩ (.slice x1_a x1_l x1_c)).setCell ⟨b69, 1, none⟩ (.slice x2_a x2_l x2_c)) = U71 at *
          refine hK.out _ _ (⟨Jf.out, Jg.out⟩) (fun hHeld53 => ?_)
          clear hK K
          try simp only [Act.put, y1, y2, y3, y4, y5, y6, y7]
          refine wpAnyH_ready (rs := [13]) (by kernel_rfl) (by simp) ?_
          refine AllReadyH.cons rfl (fun K hK => ?_) AllReadyH.nil
          clear hHeld53
          obtain ⟨x3_a, x3_l, x3_c, rfl⟩ := sN Nx3
          obtain ⟨x4_a, x4_l, x4_c, rfl⟩ := sN Nx4
          obtain ⟨zm_0, zm_1⟩ := cJ Jm
          have f0 := fJ Jm
          have hBut : But (b61) U71 ((U71.setCell ⟨b61, 0, none⟩ (.slice x3_a x3_l x3_c)).setCell ⟨b61, 1, none⟩ (.slice x4_a x4_l x4_c)) := (((But.refl _ U71).setCell 0 (.slice x3_a x3_l x3_c)).setCell 1 (.slice x4_a x4_l x4_c))
          have I4 : Hid (IHolds _ (b61) 38 [(.slice x3_a x3_l x3_c), (.slice x4_a x4_l x4_c)]) := ((Jm.out.set 0 (.slice x3_a x3_l x3_c)).set 1 (.slice x4_a x4_l x4_c))
          replace B : Hid (Below w.heap.size w ((U71.setCell ⟨b61, 0, none⟩ (.slice x3_a x3_l x3_c)).setCell ⟨b61, 1, none⟩ (.slice x4_a x4_l x4_c))) := ((B.out.setCell (by first | exact Nat.le_refl _ | exact ge_m.out | (show w.heap.size ≤ b61; omega)) _).setCell (by first | exact Nat.le_refl _ | exact ge_m.out | (show w.heap.size ≤ b61; omega)) _)
          replace Jf := tJ Jf hBut (by first | exact ne_f_m.out | exact fun h => ne_m_f.out h.symm | omega)
          replace Jg := tJ Jg hBut (by first | exact ne_g_m.out | exact fun h => ne_m_g.out h.symm | omega)
          replace Jr := tJ Jr hBut (by first | exact ne_r_m.out | exact fun h => ne_m_r.out h.symm | omega)
          replace Jl := tJ Jl hBut (by first | exact ne_l_m.out | exact fun h => ne_m_l.out h.symm | omega)
          replace Nx1 := tN Nx1 Jm (by simp) hBut
          replace Nx2 := tN Nx2 Jm (by simp) hBut
          replace Nx3 := tN Nx3 Jm (by simp) hBut
          replace Nx4 := tN Nx4 Jm (by simp) hBut
          replace Jm := I4
          clear I4 hBut
          go_simp
          try go_wp2_with fail
          clear zm_0 zm_1
          clear f0
          generalize ((U71.setCell ⟨b61, 0, none⟩ (.slice x3_a x3_l x3_c)).setCell ⟨b61, 1, none⟩ (.slice x4_a x4_l x4_c)) = U72 at *
          refine hK.out _ _ (⟨Jf.out, Jg.out⟩) (fun hHeld54 => ?_)
          clear hK K
          try simp only [Act.put, y1, y2, y3, y4, y5, y6, y7]
          refine wpAnyH_done (by kernel_rfl) ?_ _
          clear hHeld54
          go_wp2_with fail
          go_meet
          case rel => exact ⟨_, _, _, _, _, _, rfl, rfl, Jl.out, Jm.out, Nx1.out, Nx2.out, Nx3.out, Nx4.out, fun h => ne_r_l.out h.symm, fun h => ne_r_m.out h.symm, Jr.out, B.out⟩
      · clear hHeld45
        go_simp
        have ne_f_l := nJ Jf
        have ne_g_l := nJ Jg
        have ne_r_l := nJ Jr
        have ne_m_l := nJ Jm
        have ge_l : Hid (w.heap.size ≤ U60.heap.size) := B.out.size
        have hb := nB U60 (.cells #[(.slice none 0 0), (.slice none 0 0)] 38)
        have Jl : Hid (IHolds (U60.alloc (.cells #[(.slice none 0 0), (.slice none 0 0)] 38)) U60.heap.size 38 [(.slice none 0 0), (.slice none 0 0)]) := IHolds.new _ _ _
        replace B := aB B hb
        replace Jf := aJ Jf hb
        replace Jg := aJ Jg hb
        replace Jr := aJ Jr hb
        replace Jm := aJ Jm hb
        clear hb
        generalize (U60.alloc (.cells #[(.slice none 0 0), (.slice none 0 0)] 38)) = U73 at *
        generalize U60.heap.size = b74 at *
        refine hK.out _ _ (⟨Jf.out, Jg.out⟩) (fun hHeld55 => ?_)
        clear hK K
        try simp only [Act.put, y1, y2, y3, y4, y5, y6, y7]
        refine wpAnyH_ready (rs := [4]) (by kernel_rfl) (by simp) ?_
        refine AllReadyH.cons rfl (fun K hK => ?_) AllReadyH.nil
        clear hHeld55
        go_simp
        refine (C1.out U73 B.out).mono ?_
        rintro e U75 ⟨⟨x1, x2, rfl, hv, hv'⟩, hb⟩
        have Nx1 : Hid (NumV U75 1000000000 (a1) x1) := hv
        have Nx2 : Hid (NumV U75 1000000000 (e1) x2) := hv'
        clear hv hv'
        replace B := aB B hb
        replace Jf := aJ Jf hb
        replace Jg := aJ Jg hb
        replace Jr := aJ Jr hb
        replace Jm := aJ Jm hb
        replace Jl := aJ Jl hb
        clear hb
        go_wp2_with fail
        refine hK.out _ _ (⟨Jf.out, Jg.out⟩) (fun hHeld56 => ?_)
        clear hK K
        try simp only [Act.put, y1, y2, y3, y4, y5, y6, y7]
        refine wpAnyH_ready (rs := [9]) (by kernel_rfl) (by simp) ?_
        refine AllReadyH.cons rfl (fun K hK => ?_) AllReadyH.nil
        clear hHeld56
        go_simp
        refine (C2.out U75 B.out).mono ?_
        rintro e U76 ⟨⟨x3, x4, rfl, hv, hv'⟩, hb⟩
        have Nx3 : Hid (NumV U76 1000000000 (a2) x3) := hv
        have Nx4 : Hid (NumV U76 1000000000 (e2) x4) := hv'
        clear hv hv'
        replace B := aB B hb
        replace Jf := aJ Jf hb
        replace Jg := aJ Jg hb
        replace Jr := aJ Jr hb
        replace Jm := aJ Jm hb
        replace Jl := aJ Jl hb
        replace Nx1 := aN Nx1 hb
        replace Nx2 := aN Nx2 hb
        clear hb
        go_wp2_with fail
        refine hK.out _ _ (⟨Jf.out, Jg.out⟩) (fun hHeld57 => ?_)
        clear hK K
        try simp only [Act.put, y1, y2, y3, y4, y5, y6, y7]
        refine wpAnyH_ready (rs := [12]) (by kernel_rfl) (by simp) ?_
        refine AllReadyH.cons rfl (fun K hK => ?_) AllReadyH.nil
        clear hHeld57
        obtain ⟨x1_a, x1_l, x1_c, rfl⟩ := sN Nx1
        obtain ⟨x2_a, x2_l, x2_c, rfl⟩ := sN Nx2
        obtain ⟨zl_0, zl_1⟩ := cJ Jl
        have f0 := fJ Jl
        have hBut : But (b74) U76 ((U76.setCell ⟨b74, 0, none⟩ (.slice x1_a x1_l x1_c)).setCell ⟨b74, 1, none⟩ (.slice x2_a x2_l x2_c)) := (((But.refl _ U76).setCell 0 (.slice x1_a x1_l x1_c)).setCell 1 (.slice x2_a x2_l x2_c))
        have I4 : Hid (IHolds _ (b74) 38 [(.slice x1_a x1_l x1_c), (.slice x2_a x2_l x2_c)]) := ((Jl.out.set 0 (.slice x1_a x1_l x1_c)).set 1 (.slice x2_a x2_l x2_c))
        replace B : Hid (Below w.heap.size w ((U76.setCell ⟨b74, 0, none⟩ (.slice x1_a x1_l x1_c)).setCell ⟨b74, 1, none⟩ (.slice x2_a x2_l x2_c))) := ((B.out.setCell (by first | exact Nat.le_refl _ | exact ge_l.out | (show w.heap.size ≤ b74; omega)) _).setCell (by first | exact Nat.le_refl _ | exact ge_l.out | (show w.heap.size ≤ b74; omega)) _)
        replace Jf := tJ Jf hBut (by first | exact ne_f_l.out | exact fun h => ne_l_f.out h.symm | omega)
        replace Jg := tJ Jg hBut (by first | exact ne_g_l.out | exact fun h => ne_l_g.out h.symm | omega)
        replace Jr := tJ Jr hBut (by first | exact ne_r_l.out | exact fun h => ne_l_r.out h.symm | omega)
        replace Jm := tJ Jm hBut (by first | exact ne_m_l.out | exact fun h => ne_l_m.out h.symm | omega)
        replace Nx1 := tN Nx1 Jl (by simp) hBut
        replace Nx2 := tN Nx2 Jl (by simp) hBut
        replace Nx3 := tN Nx3 Jl (by simp) hBut
        replace Nx4 := tN Nx4 Jl (by simp) hBut
        replace Jl := I4
        clear I4 hBut
        go_simp
        try go_wp2_with fail
        clear zl_0 zl_1
        clear f0
        generalize ((U76.setCell ⟨b74, 0, none⟩ (.slice x1_a x1_l x1_c)).setCell ⟨b74, 1, none⟩ (.slice x2_a x2_l x2_c)) = U77 at *
        refine hK.out _ _ (⟨Jf.out, Jg.out⟩) (fun hHeld58 => ?_)
        clear hK K
        try simp only [Act.put, y1, y2, y3, y4, y5, y6, y7]
        refine wpAnyH_ready (rs := [13]) (by kernel_rfl) (by simp) ?_
        refine AllReadyH.cons rfl (fun K hK => ?_) AllReadyH.nil
        clear hHeld58
        obtain ⟨x3_a, x3_l, x3_c, rfl⟩ := sN Nx3
        obtain ⟨x4_a, x4_l, x4_c, rfl⟩ := sN Nx4
        obtain ⟨zm_0, zm_1⟩ := cJ Jm
        have f0 := fJ Jm
        have hBut : But (b61) U77 ((U77.setCell ⟨b61, 0, none⟩ (.slice x3_a x3_l x3_c)).setCell ⟨b61, 1, none⟩ (.slice x4_a x4_l x4_c)) := (((But.refl _ U77).setCell 0 (.slice x3_a x3_l x3_c)).setCell 1 (.slice x4_a x4_l x4_c))
        have I4 : Hid (IHolds _ (b61) 38 [(.slice x3_a x3_l x3_c), (.slice x4_a x4_l x4_c)]) := ((Jm.out.set 0 (.slice x3_a x3_l x3_c)).set 1 (.slice x4_a x4_l x4_c))
        replace B : Hid (Below w.heap.size w ((U77.setCell ⟨b61, 0, none⟩ (.slice x3_a x3_l x3_c)).setCell ⟨b61, 1, none⟩ (.slice x4_a x4_l x4_c))) := ((B.out.setCell (by first | exact Nat.le_refl _ | exact ge_m.out | (show w.heap.size ≤ b61; omega)) _).setCell (by first | exact Nat.le_refl _ | exact ge_m.out | (show w.heap.size ≤ b61; omega)) _)
        replace Jf := tJ Jf hBut (by first | exact ne_f_m.out | exact fun h => ne_m_f.out h.symm | omega)
        replace Jg := tJ Jg hBut (by first | exact ne_g_m.out | exact fun h => ne_m_g.out h.symm | omega)
        replace Jr := tJ Jr hBut (by first | exact ne_r_m.out | exact fun h => ne_m_r.out h.symm | omega)
        replace Jl := tJ Jl hBut (by first | exact ne_l_m.out | exact fun h => ne_m_l.out h.symm | omega)
        replace Nx1 := tN Nx1 Jm (by simp) hBut
        replace Nx2 := tN Nx2 Jm (by simp) hBut
        replace Nx3 := tN Nx3 Jm (by simp) hBut
        replace Nx4 := tN Nx4 Jm (by simp) hBut
        replace Jm := I4
        clear I4 hBut
        go_simp
        try go_wp2_with fail
        clear zm_0 zm_1
        clear f0
        generalize ((U77.setCell ⟨b61, 0, none⟩ (.slice x3_a x3_l x3_c)).setCell ⟨b61, 1, none⟩ (.slice x4_a x4_l x4_c)) = U78 at *
        refine hK.out _ _ (⟨Jf.out, Jg.out⟩) (fun hHeld59 => ?_)
        clear hK K
        try simp only [Act.put, y1, y2, y3, y4, y5, y6, y7]
        refine wpAnyH_done (by kernel_rfl) ?_ _
        clear hHeld59
        go_wp2_with fail
        go_meet
        case rel => exact ⟨_, _, _, _, _, _, rfl, rfl, Jl.out, Jm.out, Nx1.out, Nx2.out, Nx3.out, Nx4.out, fun h => ne_r_l.out h.symm, fun h => ne_r_m.out h.symm, Jr.out, B.out⟩
  case rest =>
    obtain ⟨b5, b6, x1, x2, x3, x4, rfl, rfl, j5, j6, n1', n2', n3', n4', z5, z6, jr, bb⟩ := hcut
    clear B Jf Jg Jr nfg C1 C2
    have Jl : Hid (IHolds wc (b5) 38 [x1, x2]) := j5
    have Jm : Hid (IHolds wc (b6) 38 [x3, x4]) := j6
    have Jr : Hid (IHolds wc (w.heap.size + 2) 38 [(.slice none 0 0), (.slice none 0 0)]) := jr
    have Nx1 : Hid (NumV wc 1000000000 (a1) x1) := n1'
    have Nx2 : Hid (NumV wc 1000000000 (e1) x2) := n2'
    have Nx3 : Hid (NumV wc 1000000000 (a2) x3) := n3'
    have Nx4 : Hid (NumV wc 1000000000 (e2) x4) := n4'
    have B : Hid (Below w.heap.size w wc) := bb
    have ne_r_l : Hid (w.heap.size + 2 ≠ b5) := fun h => z5 h.symm
    have ne_r_m : Hid (w.heap.size + 2 ≠ b6) := fun h => z6 h.symm
    clear j5 j6 jr n1' n2' n3' n4' bb z5 z6
    go_wp2_with fail
    have hb := dB wc
    replace B := aB B hb
    replace Jr := aJ Jr hb
    replace Jl := aJ Jl hb
    replace Jm := aJ Jm hb
    replace Nx1 := aN Nx1 hb
    replace Nx2 := aN Nx2 hb
    replace Nx3 := aN Nx3 hb
    replace Nx4 := aN Nx4 hb
    clear hb
    refine wp_region_held_drew (S := fun W => (IHolds W (b5) 38 [x1, x2]) ∧ (IHolds W (b6) 38 [x3, x4])) (by kernel_rfl) ⟨Jl.out, Jm.out⟩ (fun hHeld60 => ?_)
    generalize wc.drew = U79 at *
    refine tk (i := 0) (v := .pointer (some ⟨b5, 0, none⟩)) rfl (by kernel_rfl) (fun _ _ _ h => h) rfl ?_ hHeld60 ?_
    · intro W hS; go_simp
    simp only [Act.put, y1, y2, y3, y4, y5, y6, y7]
    refine tk (i := 2) (v := .pointer (some ⟨b6, 0, none⟩)) rfl (by kernel_rfl) (fun _ _ _ h => h) rfl ?_ hHeld60 ?_
    · intro W hS; go_simp
    simp only [Act.put, y1, y2, y3, y4, y5, y6, y7]
    refine tk (i := 5) (v := .pointer (some ⟨b5, 1, none⟩)) rfl (by kernel_rfl) (fun _ _ _ h => h) rfl ?_ hHeld60 ?_
    · intro W hS; go_simp
    simp only [Act.put, y1, y2, y3, y4, y5, y6, y7]
    refine tk (i := 7) (v := .pointer (some ⟨b6, 1, none⟩)) rfl (by kernel_rfl) (fun _ _ _ h => h) rfl ?_ hHeld60 ?_
    · intro W hS; go_simp
    simp only [Act.put, y1, y2, y3, y4, y5, y6, y7]
    refine tk (i := 1) (v := x1) rfl (by kernel_rfl) (fun _ _ _ h => h) rfl ?_ hHeld60 ?_
    · intro W hS; obtain ⟨zl_0, zl_1⟩ := c2 hS.1; go_simp
    simp only [Act.put, y1, y2, y3, y4, y5, y6, y7]
    refine tk (i := 3) (v := x3) rfl (by kernel_rfl) (fun _ _ _ h => h) rfl ?_ hHeld60 ?_
    · intro W hS; obtain ⟨zm_0, zm_1⟩ := c2 hS.2; go_simp
    simp only [Act.put, y1, y2, y3, y4, y5, y6, y7]
    refine tk (i := 6) (v := x2) rfl (by kernel_rfl) (fun _ _ _ h => h) rfl ?_ hHeld60 ?_
    · intro W hS; obtain ⟨zl_0, zl_1⟩ := c2 hS.1; go_simp
    simp only [Act.put, y1, y2, y3, y4, y5, y6, y7]
    refine tk (i := 8) (v := x4) rfl (by kernel_rfl) (fun _ _ _ h => h) rfl ?_ hHeld60 ?_
    · intro W hS; obtain ⟨zm_0, zm_1⟩ := c2 hS.2; go_simp
    simp only [Act.put, y1, y2, y3, y4, y5, y6, y7]
    refine wpAnyH_ready (rs := [4]) (by kernel_rfl) (by simp) ?_
    refine AllReadyH.cons rfl (fun K hK => ?_) AllReadyH.nil
    clear hHeld60
    go_simp
    refine (C3.out U79 x1 x3 Nx1.out Nx3.out).mono ?_
    rintro e U80 ⟨⟨u1, rfl, hv⟩, hb⟩
    have Nu1 : Hid (NumV U80 1000000000 (r1) u1) := hv
    clear hv
    replace B := aB B hb
    replace Jr := aJ Jr hb
    replace Jl := aJ Jl hb
    replace Jm := aJ Jm hb
    replace Nx1 := aN Nx1 hb
    replace Nx2 := aN Nx2 hb
    replace Nx3 := aN Nx3 hb
    replace Nx4 := aN Nx4 hb
    clear hb
    go_wp2_with fail
    refine hK.out _ _ (⟨Jl.out, Jm.out⟩) (fun hHeld61 => ?_)
    clear hK K
    try simp only [Act.put, y1, y2, y3, y4, y5, y6, y7]
    refine wpAnyH_ready (rs := [9]) (by kernel_rfl) (by simp) ?_
    refine AllReadyH.cons rfl (fun K hK => ?_) AllReadyH.nil
    clear hHeld61
    go_simp
    refine (C4.out U80 x2 x4 Nx2.out Nx4.out).mono ?_
    rintro e U81 ⟨⟨u2, rfl, hv⟩, hb⟩
    have Nu2 : Hid (NumV U81 1000000000 (r2) u2) := hv
    clear hv
    replace B := aB B hb
    replace Jr := aJ Jr hb
    replace Jl := aJ Jl hb
    replace Jm := aJ Jm hb
    replace Nx1 := aN Nx1 hb
    replace Nx2 := aN Nx2 hb
    replace Nx3 := aN Nx3 hb
    replace Nx4 := aN Nx4 hb
    replace Nu1 := aN Nu1 hb
    clear hb
    go_wp2_with fail
    refine hK.out _ _ (⟨Jl.out, Jm.out⟩) (fun hHeld62 => ?_)
    clear hK K
    try simp only [Act.put, y1, y2, y3, y4, y5, y6, y7]
    obtain ⟨u1_a, u1_l, u1_c, rfl⟩ := sN Nu1
    obtain ⟨u2_a, u2_l, u2_c, rfl⟩ := sN Nu2
    refine tk (i := 10) (v := .agg #[(.slice u1_a u1_l u1_c), (.slice u2_a u2_l u2_c)]) rfl (by kernel_rfl) (fun _ _ _ h => h) rfl ?_ hHeld62 ?_
    · intro W hS; go_simp
    simp only [Act.put, y1, y2, y3, y4, y5, y6, y7]
    refine wpAnyH_ready (rs := [11]) (by kernel_rfl) (by simp) ?_
    refine AllReadyH.cons rfl (fun K hK => ?_) AllReadyH.nil
    clear hHeld62
    obtain ⟨zr_0, zr_1⟩ := cJ Jr
    have f0 := fJ Jr
    have hBut : But (w.heap.size + 2) U81 ((U81.setCell ⟨w.heap.size + 2, 0, none⟩ (.slice u1_a u1_l u1_c)).setCell ⟨w.heap.size + 2, 1, none⟩ (.slice u2_a u2_l u2_c)) := (((But.refl _ U81).setCell 0 (.slice u1_a u1_l u1_c)).setCell 1 (.slice u2_a u2_l u2_c))
    have I4 : Hid (IHolds _ (w.heap.size + 2) 38 [(.slice u1_a u1_l u1_c), (.slice u2_a u2_l u2_c)]) := ((Jr.out.set 0 (.slice u1_a u1_l u1_c)).set 1 (.slice u2_a u2_l u2_c))
    replace B : Hid (Below w.heap.size w ((U81.setCell ⟨w.heap.size + 2, 0, none⟩ (.slice u1_a u1_l u1_c)).setCell ⟨w.heap.size + 2, 1, none⟩ (.slice u2_a u2_l u2_c))) := ((B.out.setCell (by first | exact Nat.le_refl _ | exact ge_r.out | (show w.heap.size ≤ w.heap.size + 2; omega)) _).setCell (by first | exact Nat.le_refl _ | exact ge_r.out | (show w.heap.size ≤ w.heap.size + 2; omega)) _)
    replace Jl := tJ Jl hBut (by first | exact ne_l_r.out | exact fun h => ne_r_l.out h.symm | omega)
    replace Jm := tJ Jm hBut (by first | exact ne_m_r.out | exact fun h => ne_r_m.out h.symm | omega)
    replace Nx1 := tN Nx1 Jr (by simp) hBut
    replace Nx2 := tN Nx2 Jr (by simp) hBut
    replace Nx3 := tN Nx3 Jr (by simp) hBut
    replace Nx4 := tN Nx4 Jr (by simp) hBut
    replace Nu1 := tN Nu1 Jr (by simp) hBut
    replace Nu2 := tN Nu2 Jr (by simp) hBut
    replace Jr := I4
    clear I4 hBut
    go_simp
    try go_wp2_with fail
    clear zr_0 zr_1
    clear f0
    generalize ((U81.setCell ⟨w.heap.size + 2, 0, none⟩ (.slice u1_a u1_l u1_c)).setCell ⟨w.heap.size + 2, 1, none⟩ (.slice u2_a u2_l u2_c)) = U82 at *
    refine hK.out _ _ (⟨Jl.out, Jm.out⟩) (fun hHeld63 => ?_)
    clear hK K
    try simp only [Act.put, y1, y2, y3, y4, y5, y6, y7]
    refine wpAnyH_done (by kernel_rfl) ?_ _
    clear hHeld63
    go_wp2_with fail
    have E0 : Hid (U82.cell? ⟨w.heap.size + 2, 0, none⟩ = some ((.slice u1_a u1_l u1_c))) := IHolds.cell (l := [(.slice u1_a u1_l u1_c), (.slice u2_a u2_l u2_c)]) (t := 38) (b := w.heap.size + 2) (w := U82) Jr.out 0 (by simp)
    have E1 : Hid (U82.cell? ⟨w.heap.size + 2, 1, none⟩ = some ((.slice u2_a u2_l u2_c))) := IHolds.cell (l := [(.slice u1_a u1_l u1_c), (.slice u2_a u2_l u2_c)]) (t := 38) (b := w.heap.size + 2) (w := U82) Jr.out 1 (by simp)
    exact bodyPost_ret (v := .agg #[(.slice u1_a u1_l u1_c), (.slice u2_a u2_l u2_c)]) (by simp [results, Tryd.results21, go_sem, E0.out, E1.out]) rfl ⟨⟨_, _, rfl, Nu1.out, Nu2.out⟩, B.out⟩
end Go.Proofs.YtnahindcgedbaabDoor
