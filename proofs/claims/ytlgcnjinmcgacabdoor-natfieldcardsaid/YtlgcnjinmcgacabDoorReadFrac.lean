/- The walk of readFraction. -/
import Derived.Test.YtlgcnjinmcgacabDoorTimesFrac
import Derived.Test.YtlgcnjinmcgacabDoorWrongFrac
set_option linter.unusedSimpArgs false
set_option linter.unusedVariables false
namespace Go.Proofs.YtlgcnjinmcgacabDoor
open Go.RowKit Go.Deep Go.PlainAid

set_option maxRecDepth 100000 in
set_option maxHeartbeats 4000000 in
theorem readFrac_wrong (n d : ByteArray) (w : World) (x : Nat) (hx : ((x : Int) != 0) = true) (CW : ∀ W a, IHolds W a 9 [.string n, .string d] → Calls Tryd.prog 32 #[.slice (some ⟨a, 0, none⟩) 2 2] W fun e w' => e = .returned (.int .i64 (x : Int)) ∧ w' = W) :
    Calls Tryd.prog 14 #[.agg #[.string n, .string d]] w fun e w' => e = .returned (.tuple #[.agg #[.slice none 0 0, .slice none 0 0], .int .i64 (x : Int)]) ∧ Below w.heap.size w w' := by
  have HW : Hid _ := CW
  clear CW
  go_enter Tryd.func14, Tryd.ntmps14
  go_wp2_with fail
  obtain ⟨U1, hU1⟩ : ∃ X, X = (((w.alloc (.cells #[(.string n), (.string d)] 23)).alloc (.cells #[(.slice none 0 0), (.slice none 0 0)] 38)).alloc (.cells #[(.string n), (.string d)] 9)) := ⟨_, rfl⟩
  have Jx : Hid (IHolds U1 (w.heap.size) 23 [(.string n), (.string d)]) := by
    have q := IHolds.new w 23 [(.string n), (.string d)]
    show IHolds _ _ _ _
    rw [hU1]
    exact ((q.alloc _).alloc _)
  have Jr : Hid (IHolds U1 (w.heap.size + 1) 38 [(.slice none 0 0), (.slice none 0 0)]) := by
    have q := IHolds.new (w.alloc (.cells #[(.string n), (.string d)] 23)) 38 [(.slice none 0 0), (.slice none 0 0)]
    simp only [World.size_alloc, Nat.add_assoc, Nat.reduceAdd] at q
    show IHolds _ _ _ _
    rw [hU1]
    exact (q.alloc _)
  have Jt : Hid (IHolds U1 (w.heap.size + 2) 9 [(.string n), (.string d)]) := by
    have q := IHolds.new ((w.alloc (.cells #[(.string n), (.string d)] 23)).alloc (.cells #[(.slice none 0 0), (.slice none 0 0)] 38)) 9 [(.string n), (.string d)]
    simp only [World.size_alloc, Nat.add_assoc, Nat.reduceAdd] at q
    show IHolds _ _ _ _
    rw [hU1]
    exact q
  have B : Hid (Below w.heap.size w U1) := by
    show Below _ _ _
    rw [hU1]
    exact ((((Below.refl _ w).alloc (Nat.le_refl _) _).alloc (by simp only [World.size_alloc]; omega) _).alloc (by simp only [World.size_alloc]; omega) _)
  rw [← hU1]
  clear hU1
  refine (HW.out U1 _ Jt.out).mono ?_
  rintro e V0 ⟨rfl, rfl⟩
  obtain ⟨zr_0, zr_1⟩ := cJ Jr
  have f0 := fJ Jr
  have hBut : But (w.heap.size + 1) V0 ((V0.setCell ⟨w.heap.size + 1, 0, none⟩ (.slice none 0 0)).setCell ⟨w.heap.size + 1, 1, none⟩ (.slice none 0 0)) := (((But.refl _ V0).setCell 0 (.slice none 0 0)).setCell 1 (.slice none 0 0))
  have I4 : Hid (IHolds _ (w.heap.size + 1) 38 [(.slice none 0 0), (.slice none 0 0)]) := ((Jr.out.set 0 (.slice none 0 0)).set 1 (.slice none 0 0))
  replace B : Hid (Below w.heap.size w ((V0.setCell ⟨w.heap.size + 1, 0, none⟩ (.slice none 0 0)).setCell ⟨w.heap.size + 1, 1, none⟩ (.slice none 0 0))) := ((B.out.setCell (by first | exact Nat.le_refl _ | exact ge_r.out | (show w.heap.size ≤ w.heap.size + 1; omega)) _).setCell (by first | exact Nat.le_refl _ | exact ge_r.out | (show w.heap.size ≤ w.heap.size + 1; omega)) _)
  replace Jx := tJ Jx hBut (by omega)
  replace Jt := tJ Jt hBut (by omega)
  replace Jr := I4
  clear I4 hBut
  go_wp2_with fail
  clear zr_0 zr_1
  clear f0
  generalize ((V0.setCell ⟨w.heap.size + 1, 0, none⟩ (.slice none 0 0)).setCell ⟨w.heap.size + 1, 1, none⟩ (.slice none 0 0)) = U2 at *
  have E0 : Hid (U2.cell? ⟨w.heap.size + 1, 0, none⟩ = some ((.slice none 0 0))) := IHolds.cell (l := [(.slice none 0 0), (.slice none 0 0)]) (t := 38) (b := w.heap.size + 1) (w := U2) Jr.out 0 (by simp)
  have E1 : Hid (U2.cell? ⟨w.heap.size + 1, 1, none⟩ = some ((.slice none 0 0))) := IHolds.cell (l := [(.slice none 0 0), (.slice none 0 0)]) (t := 38) (b := w.heap.size + 1) (w := U2) Jr.out 1 (by simp)
  exact bodyPost_ret (v := .tuple #[.agg #[(.slice none 0 0), (.slice none 0 0)], .int .i64 (x : Int)]) (by simp [results, Tryd.results14, go_sem, E0.out, E1.out]) rfl ⟨rfl, B.out⟩
set_option maxRecDepth 100000 in
set_option maxHeartbeats 4000000 in
theorem readFrac_ok (n d : ByteArray) (w : World) (nn dd gg : Nat) (CW : ∀ W a, IHolds W a 9 [.string n, .string d] → Calls Tryd.prog 32 #[.slice (some ⟨a, 0, none⟩) 2 2] W fun e w' => e = .returned (.int .i64 (0 : Int)) ∧ w' = W) (C1 : Hid (∀ W, Calls Tryd.prog 33 #[.string n] W fun e w' => (∃ v, e = .returned v ∧ NumV w' 1000000000 nn v) ∧ Below W.heap.size W w')) (C2 : Hid (∀ W, Calls Tryd.prog 33 #[.string d] W fun e w' => (∃ v, e = .returned v ∧ NumV w' 1000000000 dd v) ∧ Below W.heap.size W w')) (C3 : Hid (∀ W v, NumV W 1000000000 dd v → Calls Tryd.prog 21 #[v] W fun e w' => e = .returned (.bool false) ∧ w' = W)) (C4 : Hid (∀ W v v', NumV W 1000000000 nn v → NumV W 1000000000 dd v' → Calls Tryd.prog 34 #[v, v'] W fun e w' => (∃ v, e = .returned v ∧ NumV w' 1000000000 gg v) ∧ Below W.heap.size W w')) (C5 : Hid (∀ W v, NumV W 1000000000 gg v → Calls Tryd.prog 35 #[v] W fun e w' => e = .returned (.bool true) ∧ w' = W)) :
    Calls Tryd.prog 14 #[.agg #[.string n, .string d]] w fun e w' => (∃ u1 u2, e = .returned (.tuple #[.agg #[u1, u2], .int .i64 0]) ∧ NumV w' 1000000000 nn u1 ∧ NumV w' 1000000000 dd u2) ∧ Below w.heap.size w w' := by
  have HW : Hid _ := CW
  clear CW
  go_enter Tryd.func14, Tryd.ntmps14
  go_wp2_with fail
  obtain ⟨U1, hU1⟩ : ∃ X, X = (((w.alloc (.cells #[(.string n), (.string d)] 23)).alloc (.cells #[(.slice none 0 0), (.slice none 0 0)] 38)).alloc (.cells #[(.string n), (.string d)] 9)) := ⟨_, rfl⟩
  have Jx : Hid (IHolds U1 (w.heap.size) 23 [(.string n), (.string d)]) := by
    have q := IHolds.new w 23 [(.string n), (.string d)]
    show IHolds _ _ _ _
    rw [hU1]
    exact ((q.alloc _).alloc _)
  have Jr : Hid (IHolds U1 (w.heap.size + 1) 38 [(.slice none 0 0), (.slice none 0 0)]) := by
    have q := IHolds.new (w.alloc (.cells #[(.string n), (.string d)] 23)) 38 [(.slice none 0 0), (.slice none 0 0)]
    simp only [World.size_alloc, Nat.add_assoc, Nat.reduceAdd] at q
    show IHolds _ _ _ _
    rw [hU1]
    exact (q.alloc _)
  have Jt : Hid (IHolds U1 (w.heap.size + 2) 9 [(.string n), (.string d)]) := by
    have q := IHolds.new ((w.alloc (.cells #[(.string n), (.string d)] 23)).alloc (.cells #[(.slice none 0 0), (.slice none 0 0)] 38)) 9 [(.string n), (.string d)]
    simp only [World.size_alloc, Nat.add_assoc, Nat.reduceAdd] at q
    show IHolds _ _ _ _
    rw [hU1]
    exact q
  have B : Hid (Below w.heap.size w U1) := by
    show Below _ _ _
    rw [hU1]
    exact ((((Below.refl _ w).alloc (Nat.le_refl _) _).alloc (by simp only [World.size_alloc]; omega) _).alloc (by simp only [World.size_alloc]; omega) _)
  rw [← hU1]
  clear hU1
  refine (HW.out U1 _ Jt.out).mono ?_
  rintro e V0 ⟨rfl, rfl⟩
  have nr : Hid (w.heap.size + 1 < V0.heap.size) := Jr.out.lt
  go_upto_region 4 with fail
  go_cut [5] (fun v5 wx => ∃ b5 x1 x2, v5 = .pointer (some ⟨b5, 0, none⟩) ∧ IHolds wx b5 38 [x1, x2] ∧ NumV wx 1000000000 nn x1 ∧ NumV wx 1000000000 dd x2 ∧ b5 ≠ w.heap.size + 1 ∧ IHolds wx (w.heap.size + 1) 38 [.slice none 0 0, .slice none 0 0] ∧ Below w.heap.size w wx)
  case first =>
    have hb := dB V0
    replace B := aB B hb
    replace Jx := aJ Jx hb
    replace Jr := aJ Jr hb
    replace Jt := aJ Jt hb
    clear hb
    refine wp_region_held_drew (S := fun W => IHolds W (w.heap.size) 23 [(.string n), (.string d)]) (by kernel_rfl) Jx.out (fun hHeld1 => ?_)
    generalize V0.drew = U2 at *
    refine tk (i := 0) (v := .pointer (some ⟨w.heap.size, 0, none⟩)) rfl (by kernel_rfl) (fun _ _ _ h => h) rfl ?_ hHeld1 ?_
    · intro W hS; go_simp
    simp only [Act.put, y1, y2, y3, y4, y5, y6, y7]
    refine tk (i := 3) (v := .pointer (some ⟨w.heap.size, 1, none⟩)) rfl (by kernel_rfl) (fun _ _ _ h => h) rfl ?_ hHeld1 ?_
    · intro W hS; go_simp
    simp only [Act.put, y1, y2, y3, y4, y5, y6, y7]
    refine tk (i := 1) (v := (.string n)) rfl (by kernel_rfl) (fun _ _ _ h => h) rfl ?_ hHeld1 ?_
    · intro W hS; obtain ⟨zx_0, zx_1⟩ := c2 hS; go_simp
    simp only [Act.put, y1, y2, y3, y4, y5, y6, y7]
    refine tk (i := 4) (v := (.string d)) rfl (by kernel_rfl) (fun _ _ _ h => h) rfl ?_ hHeld1 ?_
    · intro W hS; obtain ⟨zx_0, zx_1⟩ := c2 hS; go_simp
    simp only [Act.put, y1, y2, y3, y4, y5, y6, y7]
    refine wpAnyH_ready (rs := [2, 7]) (by kernel_rfl) (by simp) ?_
    refine AllReadyH.cons rfl (fun K hK => ?_) (AllReadyH.cons rfl (fun K hK => ?_) AllReadyH.nil)
    · clear hHeld1
      go_simp
      refine (C1.out U2).mono ?_
      rintro e U3 ⟨⟨x1, rfl, hv⟩, hb⟩
      have Nx1 : Hid (NumV U3 1000000000 (nn) x1) := hv
      clear hv
      replace B := aB B hb
      replace Jx := aJ Jx hb
      replace Jr := aJ Jr hb
      replace Jt := aJ Jt hb
      clear hb
      go_wp2_with fail
      refine hK.out _ _ (Jx.out) (fun hHeld2 => ?_)
      clear hK K
      try simp only [Act.put, y1, y2, y3, y4, y5, y6, y7]
      refine wpAnyH_ready (rs := [5, 7]) (by kernel_rfl) (by simp) ?_
      refine AllReadyH.cons rfl (fun K hK => ?_) (AllReadyH.cons rfl (fun K hK => ?_) AllReadyH.nil)
      · clear hHeld2
        go_simp
        refine (C2.out U3).mono ?_
        rintro e U4 ⟨⟨x2, rfl, hv⟩, hb⟩
        have Nx2 : Hid (NumV U4 1000000000 (dd) x2) := hv
        clear hv
        replace B := aB B hb
        replace Jx := aJ Jx hb
        replace Jr := aJ Jr hb
        replace Jt := aJ Jt hb
        replace Nx1 := aN Nx1 hb
        clear hb
        go_wp2_with fail
        refine hK.out _ _ (Jx.out) (fun hHeld3 => ?_)
        clear hK K
        try simp only [Act.put, y1, y2, y3, y4, y5, y6, y7]
        obtain ⟨x1_a, x1_l, x1_c, rfl⟩ := sN Nx1
        obtain ⟨x2_a, x2_l, x2_c, rfl⟩ := sN Nx2
        refine tk (i := 6) (v := .agg #[(.slice x1_a x1_l x1_c), (.slice x2_a x2_l x2_c)]) rfl (by kernel_rfl) (fun _ _ _ h => h) rfl ?_ hHeld3 ?_
        · intro W hS; go_simp
        simp only [Act.put, y1, y2, y3, y4, y5, y6, y7]
        refine wpAnyH_ready (rs := [7]) (by kernel_rfl) (by simp) ?_
        refine AllReadyH.cons rfl (fun K hK => ?_) AllReadyH.nil
        clear hHeld3
        go_simp
        have ne_x_l := nJ Jx
        have ne_r_l := nJ Jr
        have ne_t_l := nJ Jt
        have ge_l : Hid (w.heap.size ≤ U4.heap.size) := B.out.size
        have hb := nB U4 (.cells #[(.slice none 0 0), (.slice none 0 0)] 38)
        have Jl : Hid (IHolds (U4.alloc (.cells #[(.slice none 0 0), (.slice none 0 0)] 38)) U4.heap.size 38 [(.slice none 0 0), (.slice none 0 0)]) := IHolds.new _ _ _
        replace B := aB B hb
        replace Jx := aJ Jx hb
        replace Jr := aJ Jr hb
        replace Jt := aJ Jt hb
        replace Nx1 := aN Nx1 hb
        replace Nx2 := aN Nx2 hb
        clear hb
        generalize (U4.alloc (.cells #[(.slice none 0 0), (.slice none 0 0)] 38)) = U5 at *
        generalize U4.heap.size = b6 at *
        refine hK.out _ _ (Jx.out) (fun hHeld4 => ?_)
        clear hK K
        try simp only [Act.put, y1, y2, y3, y4, y5, y6, y7]
        refine wpAnyH_ready (rs := [8]) (by kernel_rfl) (by simp) ?_
        refine AllReadyH.cons rfl (fun K hK => ?_) AllReadyH.nil
        clear hHeld4
        obtain ⟨zl_0, zl_1⟩ := cJ Jl
        have f0 := fJ Jl
        have hBut : But (b6) U5 ((U5.setCell ⟨b6, 0, none⟩ (.slice x1_a x1_l x1_c)).setCell ⟨b6, 1, none⟩ (.slice x2_a x2_l x2_c)) := (((But.refl _ U5).setCell 0 (.slice x1_a x1_l x1_c)).setCell 1 (.slice x2_a x2_l x2_c))
        have I4 : Hid (IHolds _ (b6) 38 [(.slice x1_a x1_l x1_c), (.slice x2_a x2_l x2_c)]) := ((Jl.out.set 0 (.slice x1_a x1_l x1_c)).set 1 (.slice x2_a x2_l x2_c))
        replace B : Hid (Below w.heap.size w ((U5.setCell ⟨b6, 0, none⟩ (.slice x1_a x1_l x1_c)).setCell ⟨b6, 1, none⟩ (.slice x2_a x2_l x2_c))) := ((B.out.setCell (by first | exact Nat.le_refl _ | exact ge_l.out | (show w.heap.size ≤ b6; omega)) _).setCell (by first | exact Nat.le_refl _ | exact ge_l.out | (show w.heap.size ≤ b6; omega)) _)
        replace Jx := tJ Jx hBut (by first | exact ne_x_l.out | exact fun h => ne_l_x.out h.symm | omega)
        replace Jr := tJ Jr hBut (by first | exact ne_r_l.out | exact fun h => ne_l_r.out h.symm | omega)
        replace Jt := tJ Jt hBut (by first | exact ne_t_l.out | exact fun h => ne_l_t.out h.symm | omega)
        replace Nx1 := tN Nx1 Jl (by simp) hBut
        replace Nx2 := tN Nx2 Jl (by simp) hBut
        replace Jl := I4
        clear I4 hBut
        go_simp
        try go_wp2_with fail
        clear zl_0 zl_1
        clear f0
        generalize ((U5.setCell ⟨b6, 0, none⟩ (.slice x1_a x1_l x1_c)).setCell ⟨b6, 1, none⟩ (.slice x2_a x2_l x2_c)) = U7 at *
        refine hK.out _ _ (Jx.out) (fun hHeld5 => ?_)
        clear hK K
        try simp only [Act.put, y1, y2, y3, y4, y5, y6, y7]
        refine wpAnyH_done (by kernel_rfl) ?_ _
        clear hHeld5
        go_wp2_with fail
        go_meet
        case rel => exact ⟨_, _, _, rfl, Jl.out, Nx1.out, Nx2.out, fun h => ne_r_l.out h.symm, Jr.out, B.out⟩
      · clear hHeld2
        go_simp
        have ne_x_l := nJ Jx
        have ne_r_l := nJ Jr
        have ne_t_l := nJ Jt
        have ge_l : Hid (w.heap.size ≤ U3.heap.size) := B.out.size
        have hb := nB U3 (.cells #[(.slice none 0 0), (.slice none 0 0)] 38)
        have Jl : Hid (IHolds (U3.alloc (.cells #[(.slice none 0 0), (.slice none 0 0)] 38)) U3.heap.size 38 [(.slice none 0 0), (.slice none 0 0)]) := IHolds.new _ _ _
        replace B := aB B hb
        replace Jx := aJ Jx hb
        replace Jr := aJ Jr hb
        replace Jt := aJ Jt hb
        replace Nx1 := aN Nx1 hb
        clear hb
        generalize (U3.alloc (.cells #[(.slice none 0 0), (.slice none 0 0)] 38)) = U8 at *
        generalize U3.heap.size = b9 at *
        refine hK.out _ _ (Jx.out) (fun hHeld6 => ?_)
        clear hK K
        try simp only [Act.put, y1, y2, y3, y4, y5, y6, y7]
        refine wpAnyH_ready (rs := [5]) (by kernel_rfl) (by simp) ?_
        refine AllReadyH.cons rfl (fun K hK => ?_) AllReadyH.nil
        clear hHeld6
        go_simp
        refine (C2.out U8).mono ?_
        rintro e U10 ⟨⟨x2, rfl, hv⟩, hb⟩
        have Nx2 : Hid (NumV U10 1000000000 (dd) x2) := hv
        clear hv
        replace B := aB B hb
        replace Jx := aJ Jx hb
        replace Jr := aJ Jr hb
        replace Jt := aJ Jt hb
        replace Jl := aJ Jl hb
        replace Nx1 := aN Nx1 hb
        clear hb
        go_wp2_with fail
        refine hK.out _ _ (Jx.out) (fun hHeld7 => ?_)
        clear hK K
        try simp only [Act.put, y1, y2, y3, y4, y5, y6, y7]
        obtain ⟨x1_a, x1_l, x1_c, rfl⟩ := sN Nx1
        obtain ⟨x2_a, x2_l, x2_c, rfl⟩ := sN Nx2
        refine tk (i := 6) (v := .agg #[(.slice x1_a x1_l x1_c), (.slice x2_a x2_l x2_c)]) rfl (by kernel_rfl) (fun _ _ _ h => h) rfl ?_ hHeld7 ?_
        · intro W hS; go_simp
        simp only [Act.put, y1, y2, y3, y4, y5, y6, y7]
        refine wpAnyH_ready (rs := [8]) (by kernel_rfl) (by simp) ?_
        refine AllReadyH.cons rfl (fun K hK => ?_) AllReadyH.nil
        clear hHeld7
        obtain ⟨zl_0, zl_1⟩ := cJ Jl
        have f0 := fJ Jl
        have hBut : But (b9) U10 ((U10.setCell ⟨b9, 0, none⟩ (.slice x1_a x1_l x1_c)).setCell ⟨b9, 1, none⟩ (.slice x2_a x2_l x2_c)) := (((But.refl _ U10).setCell 0 (.slice x1_a x1_l x1_c)).setCell 1 (.slice x2_a x2_l x2_c))
        have I4 : Hid (IHolds _ (b9) 38 [(.slice x1_a x1_l x1_c), (.slice x2_a x2_l x2_c)]) := ((Jl.out.set 0 (.slice x1_a x1_l x1_c)).set 1 (.slice x2_a x2_l x2_c))
        replace B : Hid (Below w.heap.size w ((U10.setCell ⟨b9, 0, none⟩ (.slice x1_a x1_l x1_c)).setCell ⟨b9, 1, none⟩ (.slice x2_a x2_l x2_c))) := ((B.out.setCell (by first | exact Nat.le_refl _ | exact ge_l.out | (show w.heap.size ≤ b9; omega)) _).setCell (by first | exact Nat.le_refl _ | exact ge_l.out | (show w.heap.size ≤ b9; omega)) _)
        replace Jx := tJ Jx hBut (by first | exact ne_x_l.out | exact fun h => ne_l_x.out h.symm | omega)
        replace Jr := tJ Jr hBut (by first | exact ne_r_l.out | exact fun h => ne_l_r.out h.symm | omega)
        replace Jt := tJ Jt hBut (by first | exact ne_t_l.out | exact fun h => ne_l_t.out h.symm | omega)
        replace Nx1 := tN Nx1 Jl (by simp) hBut
        replace Nx2 := tN Nx2 Jl (by simp) hBut
        replace Jl := I4
        clear I4 hBut
        go_simp
        try go_wp2_with fail
        clear zl_0 zl_1
        clear f0
        generalize ((U10.setCell ⟨b9, 0, none⟩ (.slice x1_a x1_l x1_c)).setCell ⟨b9, 1, none⟩ (.slice x2_a x2_l x2_c)) = U11 at *
        refine hK.out _ _ (Jx.out) (fun hHeld8 => ?_)
        clear hK K
        try simp only [Act.put, y1, y2, y3, y4, y5, y6, y7]
        refine wpAnyH_done (by kernel_rfl) ?_ _
        clear hHeld8
        go_wp2_with fail
        go_meet
        case rel => exact ⟨_, _, _, rfl, Jl.out, Nx1.out, Nx2.out, fun h => ne_r_l.out h.symm, Jr.out, B.out⟩
    · clear hHeld1
      go_simp
      have ne_x_l := nJ Jx
      have ne_r_l := nJ Jr
      have ne_t_l := nJ Jt
      have ge_l : Hid (w.heap.size ≤ U2.heap.size) := B.out.size
      have hb := nB U2 (.cells #[(.slice none 0 0), (.slice none 0 0)] 38)
      have Jl : Hid (IHolds (U2.alloc (.cells #[(.slice none 0 0), (.slice none 0 0)] 38)) U2.heap.size 38 [(.slice none 0 0), (.slice none 0 0)]) := IHolds.new _ _ _
      replace B := aB B hb
      replace Jx := aJ Jx hb
      replace Jr := aJ Jr hb
      replace Jt := aJ Jt hb
      clear hb
      generalize (U2.alloc (.cells #[(.slice none 0 0), (.slice none 0 0)] 38)) = U12 at *
      generalize U2.heap.size = b13 at *
      refine hK.out _ _ (Jx.out) (fun hHeld9 => ?_)
      clear hK K
      try simp only [Act.put, y1, y2, y3, y4, y5, y6, y7]
      refine wpAnyH_ready (rs := [2]) (by kernel_rfl) (by simp) ?_
      refine AllReadyH.cons rfl (fun K hK => ?_) AllReadyH.nil
      clear hHeld9
      go_simp
      refine (C1.out U12).mono ?_
      rintro e U14 ⟨⟨x1, rfl, hv⟩, hb⟩
      have Nx1 : Hid (NumV U14 1000000000 (nn) x1) := hv
      clear hv
      replace B := aB B hb
      replace Jx := aJ Jx hb
      replace Jr := aJ Jr hb
      replace Jt := aJ Jt hb
      replace Jl := aJ Jl hb
      clear hb
      go_wp2_with fail
      refine hK.out _ _ (Jx.out) (fun hHeld10 => ?_)
      clear hK K
      try simp only [Act.put, y1, y2, y3, y4, y5, y6, y7]
      refine wpAnyH_ready (rs := [5]) (by kernel_rfl) (by simp) ?_
      refine AllReadyH.cons rfl (fun K hK => ?_) AllReadyH.nil
      clear hHeld10
      go_simp
      refine (C2.out U14).mono ?_
      rintro e U15 ⟨⟨x2, rfl, hv⟩, hb⟩
      have Nx2 : Hid (NumV U15 1000000000 (dd) x2) := hv
      clear hv
      replace B := aB B hb
      replace Jx := aJ Jx hb
      replace Jr := aJ Jr hb
      replace Jt := aJ Jt hb
      replace Jl := aJ Jl hb
      replace Nx1 := aN Nx1 hb
      clear hb
      go_wp2_with fail
      refine hK.out _ _ (Jx.out) (fun hHeld11 => ?_)
      clear hK K
      try simp only [Act.put, y1, y2, y3, y4, y5, y6, y7]
      obtain ⟨x1_a, x1_l, x1_c, rfl⟩ := sN Nx1
      obtain ⟨x2_a, x2_l, x2_c, rfl⟩ := sN Nx2
      refine tk (i := 6) (v := .agg #[(.slice x1_a x1_l x1_c), (.slice x2_a x2_l x2_c)]) rfl (by kernel_rfl) (fun _ _ _ h => h) rfl ?_ hHeld11 ?_
      · intro W hS; go_simp
      simp only [Act.put, y1, y2, y3, y4, y5, y6, y7]
      refine wpAnyH_ready (rs := [8]) (by kernel_rfl) (by simp) ?_
      refine AllReadyH.cons rfl (fun K hK => ?_) AllReadyH.nil
      clear hHeld11
      obtain ⟨zl_0, zl_1⟩ := cJ Jl
      have f0 := fJ Jl
      have hBut : But (b13) U15 ((U15.setCell ⟨b13, 0, none⟩ (.slice x1_a x1_l x1_c)).setCell ⟨b13, 1, none⟩ (.slice x2_a x2_l x2_c)) := (((But.refl _ U15).setCell 0 (.slice x1_a x1_l x1_c)).setCell 1 (.slice x2_a x2_l x2_c))
      have I4 : Hid (IHolds _ (b13) 38 [(.slice x1_a x1_l x1_c), (.slice x2_a x2_l x2_c)]) := ((Jl.out.set 0 (.slice x1_a x1_l x1_c)).set 1 (.slice x2_a x2_l x2_c))
      replace B : Hid (Below w.heap.size w ((U15.setCell ⟨b13, 0, none⟩ (.slice x1_a x1_l x1_c)).setCell ⟨b13, 1, none⟩ (.slice x2_a x2_l x2_c))) := ((B.out.setCell (by first | exact Nat.le_refl _ | exact ge_l.out | (show w.heap.size ≤ b13; omega)) _).setCell (by first | exact Nat.le_refl _ | exact ge_l.out | (show w.heap.size ≤ b13; omega)) _)
      replace Jx := tJ Jx hBut (by first | exact ne_x_l.out | exact fun h => ne_l_x.out h.symm | omega)
      replace Jr := tJ Jr hBut (by first | exact ne_r_l.out | exact fun h => ne_l_r.out h.symm | omega)
      replace Jt := tJ Jt hBut (by first | exact ne_t_l.out | exact fun h => ne_l_t.out h.symm | omega)
      replace Nx1 := tN Nx1 Jl (by simp) hBut
      replace Nx2 := tN Nx2 Jl (by simp) hBut
      replace Jl := I4
      clear I4 hBut
      go_simp
      try go_wp2_with fail
      clear zl_0 zl_1
      clear f0
      generalize ((U15.setCell ⟨b13, 0, none⟩ (.slice x1_a x1_l x1_c)).setCell ⟨b13, 1, none⟩ (.slice x2_a x2_l x2_c)) = U16 at *
      refine hK.out _ _ (Jx.out) (fun hHeld12 => ?_)
      clear hK K
      try simp only [Act.put, y1, y2, y3, y4, y5, y6, y7]
      refine wpAnyH_done (by kernel_rfl) ?_ _
      clear hHeld12
      go_wp2_with fail
      go_meet
      case rel => exact ⟨_, _, _, rfl, Jl.out, Nx1.out, Nx2.out, fun h => ne_r_l.out h.symm, Jr.out, B.out⟩
  case rest =>
    obtain ⟨b5, x1, x2, rfl, j5, n1', n2', z5, jr, bb⟩ := hcut
    clear B Jx Jr Jt nr C1 C2 HW
    have Jl : Hid (IHolds wc (b5) 38 [x1, x2]) := j5
    have Jr : Hid (IHolds wc (w.heap.size + 1) 38 [(.slice none 0 0), (.slice none 0 0)]) := jr
    have Nx1 : Hid (NumV wc 1000000000 (nn) x1) := n1'
    have Nx2 : Hid (NumV wc 1000000000 (dd) x2) := n2'
    have B : Hid (Below w.heap.size w wc) := bb
    have ne_r_l : Hid (w.heap.size + 1 ≠ b5) := fun h => z5 h.symm
    clear j5 jr n1' n2' bb z5
    obtain ⟨zl_0, zl_1⟩ := cJ Jl
    go_wp2_with fail
    clear zl_0 zl_1
    refine (C3.out wc x2 Nx2.out).mono ?_
    rintro e Uz ⟨rfl, rfl⟩
    obtain ⟨zl_0, zl_1⟩ := cJ Jl
    go_wp2_with fail
    clear zl_0 zl_1
    refine (C4.out Uz x1 x2 Nx1.out Nx2.out).mono ?_
    rintro e U17 ⟨⟨yg, rfl, hv⟩, hb⟩
    have Nyg : Hid (NumV U17 1000000000 (gg) yg) := hv
    clear hv
    replace B := aB B hb
    replace Jl := aJ Jl hb
    replace Jr := aJ Jr hb
    replace Nx1 := aN Nx1 hb
    replace Nx2 := aN Nx2 hb
    clear hb
    go_wp2_with fail
    refine (C5.out U17 yg Nyg.out).mono ?_
    rintro e Uo ⟨rfl, rfl⟩
    obtain ⟨x1_a, x1_l, x1_c, rfl⟩ := sN Nx1
    obtain ⟨x2_a, x2_l, x2_c, rfl⟩ := sN Nx2
    have Kl : Hid (IHolds Uo (b5) 38 [(.slice x1_a x1_l x1_c), (.slice x2_a x2_l x2_c)]) := Jl.out
    obtain ⟨zr_0, zr_1⟩ := cJ Jr
    have f0 := fJ Jr
    have hBut : But (w.heap.size + 1) Uo ((Uo.setCell ⟨w.heap.size + 1, 0, none⟩ (.slice x1_a x1_l x1_c)).setCell ⟨w.heap.size + 1, 1, none⟩ (.slice x2_a x2_l x2_c)) := (((But.refl _ Uo).setCell 0 (.slice x1_a x1_l x1_c)).setCell 1 (.slice x2_a x2_l x2_c))
    have I4 : Hid (IHolds _ (w.heap.size + 1) 38 [(.slice x1_a x1_l x1_c), (.slice x2_a x2_l x2_c)]) := ((Jr.out.set 0 (.slice x1_a x1_l x1_c)).set 1 (.slice x2_a x2_l x2_c))
    replace B : Hid (Below w.heap.size w ((Uo.setCell ⟨w.heap.size + 1, 0, none⟩ (.slice x1_a x1_l x1_c)).setCell ⟨w.heap.size + 1, 1, none⟩ (.slice x2_a x2_l x2_c))) := ((B.out.setCell (by first | exact Nat.le_refl _ | exact ge_r.out | (show w.heap.size ≤ w.heap.size + 1; omega)) _).setCell (by first | exact Nat.le_refl _ | exact ge_r.out | (show w.heap.size ≤ w.heap.size + 1; omega)) _)
    replace Jl := tJ Jl hBut (by first | exact ne_l_r.out | exact fun h => ne_r_l.out h.symm | omega)
    replace Nx1 := tN Nx1 Jr (by simp) hBut
    replace Nx2 := tN Nx2 Jr (by simp) hBut
    replace Nyg := tN Nyg Jr (by simp) hBut
    replace Jr := I4
    clear I4 hBut
    obtain ⟨zl_0, zl_1⟩ := cJ Kl
    go_wp2_with fail
    clear zl_0 zl_1
    clear Kl
    clear zr_0 zr_1
    clear f0
    generalize ((Uo.setCell ⟨w.heap.size + 1, 0, none⟩ (.slice x1_a x1_l x1_c)).setCell ⟨w.heap.size + 1, 1, none⟩ (.slice x2_a x2_l x2_c)) = U18 at *
    have E0 : Hid (U18.cell? ⟨w.heap.size + 1, 0, none⟩ = some ((.slice x1_a x1_l x1_c))) := IHolds.cell (l := [(.slice x1_a x1_l x1_c), (.slice x2_a x2_l x2_c)]) (t := 38) (b := w.heap.size + 1) (w := U18) Jr.out 0 (by simp)
    have E1 : Hid (U18.cell? ⟨w.heap.size + 1, 1, none⟩ = some ((.slice x2_a x2_l x2_c))) := IHolds.cell (l := [(.slice x1_a x1_l x1_c), (.slice x2_a x2_l x2_c)]) (t := 38) (b := w.heap.size + 1) (w := U18) Jr.out 1 (by simp)
    exact bodyPost_ret (v := .tuple #[.agg #[(.slice x1_a x1_l x1_c), (.slice x2_a x2_l x2_c)], .int .i64 0]) (by simp [results, Tryd.results14, go_sem, E0.out, E1.out]) rfl ⟨⟨_, _, rfl, Nx1.out, Nx2.out⟩, B.out⟩
set_option maxRecDepth 100000 in
set_option maxHeartbeats 4000000 in
theorem readFrac_zero (n d : ByteArray) (w : World) (nn dd gg : Nat) (CW : ∀ W a, IHolds W a 9 [.string n, .string d] → Calls Tryd.prog 32 #[.slice (some ⟨a, 0, none⟩) 2 2] W fun e w' => e = .returned (.int .i64 (0 : Int)) ∧ w' = W) (C1 : Hid (∀ W, Calls Tryd.prog 33 #[.string n] W fun e w' => (∃ v, e = .returned v ∧ NumV w' 1000000000 nn v) ∧ Below W.heap.size W w')) (C2 : Hid (∀ W, Calls Tryd.prog 33 #[.string d] W fun e w' => (∃ v, e = .returned v ∧ NumV w' 1000000000 dd v) ∧ Below W.heap.size W w')) (C3 : Hid (∀ W v, NumV W 1000000000 dd v → Calls Tryd.prog 21 #[v] W fun e w' => e = .returned (.bool true) ∧ w' = W)) :
    Calls Tryd.prog 14 #[.agg #[.string n, .string d]] w fun e w' => e = .returned (.tuple #[.agg #[.slice none 0 0, .slice none 0 0], .int .i64 2]) ∧ Below w.heap.size w w' := by
  have HW : Hid _ := CW
  clear CW
  go_enter Tryd.func14, Tryd.ntmps14
  go_wp2_with fail
  obtain ⟨U1, hU1⟩ : ∃ X, X = (((w.alloc (.cells #[(.string n), (.string d)] 23)).alloc (.cells #[(.slice none 0 0), (.slice none 0 0)] 38)).alloc (.cells #[(.string n), (.string d)] 9)) := ⟨_, rfl⟩
  have Jx : Hid (IHolds U1 (w.heap.size) 23 [(.string n), (.string d)]) := by
    have q := IHolds.new w 23 [(.string n), (.string d)]
    show IHolds _ _ _ _
    rw [hU1]
    exact ((q.alloc _).alloc _)
  have Jr : Hid (IHolds U1 (w.heap.size + 1) 38 [(.slice none 0 0), (.slice none 0 0)]) := by
    have q := IHolds.new (w.alloc (.cells #[(.string n), (.string d)] 23)) 38 [(.slice none 0 0), (.slice none 0 0)]
    simp only [World.size_alloc, Nat.add_assoc, Nat.reduceAdd] at q
    show IHolds _ _ _ _
    rw [hU1]
    exact (q.alloc _)
  have Jt : Hid (IHolds U1 (w.heap.size + 2) 9 [(.string n), (.string d)]) := by
    have q := IHolds.new ((w.alloc (.cells #[(.string n), (.string d)] 23)).alloc (.cells #[(.slice none 0 0), (.slice none 0 0)] 38)) 9 [(.string n), (.string d)]
    simp only [World.size_alloc, Nat.add_assoc, Nat.reduceAdd] at q
    show IHolds _ _ _ _
    rw [hU1]
    exact q
  have B : Hid (Below w.heap.size w U1) := by
    show Below _ _ _
    rw [hU1]
    exact ((((Below.refl _ w).alloc (Nat.le_refl _) _).alloc (by simp only [World.size_alloc]; omega) _).alloc (by simp only [World.size_alloc]; omega) _)
  rw [← hU1]
  clear hU1
  refine (HW.out U1 _ Jt.out).mono ?_
  rintro e V0 ⟨rfl, rfl⟩
  have nr : Hid (w.heap.size + 1 < V0.heap.size) := Jr.out.lt
  go_upto_region 4 with fail
  go_cut [5] (fun v5 wx => ∃ b5 x1 x2, v5 = .pointer (some ⟨b5, 0, none⟩) ∧ IHolds wx b5 38 [x1, x2] ∧ NumV wx 1000000000 nn x1 ∧ NumV wx 1000000000 dd x2 ∧ b5 ≠ w.heap.size + 1 ∧ IHolds wx (w.heap.size + 1) 38 [.slice none 0 0, .slice none 0 0] ∧ Below w.heap.size w wx)
  case first =>
    have hb := dB V0
    replace B := aB B hb
    replace Jx := aJ Jx hb
    replace Jr := aJ Jr hb
    replace Jt := aJ Jt hb
    clear hb
    refine wp_region_held_drew (S := fun W => IHolds W (w.heap.size) 23 [(.string n), (.string d)]) (by kernel_rfl) Jx.out (fun hHeld1 => ?_)
    generalize V0.drew = U2 at *
    refine tk (i := 0) (v := .pointer (some ⟨w.heap.size, 0, none⟩)) rfl (by kernel_rfl) (fun _ _ _ h => h) rfl ?_ hHeld1 ?_
    · intro W hS; go_simp
    simp only [Act.put, y1, y2, y3, y4, y5, y6, y7]
    refine tk (i := 3) (v := .pointer (some ⟨w.heap.size, 1, none⟩)) rfl (by kernel_rfl) (fun _ _ _ h => h) rfl ?_ hHeld1 ?_
    · intro W hS; go_simp
    simp only [Act.put, y1, y2, y3, y4, y5, y6, y7]
    refine tk (i := 1) (v := (.string n)) rfl (by kernel_rfl) (fun _ _ _ h => h) rfl ?_ hHeld1 ?_
    · intro W hS; obtain ⟨zx_0, zx_1⟩ := c2 hS; go_simp
    simp only [Act.put, y1, y2, y3, y4, y5, y6, y7]
    refine tk (i := 4) (v := (.string d)) rfl (by kernel_rfl) (fun _ _ _ h => h) rfl ?_ hHeld1 ?_
    · intro W hS; obtain ⟨zx_0, zx_1⟩ := c2 hS; go_simp
    simp only [Act.put, y1, y2, y3, y4, y5, y6, y7]
    refine wpAnyH_ready (rs := [2, 7]) (by kernel_rfl) (by simp) ?_
    refine AllReadyH.cons rfl (fun K hK => ?_) (AllReadyH.cons rfl (fun K hK => ?_) AllReadyH.nil)
    · clear hHeld1
      go_simp
      refine (C1.out U2).mono ?_
      rintro e U3 ⟨⟨x1, rfl, hv⟩, hb⟩
      have Nx1 : Hid (NumV U3 1000000000 (nn) x1) := hv
      clear hv
      replace B := aB B hb
      replace Jx := aJ Jx hb
      replace Jr := aJ Jr hb
      replace Jt := aJ Jt hb
      clear hb
      go_wp2_with fail
      refine hK.out _ _ (Jx.out) (fun hHeld2 => ?_)
      clear hK K
      try simp only [Act.put, y1, y2, y3, y4, y5, y6, y7]
      refine wpAnyH_ready (rs := [5, 7]) (by kernel_rfl) (by simp) ?_
      refine AllReadyH.cons rfl (fun K hK => ?_) (AllReadyH.cons rfl (fun K hK => ?_) AllReadyH.nil)
      · clear hHeld2
        go_simp
        refine (C2.out U3).mono ?_
        rintro e U4 ⟨⟨x2, rfl, hv⟩, hb⟩
        have Nx2 : Hid (NumV U4 1000000000 (dd) x2) := hv
        clear hv
        replace B := aB B hb
        replace Jx := aJ Jx hb
        replace Jr := aJ Jr hb
        replace Jt := aJ Jt hb
        replace Nx1 := aN Nx1 hb
        clear hb
        go_wp2_with fail
        refine hK.out _ _ (Jx.out) (fun hHeld3 => ?_)
        clear hK K
        try simp only [Act.put, y1, y2, y3, y4, y5, y6, y7]
        obtain ⟨x1_a, x1_l, x1_c, rfl⟩ := sN Nx1
        obtain ⟨x2_a, x2_l, x2_c, rfl⟩ := sN Nx2
        refine tk (i := 6) (v := .agg #[(.slice x1_a x1_l x1_c), (.slice x2_a x2_l x2_c)]) rfl (by kernel_rfl) (fun _ _ _ h => h) rfl ?_ hHeld3 ?_
        · intro W hS; go_simp
        simp only [Act.put, y1, y2, y3, y4, y5, y6, y7]
        refine wpAnyH_ready (rs := [7]) (by kernel_rfl) (by simp) ?_
        refine AllReadyH.cons rfl (fun K hK => ?_) AllReadyH.nil
        clear hHeld3
        go_simp
        have ne_x_l := nJ Jx
        have ne_r_l := nJ Jr
        have ne_t_l := nJ Jt
        have ge_l : Hid (w.heap.size ≤ U4.heap.size) := B.out.size
        have hb := nB U4 (.cells #[(.slice none 0 0), (.slice none 0 0)] 38)
        have Jl : Hid (IHolds (U4.alloc (.cells #[(.slice none 0 0), (.slice none 0 0)] 38)) U4.heap.size 38 [(.slice none 0 0), (.slice none 0 0)]) := IHolds.new _ _ _
        replace B := aB B hb
        replace Jx := aJ Jx hb
        replace Jr := aJ Jr hb
        replace Jt := aJ Jt hb
        replace Nx1 := aN Nx1 hb
        replace Nx2 := aN Nx2 hb
        clear hb
        generalize (U4.alloc (.cells #[(.slice none 0 0), (.slice none 0 0)] 38)) = U5 at *
        generalize U4.heap.size = b6 at *
        refine hK.out _ _ (Jx.out) (fun hHeld4 => ?_)
        clear hK K
        try simp only [Act.put, y1, y2, y3, y4, y5, y6, y7]
        refine wpAnyH_ready (rs := [8]) (by kernel_rfl) (by simp) ?_
        refine AllReadyH.cons rfl (fun K hK => ?_) AllReadyH.nil
        clear hHeld4
        obtain ⟨zl_0, zl_1⟩ := cJ Jl
        have f0 := fJ Jl
        have hBut : But (b6) U5 ((U5.setCell ⟨b6, 0, none⟩ (.slice x1_a x1_l x1_c)).setCell ⟨b6, 1, none⟩ (.slice x2_a x2_l x2_c)) := (((But.refl _ U5).setCell 0 (.slice x1_a x1_l x1_c)).setCell 1 (.slice x2_a x2_l x2_c))
        have I4 : Hid (IHolds _ (b6) 38 [(.slice x1_a x1_l x1_c), (.slice x2_a x2_l x2_c)]) := ((Jl.out.set 0 (.slice x1_a x1_l x1_c)).set 1 (.slice x2_a x2_l x2_c))
        replace B : Hid (Below w.heap.size w ((U5.setCell ⟨b6, 0, none⟩ (.slice x1_a x1_l x1_c)).setCell ⟨b6, 1, none⟩ (.slice x2_a x2_l x2_c))) := ((B.out.setCell (by first | exact Nat.le_refl _ | exact ge_l.out | (show w.heap.size ≤ b6; omega)) _).setCell (by first | exact Nat.le_refl _ | exact ge_l.out | (show w.heap.size ≤ b6; omega)) _)
        replace Jx := tJ Jx hBut (by first | exact ne_x_l.out | exact fun h => ne_l_x.out h.symm | omega)
        replace Jr := tJ Jr hBut (by first | exact ne_r_l.out | exact fun h => ne_l_r.out h.symm | omega)
        replace Jt := tJ Jt hBut (by first | exact ne_t_l.out | exact fun h => ne_l_t.out h.symm | omega)
        replace Nx1 := tN Nx1 Jl (by simp) hBut
        replace Nx2 := tN Nx2 Jl (by simp) hBut
        replace Jl := I4
        clear I4 hBut
        go_simp
        try go_wp2_with fail
        clear zl_0 zl_1
        clear f0
        generalize ((U5.setCell ⟨b6, 0, none⟩ (.slice x1_a x1_l x1_c)).setCell ⟨b6, 1, none⟩ (.slice x2_a x2_l x2_c)) = U7 at *
        refine hK.out _ _ (Jx.out) (fun hHeld5 => ?_)
        clear hK K
        try simp only [Act.put, y1, y2, y3, y4, y5, y6, y7]
        refine wpAnyH_done (by kernel_rfl) ?_ _
        clear hHeld5
        go_wp2_with fail
        go_meet
        case rel => exact ⟨_, _, _, rfl, Jl.out, Nx1.out, Nx2.out, fun h => ne_r_l.out h.symm, Jr.out, B.out⟩
      · clear hHeld2
        go_simp
        have ne_x_l := nJ Jx
        have ne_r_l := nJ Jr
        have ne_t_l := nJ Jt
        have ge_l : Hid (w.heap.size ≤ U3.heap.size) := B.out.size
        have hb := nB U3 (.cells #[(.slice none 0 0), (.slice none 0 0)] 38)
        have Jl : Hid (IHolds (U3.alloc (.cells #[(.slice none 0 0), (.slice none 0 0)] 38)) U3.heap.size 38 [(.slice none 0 0), (.slice none 0 0)]) := IHolds.new _ _ _
        replace B := aB B hb
        replace Jx := aJ Jx hb
        replace Jr := aJ Jr hb
        replace Jt := aJ Jt hb
        replace Nx1 := aN Nx1 hb
        clear hb
        generalize (U3.alloc (.cells #[(.slice none 0 0), (.slice none 0 0)] 38)) = U8 at *
        generalize U3.heap.size = b9 at *
        refine hK.out _ _ (Jx.out) (fun hHeld6 => ?_)
        clear hK K
        try simp only [Act.put, y1, y2, y3, y4, y5, y6, y7]
        refine wpAnyH_ready (rs := [5]) (by kernel_rfl) (by simp) ?_
        refine AllReadyH.cons rfl (fun K hK => ?_) AllReadyH.nil
        clear hHeld6
        go_simp
        refine (C2.out U8).mono ?_
        rintro e U10 ⟨⟨x2, rfl, hv⟩, hb⟩
        have Nx2 : Hid (NumV U10 1000000000 (dd) x2) := hv
        clear hv
        replace B := aB B hb
        replace Jx := aJ Jx hb
        replace Jr := aJ Jr hb
        replace Jt := aJ Jt hb
        replace Jl := aJ Jl hb
        replace Nx1 := aN Nx1 hb
        clear hb
        go_wp2_with fail
        refine hK.out _ _ (Jx.out) (fun hHeld7 => ?_)
        clear hK K
        try simp only [Act.put, y1, y2, y3, y4, y5, y6, y7]
        obtain ⟨x1_a, x1_l, x1_c, rfl⟩ := sN Nx1
        obtain ⟨x2_a, x2_l, x2_c, rfl⟩ := sN Nx2
        refine tk (i := 6) (v := .agg #[(.slice x1_a x1_l x1_c), (.slice x2_a x2_l x2_c)]) rfl (by kernel_rfl) (fun _ _ _ h => h) rfl ?_ hHeld7 ?_
        · intro W hS; go_simp
        simp only [Act.put, y1, y2, y3, y4, y5, y6, y7]
        refine wpAnyH_ready (rs := [8]) (by kernel_rfl) (by simp) ?_
        refine AllReadyH.cons rfl (fun K hK => ?_) AllReadyH.nil
        clear hHeld7
        obtain ⟨zl_0, zl_1⟩ := cJ Jl
        have f0 := fJ Jl
        have hBut : But (b9) U10 ((U10.setCell ⟨b9, 0, none⟩ (.slice x1_a x1_l x1_c)).setCell ⟨b9, 1, none⟩ (.slice x2_a x2_l x2_c)) := (((But.refl _ U10).setCell 0 (.slice x1_a x1_l x1_c)).setCell 1 (.slice x2_a x2_l x2_c))
        have I4 : Hid (IHolds _ (b9) 38 [(.slice x1_a x1_l x1_c), (.slice x2_a x2_l x2_c)]) := ((Jl.out.set 0 (.slice x1_a x1_l x1_c)).set 1 (.slice x2_a x2_l x2_c))
        replace B : Hid (Below w.heap.size w ((U10.setCell ⟨b9, 0, none⟩ (.slice x1_a x1_l x1_c)).setCell ⟨b9, 1, none⟩ (.slice x2_a x2_l x2_c))) := ((B.out.setCell (by first | exact Nat.le_refl _ | exact ge_l.out | (show w.heap.size ≤ b9; omega)) _).setCell (by first | exact Nat.le_refl _ | exact ge_l.out | (show w.heap.size ≤ b9; omega)) _)
        replace Jx := tJ Jx hBut (by first | exact ne_x_l.out | exact fun h => ne_l_x.out h.symm | omega)
        replace Jr := tJ Jr hBut (by first | exact ne_r_l.out | exact fun h => ne_l_r.out h.symm | omega)
        replace Jt := tJ Jt hBut (by first | exact ne_t_l.out | exact fun h => ne_l_t.out h.symm | omega)
        replace Nx1 := tN Nx1 Jl (by simp) hBut
        replace Nx2 := tN Nx2 Jl (by simp) hBut
        replace Jl := I4
        clear I4 hBut
        go_simp
        try go_wp2_with fail
        clear zl_0 zl_1
        clear f0
        generalize ((U10.setCell ⟨b9, 0, none⟩ (.slice x1_a x1_l x1_c)).setCell ⟨b9, 1, none⟩ (.slice x2_a x2_l x2_c)) = U11 at *
        refine hK.out _ _ (Jx.out) (fun hHeld8 => ?_)
        clear hK K
        try simp only [Act.put, y1, y2, y3, y4, y5, y6, y7]
        refine wpAnyH_done (by kernel_rfl) ?_ _
        clear hHeld8
        go_wp2_with fail
        go_meet
        case rel => exact ⟨_, _, _, rfl, Jl.out, Nx1.out, Nx2.out, fun h => ne_r_l.out h.symm, Jr.out, B.out⟩
    · clear hHeld1
      go_simp
      have ne_x_l := nJ Jx
      have ne_r_l := nJ Jr
      have ne_t_l := nJ Jt
      have ge_l : Hid (w.heap.size ≤ U2.heap.size) := B.out.size
      have hb := nB U2 (.cells #[(.slice none 0 0), (.slice none 0 0)] 38)
      have Jl : Hid (IHolds (U2.alloc (.cells #[(.slice none 0 0), (.slice none 0 0)] 38)) U2.heap.size 38 [(.slice none 0 0), (.slice none 0 0)]) := IHolds.new _ _ _
      replace B := aB B hb
      replace Jx := aJ Jx hb
      replace Jr := aJ Jr hb
      replace Jt := aJ Jt hb
      clear hb
      generalize (U2.alloc (.cells #[(.slice none 0 0), (.slice none 0 0)] 38)) = U12 at *
      generalize U2.heap.size = b13 at *
      refine hK.out _ _ (Jx.out) (fun hHeld9 => ?_)
      clear hK K
      try simp only [Act.put, y1, y2, y3, y4, y5, y6, y7]
      refine wpAnyH_ready (rs := [2]) (by kernel_rfl) (by simp) ?_
      refine AllReadyH.cons rfl (fun K hK => ?_) AllReadyH.nil
      clear hHeld9
      go_simp
      refine (C1.out U12).mono ?_
      rintro e U14 ⟨⟨x1, rfl, hv⟩, hb⟩
      have Nx1 : Hid (NumV U14 1000000000 (nn) x1) := hv
      clear hv
      replace B := aB B hb
      replace Jx := aJ Jx hb
      replace Jr := aJ Jr hb
      replace Jt := aJ Jt hb
      replace Jl := aJ Jl hb
      clear hb
      go_wp2_with fail
      refine hK.out _ _ (Jx.out) (fun hHeld10 => ?_)
      clear hK K
      try simp only [Act.put, y1, y2, y3, y4, y5, y6, y7]
      refine wpAnyH_ready (rs := [5]) (by kernel_rfl) (by simp) ?_
      refine AllReadyH.cons rfl (fun K hK => ?_) AllReadyH.nil
      clear hHeld10
      go_simp
      refine (C2.out U14).mono ?_
      rintro e U15 ⟨⟨x2, rfl, hv⟩, hb⟩
      have Nx2 : Hid (NumV U15 1000000000 (dd) x2) := hv
      clear hv
      replace B := aB B hb
      replace Jx := aJ Jx hb
      replace Jr := aJ Jr hb
      replace Jt := aJ Jt hb
      replace Jl := aJ Jl hb
      replace Nx1 := aN Nx1 hb
      clear hb
      go_wp2_with fail
      refine hK.out _ _ (Jx.out) (fun hHeld11 => ?_)
      clear hK K
      try simp only [Act.put, y1, y2, y3, y4, y5, y6, y7]
      obtain ⟨x1_a, x1_l, x1_c, rfl⟩ := sN Nx1
      obtain ⟨x2_a, x2_l, x2_c, rfl⟩ := sN Nx2
      refine tk (i := 6) (v := .agg #[(.slice x1_a x1_l x1_c), (.slice x2_a x2_l x2_c)]) rfl (by kernel_rfl) (fun _ _ _ h => h) rfl ?_ hHeld11 ?_
      · intro W hS; go_simp
      simp only [Act.put, y1, y2, y3, y4, y5, y6, y7]
      refine wpAnyH_ready (rs := [8]) (by kernel_rfl) (by simp) ?_
      refine AllReadyH.cons rfl (fun K hK => ?_) AllReadyH.nil
      clear hHeld11
      obtain ⟨zl_0, zl_1⟩ := cJ Jl
      have f0 := fJ Jl
      have hBut : But (b13) U15 ((U15.setCell ⟨b13, 0, none⟩ (.slice x1_a x1_l x1_c)).setCell ⟨b13, 1, none⟩ (.slice x2_a x2_l x2_c)) := (((But.refl _ U15).setCell 0 (.slice x1_a x1_l x1_c)).setCell 1 (.slice x2_a x2_l x2_c))
      have I4 : Hid (IHolds _ (b13) 38 [(.slice x1_a x1_l x1_c), (.slice x2_a x2_l x2_c)]) := ((Jl.out.set 0 (.slice x1_a x1_l x1_c)).set 1 (.slice x2_a x2_l x2_c))
      replace B : Hid (Below w.heap.size w ((U15.setCell ⟨b13, 0, none⟩ (.slice x1_a x1_l x1_c)).setCell ⟨b13, 1, none⟩ (.slice x2_a x2_l x2_c))) := ((B.out.setCell (by first | exact Nat.le_refl _ | exact ge_l.out | (show w.heap.size ≤ b13; omega)) _).setCell (by first | exact Nat.le_refl _ | exact ge_l.out | (show w.heap.size ≤ b13; omega)) _)
      replace Jx := tJ Jx hBut (by first | exact ne_x_l.out | exact fun h => ne_l_x.out h.symm | omega)
      replace Jr := tJ Jr hBut (by first | exact ne_r_l.out | exact fun h => ne_l_r.out h.symm | omega)
      replace Jt := tJ Jt hBut (by first | exact ne_t_l.out | exact fun h => ne_l_t.out h.symm | omega)
      replace Nx1 := tN Nx1 Jl (by simp) hBut
      replace Nx2 := tN Nx2 Jl (by simp) hBut
      replace Jl := I4
      clear I4 hBut
      go_simp
      try go_wp2_with fail
      clear zl_0 zl_1
      clear f0
      generalize ((U15.setCell ⟨b13, 0, none⟩ (.slice x1_a x1_l x1_c)).setCell ⟨b13, 1, none⟩ (.slice x2_a x2_l x2_c)) = U16 at *
      refine hK.out _ _ (Jx.out) (fun hHeld12 => ?_)
      clear hK K
      try simp only [Act.put, y1, y2, y3, y4, y5, y6, y7]
      refine wpAnyH_done (by kernel_rfl) ?_ _
      clear hHeld12
      go_wp2_with fail
      go_meet
      case rel => exact ⟨_, _, _, rfl, Jl.out, Nx1.out, Nx2.out, fun h => ne_r_l.out h.symm, Jr.out, B.out⟩
  case rest =>
    obtain ⟨b5, x1, x2, rfl, j5, n1', n2', z5, jr, bb⟩ := hcut
    clear B Jx Jr Jt nr C1 C2 HW
    have Jl : Hid (IHolds wc (b5) 38 [x1, x2]) := j5
    have Jr : Hid (IHolds wc (w.heap.size + 1) 38 [(.slice none 0 0), (.slice none 0 0)]) := jr
    have Nx1 : Hid (NumV wc 1000000000 (nn) x1) := n1'
    have Nx2 : Hid (NumV wc 1000000000 (dd) x2) := n2'
    have B : Hid (Below w.heap.size w wc) := bb
    have ne_r_l : Hid (w.heap.size + 1 ≠ b5) := fun h => z5 h.symm
    clear j5 jr n1' n2' bb z5
    obtain ⟨zl_0, zl_1⟩ := cJ Jl
    go_wp2_with fail
    clear zl_0 zl_1
    refine (C3.out wc x2 Nx2.out).mono ?_
    rintro e Uz ⟨rfl, rfl⟩
    obtain ⟨zr_0, zr_1⟩ := cJ Jr
    have f0 := fJ Jr
    have hBut : But (w.heap.size + 1) Uz ((Uz.setCell ⟨w.heap.size + 1, 0, none⟩ (.slice none 0 0)).setCell ⟨w.heap.size + 1, 1, none⟩ (.slice none 0 0)) := (((But.refl _ Uz).setCell 0 (.slice none 0 0)).setCell 1 (.slice none 0 0))
    have I4 : Hid (IHolds _ (w.heap.size + 1) 38 [(.slice none 0 0), (.slice none 0 0)]) := ((Jr.out.set 0 (.slice none 0 0)).set 1 (.slice none 0 0))
    replace B : Hid (Below w.heap.size w ((Uz.setCell ⟨w.heap.size + 1, 0, none⟩ (.slice none 0 0)).setCell ⟨w.heap.size + 1, 1, none⟩ (.slice none 0 0))) := ((B.out.setCell (by first | exact Nat.le_refl _ | exact ge_r.out | (show w.heap.size ≤ w.heap.size + 1; omega)) _).setCell (by first | exact Nat.le_refl _ | exact ge_r.out | (show w.heap.size ≤ w.heap.size + 1; omega)) _)
    replace Jl := tJ Jl hBut (by first | exact ne_l_r.out | exact fun h => ne_r_l.out h.symm | omega)
    replace Nx1 := tN Nx1 Jr (by simp) hBut
    replace Nx2 := tN Nx2 Jr (by simp) hBut
    replace Jr := I4
    clear I4 hBut
    go_wp2_with fail
    clear zr_0 zr_1
    clear f0
    generalize ((Uz.setCell ⟨w.heap.size + 1, 0, none⟩ (.slice none 0 0)).setCell ⟨w.heap.size + 1, 1, none⟩ (.slice none 0 0)) = U17 at *
    have E0 : Hid (U17.cell? ⟨w.heap.size + 1, 0, none⟩ = some ((.slice none 0 0))) := IHolds.cell (l := [(.slice none 0 0), (.slice none 0 0)]) (t := 38) (b := w.heap.size + 1) (w := U17) Jr.out 0 (by simp)
    have E1 : Hid (U17.cell? ⟨w.heap.size + 1, 1, none⟩ = some ((.slice none 0 0))) := IHolds.cell (l := [(.slice none 0 0), (.slice none 0 0)]) (t := 38) (b := w.heap.size + 1) (w := U17) Jr.out 1 (by simp)
    exact bodyPost_ret (v := .tuple #[.agg #[(.slice none 0 0), (.slice none 0 0)], .int .i64 2]) (by simp [results, Tryd.results14, go_sem, E0.out, E1.out]) rfl ⟨rfl, B.out⟩
set_option maxRecDepth 100000 in
set_option maxHeartbeats 4000000 in
theorem readFrac_more (n d : ByteArray) (w : World) (nn dd gg : Nat) (CW : ∀ W a, IHolds W a 9 [.string n, .string d] → Calls Tryd.prog 32 #[.slice (some ⟨a, 0, none⟩) 2 2] W fun e w' => e = .returned (.int .i64 (0 : Int)) ∧ w' = W) (C1 : Hid (∀ W, Calls Tryd.prog 33 #[.string n] W fun e w' => (∃ v, e = .returned v ∧ NumV w' 1000000000 nn v) ∧ Below W.heap.size W w')) (C2 : Hid (∀ W, Calls Tryd.prog 33 #[.string d] W fun e w' => (∃ v, e = .returned v ∧ NumV w' 1000000000 dd v) ∧ Below W.heap.size W w')) (C3 : Hid (∀ W v, NumV W 1000000000 dd v → Calls Tryd.prog 21 #[v] W fun e w' => e = .returned (.bool false) ∧ w' = W)) (C4 : Hid (∀ W v v', NumV W 1000000000 nn v → NumV W 1000000000 dd v' → Calls Tryd.prog 34 #[v, v'] W fun e w' => (∃ v, e = .returned v ∧ NumV w' 1000000000 gg v) ∧ Below W.heap.size W w')) (C5 : Hid (∀ W v, NumV W 1000000000 gg v → Calls Tryd.prog 35 #[v] W fun e w' => e = .returned (.bool false) ∧ w' = W)) :
    Calls Tryd.prog 14 #[.agg #[.string n, .string d]] w fun e w' => e = .returned (.tuple #[.agg #[.slice none 0 0, .slice none 0 0], .int .i64 2]) ∧ Below w.heap.size w w' := by
  have HW : Hid _ := CW
  clear CW
  go_enter Tryd.func14, Tryd.ntmps14
  go_wp2_with fail
  obtain ⟨U1, hU1⟩ : ∃ X, X = (((w.alloc (.cells #[(.string n), (.string d)] 23)).alloc (.cells #[(.slice none 0 0), (.slice none 0 0)] 38)).alloc (.cells #[(.string n), (.string d)] 9)) := ⟨_, rfl⟩
  have Jx : Hid (IHolds U1 (w.heap.size) 23 [(.string n), (.string d)]) := by
    have q := IHolds.new w 23 [(.string n), (.string d)]
    show IHolds _ _ _ _
    rw [hU1]
    exact ((q.alloc _).alloc _)
  have Jr : Hid (IHolds U1 (w.heap.size + 1) 38 [(.slice none 0 0), (.slice none 0 0)]) := by
    have q := IHolds.new (w.alloc (.cells #[(.string n), (.string d)] 23)) 38 [(.slice none 0 0), (.slice none 0 0)]
    simp only [World.size_alloc, Nat.add_assoc, Nat.reduceAdd] at q
    show IHolds _ _ _ _
    rw [hU1]
    exact (q.alloc _)
  have Jt : Hid (IHolds U1 (w.heap.size + 2) 9 [(.string n), (.string d)]) := by
    have q := IHolds.new ((w.alloc (.cells #[(.string n), (.string d)] 23)).alloc (.cells #[(.slice none 0 0), (.slice none 0 0)] 38)) 9 [(.string n), (.string d)]
    simp only [World.size_alloc, Nat.add_assoc, Nat.reduceAdd] at q
    show IHolds _ _ _ _
    rw [hU1]
    exact q
  have B : Hid (Below w.heap.size w U1) := by
    show Below _ _ _
    rw [hU1]
    exact ((((Below.refl _ w).alloc (Nat.le_refl _) _).alloc (by simp only [World.size_alloc]; omega) _).alloc (by simp only [World.size_alloc]; omega) _)
  rw [← hU1]
  clear hU1
  refine (HW.out U1 _ Jt.out).mono ?_
  rintro e V0 ⟨rfl, rfl⟩
  have nr : Hid (w.heap.size + 1 < V0.heap.size) := Jr.out.lt
  go_upto_region 4 with fail
  go_cut [5] (fun v5 wx => ∃ b5 x1 x2, v5 = .pointer (some ⟨b5, 0, none⟩) ∧ IHolds wx b5 38 [x1, x2] ∧ NumV wx 1000000000 nn x1 ∧ NumV wx 1000000000 dd x2 ∧ b5 ≠ w.heap.size + 1 ∧ IHolds wx (w.heap.size + 1) 38 [.slice none 0 0, .slice none 0 0] ∧ Below w.heap.size w wx)
  case first =>
    have hb := dB V0
    replace B := aB B hb
    replace Jx := aJ Jx hb
    replace Jr := aJ Jr hb
    replace Jt := aJ Jt hb
    clear hb
    refine wp_region_held_drew (S := fun W => IHolds W (w.heap.size) 23 [(.string n), (.string d)]) (by kernel_rfl) Jx.out (fun hHeld1 => ?_)
    generalize V0.drew = U2 at *
    refine tk (i := 0) (v := .pointer (some ⟨w.heap.size, 0, none⟩)) rfl (by kernel_rfl) (fun _ _ _ h => h) rfl ?_ hHeld1 ?_
    · intro W hS; go_simp
    simp only [Act.put, y1, y2, y3, y4, y5, y6, y7]
    refine tk (i := 3) (v := .pointer (some ⟨w.heap.size, 1, none⟩)) rfl (by kernel_rfl) (fun _ _ _ h => h) rfl ?_ hHeld1 ?_
    · intro W hS; go_simp
    simp only [Act.put, y1, y2, y3, y4, y5, y6, y7]
    refine tk (i := 1) (v := (.string n)) rfl (by kernel_rfl) (fun _ _ _ h => h) rfl ?_ hHeld1 ?_
    · intro W hS; obtain ⟨zx_0, zx_1⟩ := c2 hS; go_simp
    simp only [Act.put, y1, y2, y3, y4, y5, y6, y7]
    refine tk (i := 4) (v := (.string d)) rfl (by kernel_rfl) (fun _ _ _ h => h) rfl ?_ hHeld1 ?_
    · intro W hS; obtain ⟨zx_0, zx_1⟩ := c2 hS; go_simp
    simp only [Act.put, y1, y2, y3, y4, y5, y6, y7]
    refine wpAnyH_ready (rs := [2, 7]) (by kernel_rfl) (by simp) ?_
    refine AllReadyH.cons rfl (fun K hK => ?_) (AllReadyH.cons rfl (fun K hK => ?_) AllReadyH.nil)
    · clear hHeld1
      go_simp
      refine (C1.out U2).mono ?_
      rintro e U3 ⟨⟨x1, rfl, hv⟩, hb⟩
      have Nx1 : Hid (NumV U3 1000000000 (nn) x1) := hv
      clear hv
      replace B := aB B hb
      replace Jx := aJ Jx hb
      replace Jr := aJ Jr hb
      replace Jt := aJ Jt hb
      clear hb
      go_wp2_with fail
      refine hK.out _ _ (Jx.out) (fun hHeld2 => ?_)
      clear hK K
      try simp only [Act.put, y1, y2, y3, y4, y5, y6, y7]
      refine wpAnyH_ready (rs := [5, 7]) (by kernel_rfl) (by simp) ?_
      refine AllReadyH.cons rfl (fun K hK => ?_) (AllReadyH.cons rfl (fun K hK => ?_) AllReadyH.nil)
      · clear hHeld2
        go_simp
        refine (C2.out U3).mono ?_
        rintro e U4 ⟨⟨x2, rfl, hv⟩, hb⟩
        have Nx2 : Hid (NumV U4 1000000000 (dd) x2) := hv
        clear hv
        replace B := aB B hb
        replace Jx := aJ Jx hb
        replace Jr := aJ Jr hb
        replace Jt := aJ Jt hb
        replace Nx1 := aN Nx1 hb
        clear hb
        go_wp2_with fail
        refine hK.out _ _ (Jx.out) (fun hHeld3 => ?_)
        clear hK K
        try simp only [Act.put, y1, y2, y3, y4, y5, y6, y7]
        obtain ⟨x1_a, x1_l, x1_c, rfl⟩ := sN Nx1
        obtain ⟨x2_a, x2_l, x2_c, rfl⟩ := sN Nx2
        refine tk (i := 6) (v := .agg #[(.slice x1_a x1_l x1_c), (.slice x2_a x2_l x2_c)]) rfl (by kernel_rfl) (fun _ _ _ h => h) rfl ?_ hHeld3 ?_
        · intro W hS; go_simp
        simp only [Act.put, y1, y2, y3, y4, y5, y6, y7]
        refine wpAnyH_ready (rs := [7]) (by kernel_rfl) (by simp) ?_
        refine AllReadyH.cons rfl (fun K hK => ?_) AllReadyH.nil
        clear hHeld3
        go_simp
        have ne_x_l := nJ Jx
        have ne_r_l := nJ Jr
        have ne_t_l := nJ Jt
        have ge_l : Hid (w.heap.size ≤ U4.heap.size) := B.out.size
        have hb := nB U4 (.cells #[(.slice none 0 0), (.slice none 0 0)] 38)
        have Jl : Hid (IHolds (U4.alloc (.cells #[(.slice none 0 0), (.slice none 0 0)] 38)) U4.heap.size 38 [(.slice none 0 0), (.slice none 0 0)]) := IHolds.new _ _ _
        replace B := aB B hb
        replace Jx := aJ Jx hb
        replace Jr := aJ Jr hb
        replace Jt := aJ Jt hb
        replace Nx1 := aN Nx1 hb
        replace Nx2 := aN Nx2 hb
        clear hb
        generalize (U4.alloc (.cells #[(.slice none 0 0), (.slice none 0 0)] 38)) = U5 at *
        generalize U4.heap.size = b6 at *
        refine hK.out _ _ (Jx.out) (fun hHeld4 => ?_)
        clear hK K
        try simp only [Act.put, y1, y2, y3, y4, y5, y6, y7]
        refine wpAnyH_ready (rs := [8]) (by kernel_rfl) (by simp) ?_
        refine AllReadyH.cons rfl (fun K hK => ?_) AllReadyH.nil
        clear hHeld4
        obtain ⟨zl_0, zl_1⟩ := cJ Jl
        have f0 := fJ Jl
        have hBut : But (b6) U5 ((U5.setCell ⟨b6, 0, none⟩ (.slice x1_a x1_l x1_c)).setCell ⟨b6, 1, none⟩ (.slice x2_a x2_l x2_c)) := (((But.refl _ U5).setCell 0 (.slice x1_a x1_l x1_c)).setCell 1 (.slice x2_a x2_l x2_c))
        have I4 : Hid (IHolds _ (b6) 38 [(.slice x1_a x1_l x1_c), (.slice x2_a x2_l x2_c)]) := ((Jl.out.set 0 (.slice x1_a x1_l x1_c)).set 1 (.slice x2_a x2_l x2_c))
        replace B : Hid (Below w.heap.size w ((U5.setCell ⟨b6, 0, none⟩ (.slice x1_a x1_l x1_c)).setCell ⟨b6, 1, none⟩ (.slice x2_a x2_l x2_c))) := ((B.out.setCell (by first | exact Nat.le_refl _ | exact ge_l.out | (show w.heap.size ≤ b6; omega)) _).setCell (by first | exact Nat.le_refl _ | exact ge_l.out | (show w.heap.size ≤ b6; omega)) _)
        replace Jx := tJ Jx hBut (by first | exact ne_x_l.out | exact fun h => ne_l_x.out h.symm | omega)
        replace Jr := tJ Jr hBut (by first | exact ne_r_l.out | exact fun h => ne_l_r.out h.symm | omega)
        replace Jt := tJ Jt hBut (by first | exact ne_t_l.out | exact fun h => ne_l_t.out h.symm | omega)
        replace Nx1 := tN Nx1 Jl (by simp) hBut
        replace Nx2 := tN Nx2 Jl (by simp) hBut
        replace Jl := I4
        clear I4 hBut
        go_simp
        try go_wp2_with fail
        clear zl_0 zl_1
        clear f0
        generalize ((U5.setCell ⟨b6, 0, none⟩ (.slice x1_a x1_l x1_c)).setCell ⟨b6, 1, none⟩ (.slice x2_a x2_l x2_c)) = U7 at *
        refine hK.out _ _ (Jx.out) (fun hHeld5 => ?_)
        clear hK K
        try simp only [Act.put, y1, y2, y3, y4, y5, y6, y7]
        refine wpAnyH_done (by kernel_rfl) ?_ _
        clear hHeld5
        go_wp2_with fail
        go_meet
        case rel => exact ⟨_, _, _, rfl, Jl.out, Nx1.out, Nx2.out, fun h => ne_r_l.out h.symm, Jr.out, B.out⟩
      · clear hHeld2
        go_simp
        have ne_x_l := nJ Jx
        have ne_r_l := nJ Jr
        have ne_t_l := nJ Jt
        have ge_l : Hid (w.heap.size ≤ U3.heap.size) := B.out.size
        have hb := nB U3 (.cells #[(.slice none 0 0), (.slice none 0 0)] 38)
        have Jl : Hid (IHolds (U3.alloc (.cells #[(.slice none 0 0), (.slice none 0 0)] 38)) U3.heap.size 38 [(.slice none 0 0), (.slice none 0 0)]) := IHolds.new _ _ _
        replace B := aB B hb
        replace Jx := aJ Jx hb
        replace Jr := aJ Jr hb
        replace Jt := aJ Jt hb
        replace Nx1 := aN Nx1 hb
        clear hb
        generalize (U3.alloc (.cells #[(.slice none 0 0), (.slice none 0 0)] 38)) = U8 at *
        generalize U3.heap.size = b9 at *
        refine hK.out _ _ (Jx.out) (fun hHeld6 => ?_)
        clear hK K
        try simp only [Act.put, y1, y2, y3, y4, y5, y6, y7]
        refine wpAnyH_ready (rs := [5]) (by kernel_rfl) (by simp) ?_
        refine AllReadyH.cons rfl (fun K hK => ?_) AllReadyH.nil
        clear hHeld6
        go_simp
        refine (C2.out U8).mono ?_
        rintro e U10 ⟨⟨x2, rfl, hv⟩, hb⟩
        have Nx2 : Hid (NumV U10 1000000000 (dd) x2) := hv
        clear hv
        replace B := aB B hb
        replace Jx := aJ Jx hb
        replace Jr := aJ Jr hb
        replace Jt := aJ Jt hb
        replace Jl := aJ Jl hb
        replace Nx1 := aN Nx1 hb
        clear hb
        go_wp2_with fail
        refine hK.out _ _ (Jx.out) (fun hHeld7 => ?_)
        clear hK K
        try simp only [Act.put, y1, y2, y3, y4, y5, y6, y7]
        obtain ⟨x1_a, x1_l, x1_c, rfl⟩ := sN Nx1
        obtain ⟨x2_a, x2_l, x2_c, rfl⟩ := sN Nx2
        refine tk (i := 6) (v := .agg #[(.slice x1_a x1_l x1_c), (.slice x2_a x2_l x2_c)]) rfl (by kernel_rfl) (fun _ _ _ h => h) rfl ?_ hHeld7 ?_
        · intro W hS; go_simp
        simp only [Act.put, y1, y2, y3, y4, y5, y6, y7]
        refine wpAnyH_ready (rs := [8]) (by kernel_rfl) (by simp) ?_
        refine AllReadyH.cons rfl (fun K hK => ?_) AllReadyH.nil
        clear hHeld7
        obtain ⟨zl_0, zl_1⟩ := cJ Jl
        have f0 := fJ Jl
        have hBut : But (b9) U10 ((U10.setCell ⟨b9, 0, none⟩ (.slice x1_a x1_l x1_c)).setCell ⟨b9, 1, none⟩ (.slice x2_a x2_l x2_c)) := (((But.refl _ U10).setCell 0 (.slice x1_a x1_l x1_c)).setCell 1 (.slice x2_a x2_l x2_c))
        have I4 : Hid (IHolds _ (b9) 38 [(.slice x1_a x1_l x1_c), (.slice x2_a x2_l x2_c)]) := ((Jl.out.set 0 (.slice x1_a x1_l x1_c)).set 1 (.slice x2_a x2_l x2_c))
        replace B : Hid (Below w.heap.size w ((U10.setCell ⟨b9, 0, none⟩ (.slice x1_a x1_l x1_c)).setCell ⟨b9, 1, none⟩ (.slice x2_a x2_l x2_c))) := ((B.out.setCell (by first | exact Nat.le_refl _ | exact ge_l.out | (show w.heap.size ≤ b9; omega)) _).setCell (by first | exact Nat.le_refl _ | exact ge_l.out | (show w.heap.size ≤ b9; omega)) _)
        replace Jx := tJ Jx hBut (by first | exact ne_x_l.out | exact fun h => ne_l_x.out h.symm | omega)
        replace Jr := tJ Jr hBut (by first | exact ne_r_l.out | exact fun h => ne_l_r.out h.symm | omega)
        replace Jt := tJ Jt hBut (by first | exact ne_t_l.out | exact fun h => ne_l_t.out h.symm | omega)
        replace Nx1 := tN Nx1 Jl (by simp) hBut
        replace Nx2 := tN Nx2 Jl (by simp) hBut
        replace Jl := I4
        clear I4 hBut
        go_simp
        try go_wp2_with fail
        clear zl_0 zl_1
        clear f0
        generalize ((U10.setCell ⟨b9, 0, none⟩ (.slice x1_a x1_l x1_c)).setCell ⟨b9, 1, none⟩ (.slice x2_a x2_l x2_c)) = U11 at *
        refine hK.out _ _ (Jx.out) (fun hHeld8 => ?_)
        clear hK K
        try simp only [Act.put, y1, y2, y3, y4, y5, y6, y7]
        refine wpAnyH_done (by kernel_rfl) ?_ _
        clear hHeld8
        go_wp2_with fail
        go_meet
        case rel => exact ⟨_, _, _, rfl, Jl.out, Nx1.out, Nx2.out, fun h => ne_r_l.out h.symm, Jr.out, B.out⟩
    · clear hHeld1
      go_simp
      have ne_x_l := nJ Jx
      have ne_r_l := nJ Jr
      have ne_t_l := nJ Jt
      have ge_l : Hid (w.heap.size ≤ U2.heap.size) := B.out.size
      have hb := nB U2 (.cells #[(.slice none 0 0), (.slice none 0 0)] 38)
      have Jl : Hid (IHolds (U2.alloc (.cells #[(.slice none 0 0), (.slice none 0 0)] 38)) U2.heap.size 38 [(.slice none 0 0), (.slice none 0 0)]) := IHolds.new _ _ _
      replace B := aB B hb
      replace Jx := aJ Jx hb
      replace Jr := aJ Jr hb
      replace Jt := aJ Jt hb
      clear hb
      generalize (U2.alloc (.cells #[(.slice none 0 0), (.slice none 0 0)] 38)) = U12 at *
      generalize U2.heap.size = b13 at *
      refine hK.out _ _ (Jx.out) (fun hHeld9 => ?_)
      clear hK K
      try simp only [Act.put, y1, y2, y3, y4, y5, y6, y7]
      refine wpAnyH_ready (rs := [2]) (by kernel_rfl) (by simp) ?_
      refine AllReadyH.cons rfl (fun K hK => ?_) AllReadyH.nil
      clear hHeld9
      go_simp
      refine (C1.out U12).mono ?_
      rintro e U14 ⟨⟨x1, rfl, hv⟩, hb⟩
      have Nx1 : Hid (NumV U14 1000000000 (nn) x1) := hv
      clear hv
      replace B := aB B hb
      replace Jx := aJ Jx hb
      replace Jr := aJ Jr hb
      replace Jt := aJ Jt hb
      replace Jl := aJ Jl hb
      clear hb
      go_wp2_with fail
      refine hK.out _ _ (Jx.out) (fun hHeld10 => ?_)
      clear hK K
      try simp only [Act.put, y1, y2, y3, y4, y5, y6, y7]
      refine wpAnyH_ready (rs := [5]) (by kernel_rfl) (by simp) ?_
      refine AllReadyH.cons rfl (fun K hK => ?_) AllReadyH.nil
      clear hHeld10
      go_simp
      refine (C2.out U14).mono ?_
      rintro e U15 ⟨⟨x2, rfl, hv⟩, hb⟩
      have Nx2 : Hid (NumV U15 1000000000 (dd) x2) := hv
      clear hv
      replace B := aB B hb
      replace Jx := aJ Jx hb
      replace Jr := aJ Jr hb
      replace Jt := aJ Jt hb
      replace Jl := aJ Jl hb
      replace Nx1 := aN Nx1 hb
      clear hb
      go_wp2_with fail
      refine hK.out _ _ (Jx.out) (fun hHeld11 => ?_)
      clear hK K
      try simp only [Act.put, y1, y2, y3, y4, y5, y6, y7]
      obtain ⟨x1_a, x1_l, x1_c, rfl⟩ := sN Nx1
      obtain ⟨x2_a, x2_l, x2_c, rfl⟩ := sN Nx2
      refine tk (i := 6) (v := .agg #[(.slice x1_a x1_l x1_c), (.slice x2_a x2_l x2_c)]) rfl (by kernel_rfl) (fun _ _ _ h => h) rfl ?_ hHeld11 ?_
      · intro W hS; go_simp
      simp only [Act.put, y1, y2, y3, y4, y5, y6, y7]
      refine wpAnyH_ready (rs := [8]) (by kernel_rfl) (by simp) ?_
      refine AllReadyH.cons rfl (fun K hK => ?_) AllReadyH.nil
      clear hHeld11
      obtain ⟨zl_0, zl_1⟩ := cJ Jl
      have f0 := fJ Jl
      have hBut : But (b13) U15 ((U15.setCell ⟨b13, 0, none⟩ (.slice x1_a x1_l x1_c)).setCell ⟨b13, 1, none⟩ (.slice x2_a x2_l x2_c)) := (((But.refl _ U15).setCell 0 (.slice x1_a x1_l x1_c)).setCell 1 (.slice x2_a x2_l x2_c))
      have I4 : Hid (IHolds _ (b13) 38 [(.slice x1_a x1_l x1_c), (.slice x2_a x2_l x2_c)]) := ((Jl.out.set 0 (.slice x1_a x1_l x1_c)).set 1 (.slice x2_a x2_l x2_c))
      replace B : Hid (Below w.heap.size w ((U15.setCell ⟨b13, 0, none⟩ (.slice x1_a x1_l x1_c)).setCell ⟨b13, 1, none⟩ (.slice x2_a x2_l x2_c))) := ((B.out.setCell (by first | exact Nat.le_refl _ | exact ge_l.out | (show w.heap.size ≤ b13; omega)) _).setCell (by first | exact Nat.le_refl _ | exact ge_l.out | (show w.heap.size ≤ b13; omega)) _)
      replace Jx := tJ Jx hBut (by first | exact ne_x_l.out | exact fun h => ne_l_x.out h.symm | omega)
      replace Jr := tJ Jr hBut (by first | exact ne_r_l.out | exact fun h => ne_l_r.out h.symm | omega)
      replace Jt := tJ Jt hBut (by first | exact ne_t_l.out | exact fun h => ne_l_t.out h.symm | omega)
      replace Nx1 := tN Nx1 Jl (by simp) hBut
      replace Nx2 := tN Nx2 Jl (by simp) hBut
      replace Jl := I4
      clear I4 hBut
      go_simp
      try go_wp2_with fail
      clear zl_0 zl_1
      clear f0
      generalize ((U15.setCell ⟨b13, 0, none⟩ (.slice x1_a x1_l x1_c)).setCell ⟨b13, 1, none⟩ (.slice x2_a x2_l x2_c)) = U16 at *
      refine hK.out _ _ (Jx.out) (fun hHeld12 => ?_)
      clear hK K
      try simp only [Act.put, y1, y2, y3, y4, y5, y6, y7]
      refine wpAnyH_done (by kernel_rfl) ?_ _
      clear hHeld12
      go_wp2_with fail
      go_meet
      case rel => exact ⟨_, _, _, rfl, Jl.out, Nx1.out, Nx2.out, fun h => ne_r_l.out h.symm, Jr.out, B.out⟩
  case rest =>
    obtain ⟨b5, x1, x2, rfl, j5, n1', n2', z5, jr, bb⟩ := hcut
    clear B Jx Jr Jt nr C1 C2 HW
    have Jl : Hid (IHolds wc (b5) 38 [x1, x2]) := j5
    have Jr : Hid (IHolds wc (w.heap.size + 1) 38 [(.slice none 0 0), (.slice none 0 0)]) := jr
    have Nx1 : Hid (NumV wc 1000000000 (nn) x1) := n1'
    have Nx2 : Hid (NumV wc 1000000000 (dd) x2) := n2'
    have B : Hid (Below w.heap.size w wc) := bb
    have ne_r_l : Hid (w.heap.size + 1 ≠ b5) := fun h => z5 h.symm
    clear j5 jr n1' n2' bb z5
    obtain ⟨zl_0, zl_1⟩ := cJ Jl
    go_wp2_with fail
    clear zl_0 zl_1
    refine (C3.out wc x2 Nx2.out).mono ?_
    rintro e Uz ⟨rfl, rfl⟩
    obtain ⟨zl_0, zl_1⟩ := cJ Jl
    go_wp2_with fail
    clear zl_0 zl_1
    refine (C4.out Uz x1 x2 Nx1.out Nx2.out).mono ?_
    rintro e U17 ⟨⟨yg, rfl, hv⟩, hb⟩
    have Nyg : Hid (NumV U17 1000000000 (gg) yg) := hv
    clear hv
    replace B := aB B hb
    replace Jl := aJ Jl hb
    replace Jr := aJ Jr hb
    replace Nx1 := aN Nx1 hb
    replace Nx2 := aN Nx2 hb
    clear hb
    go_wp2_with fail
    refine (C5.out U17 yg Nyg.out).mono ?_
    rintro e Uo ⟨rfl, rfl⟩
    obtain ⟨zr_0, zr_1⟩ := cJ Jr
    have f0 := fJ Jr
    have hBut : But (w.heap.size + 1) Uo ((Uo.setCell ⟨w.heap.size + 1, 0, none⟩ (.slice none 0 0)).setCell ⟨w.heap.size + 1, 1, none⟩ (.slice none 0 0)) := (((But.refl _ Uo).setCell 0 (.slice none 0 0)).setCell 1 (.slice none 0 0))
    have I4 : Hid (IHolds _ (w.heap.size + 1) 38 [(.slice none 0 0), (.slice none 0 0)]) := ((Jr.out.set 0 (.slice none 0 0)).set 1 (.slice none 0 0))
    replace B : Hid (Below w.heap.size w ((Uo.setCell ⟨w.heap.size + 1, 0, none⟩ (.slice none 0 0)).setCell ⟨w.heap.size + 1, 1, none⟩ (.slice none 0 0))) := ((B.out.setCell (by first | exact Nat.le_refl _ | exact ge_r.out | (show w.heap.size ≤ w.heap.size + 1; omega)) _).setCell (by first | exact Nat.le_refl _ | exact ge_r.out | (show w.heap.size ≤ w.heap.size + 1; omega)) _)
    replace Jl := tJ Jl hBut (by first | exact ne_l_r.out | exact fun h => ne_r_l.out h.symm | omega)
    replace Nx1 := tN Nx1 Jr (by simp) hBut
    replace Nx2 := tN Nx2 Jr (by simp) hBut
    replace Nyg := tN Nyg Jr (by simp) hBut
    replace Jr := I4
    clear I4 hBut
    go_wp2_with fail
    clear zr_0 zr_1
    clear f0
    generalize ((Uo.setCell ⟨w.heap.size + 1, 0, none⟩ (.slice none 0 0)).setCell ⟨w.heap.size + 1, 1, none⟩ (.slice none 0 0)) = U18 at *
    have E0 : Hid (U18.cell? ⟨w.heap.size + 1, 0, none⟩ = some ((.slice none 0 0))) := IHolds.cell (l := [(.slice none 0 0), (.slice none 0 0)]) (t := 38) (b := w.heap.size + 1) (w := U18) Jr.out 0 (by simp)
    have E1 : Hid (U18.cell? ⟨w.heap.size + 1, 1, none⟩ = some ((.slice none 0 0))) := IHolds.cell (l := [(.slice none 0 0), (.slice none 0 0)]) (t := 38) (b := w.heap.size + 1) (w := U18) Jr.out 1 (by simp)
    exact bodyPost_ret (v := .tuple #[.agg #[(.slice none 0 0), (.slice none 0 0)], .int .i64 2]) (by simp [results, Tryd.results14, go_sem, E0.out, E1.out]) rfl ⟨rfl, B.out⟩
theorem wrL_two (n d : ByteArray) : (wrL [n, d] ≠ 0 → wrF n d = wrL [n, d]) ∧ (wrL [n, d] = 0 → isNum n.data.toList = true ∧ isNum d.data.toList = true ∧ n.size ≤ 4000 ∧ d.size ≤ 4000) := by
  simp only [wrL, wrF, List.all_cons, List.all_nil, Bool.and_true]
  cases h1 : isNum n.data.toList with
  | false => simp
  | true =>
    cases h2 : isNum d.data.toList with
    | false => simp
    | true =>
      by_cases h3 : n.size ≤ 4000
      · by_cases h4 : d.size ≤ 4000
        · simp [h3, h4]
        · simp [h3, h4]
      · simp [h3]
theorem wrong87 (n d : ByteArray) (W : World) (a : Nat) (h : IHolds W a 9 [.string n, .string d]) (hn : n.size ≤ 4611686018427387904) (hd : d.size ≤ 4611686018427387904) :
    Calls Tryd.prog 32 #[.slice (some ⟨a, 0, none⟩) 2 2] W fun e w' => e = .returned (.int .i64 (wrL [n, d] : Int)) ∧ w' = W := by
  have := wrong_any W (some ⟨a, 0, none⟩) 2 [n, d] (fun i hi => ⟨a, 0, rfl, by
    have : i = 0 ∨ i = 1 := by simp at hi; omega
    rcases this with rfl | rfl
    · exact h.two0
    · exact h.two1⟩) (by simp) (by
      intro s hs
      simp at hs
      rcases hs with rfl | rfl <;> omega)
  exact this
theorem readFrac_good (n d : ByteArray) (w : World) (h : wrF n d = 0) :
    Calls Tryd.prog 14 #[.agg #[.string n, .string d]] w fun e w' => (∃ u1 u2, e = .returned (.tuple #[.agg #[u1, u2], .int .i64 0]) ∧ NumV w' 1000000000 (bv n.data.toList) u1 ∧ NumV w' 1000000000 (bv d.data.toList) u2) ∧ Below w.heap.size w w' := by
  obtain ⟨h1, h2, h3, h4⟩ := wrF_zero h
  obtain ⟨a1, s1⟩ := wrT_zero h1
  obtain ⟨a2, s2⟩ := wrT_zero h2
  have b1 := dg_len_bv n h1
  have b2 := dg_len_bv d h2
  have hL : wrL [n, d] = 0 := by
    by_cases hx : wrL [n, d] = 0
    · exact hx
    · exact absurd ((wrL_two n d).1 hx) (by omega)
  refine readFrac_ok n d w _ _ (Nat.gcd (bv n.data.toList) (bv d.data.toList)) (fun W a hW => by have := wrong87 n d W a hW (by omega) (by omega); rw [hL] at this; exact this) (fun W => numberOf_any n W (isNum_all a1) (by omega)) (fun W => numberOf_any d W (isNum_all a2) (by omega)) (fun W v hv => ?_) (fun W v v' g1 g2 => gcdV g1 g2 (by omega) (by omega)) (fun W v hv => ?_)
  · have := isZeroV hv
    rw [beq_eq_false_iff_ne.2 h3] at this
    exact this
  · rw [h4] at hv
    have := isOneV hv (by rw [dg_pos bigBase (by omega)]; simp [dg_zero])
    exact this
theorem readFrac_bad (n d : ByteArray) (w : World) (h : wrF n d ≠ 0) (hn : n.size ≤ 4611686018427387904) (hd : d.size ≤ 4611686018427387904) :
    Calls Tryd.prog 14 #[.agg #[.string n, .string d]] w fun e w' => e = .returned (.tuple #[.agg #[.slice none 0 0, .slice none 0 0], .int .i64 (wrF n d : Int)]) ∧ Below w.heap.size w w' := by
  by_cases hL : wrL [n, d] = 0
  · obtain ⟨a1, a2, s1, s2⟩ := (wrL_two n d).2 hL
    have b1 := dg_len_bv n (wrT_ok a1 (by omega))
    have b2 := dg_len_bv d (wrT_ok a2 (by omega))
    have CW : ∀ W a, IHolds W a 9 [.string n, .string d] → Calls Tryd.prog 32 #[.slice (some ⟨a, 0, none⟩) 2 2] W fun e w' => e = .returned (.int .i64 ((0 : Nat) : Int)) ∧ w' = W := fun W a hW => by
      have := wrong87 n d W a hW hn hd
      rw [hL] at this
      exact this
    have e : wrF n d = 2 := by
      unfold wrF at h ⊢
      rw [if_neg (by simp [a1, a2]), if_neg (by omega)] at h ⊢
      split at h
      · rename_i h2; rw [if_pos h2]
      · exact absurd rfl h
    rw [e]
    by_cases h0 : bv d.data.toList = 0
    · refine readFrac_zero n d w _ _ 0 CW (fun W => numberOf_any n W (isNum_all a1) (by omega)) (fun W => numberOf_any d W (isNum_all a2) (by omega)) (fun W v hv => ?_)
      have := isZeroV hv
      rw [h0] at this
      exact this
    · have hg : Nat.gcd (bv n.data.toList) (bv d.data.toList) ≠ 1 := by
        intro hg
        apply h
        unfold wrF
        rw [if_neg (by simp [a1, a2]), if_neg (by omega), if_neg (by omega)]
      have lg : (dg 1000000000 (Nat.gcd (bv n.data.toList) (bv d.data.toList))).length ≤ 4000 := Nat.le_trans (dg_len_mono bigBase (Nat.gcd_le_right _ (Nat.pos_of_ne_zero h0))) b2
      refine readFrac_more n d w _ _ (Nat.gcd (bv n.data.toList) (bv d.data.toList)) CW (fun W => numberOf_any n W (isNum_all a1) (by omega)) (fun W => numberOf_any d W (isNum_all a2) (by omega)) (fun W v hv => ?_) (fun W v v' g1 g2 => gcdV g1 g2 (by omega) (by omega)) (fun W v hv => ?_)
      · have := isZeroV hv
        rw [beq_eq_false_iff_ne.2 h0] at this
        exact this
      · have := isOneV hv (by omega)
        rw [beq_eq_false_iff_ne.2 hg] at this
        exact this
  · rw [(wrL_two n d).1 hL]
    exact readFrac_wrong n d w _ (bne_iff_ne.2 (by omega)) (fun W a hW => wrong87 n d W a hW hn hd)
end Go.Proofs.YtlgcnjinmcgacabDoor
