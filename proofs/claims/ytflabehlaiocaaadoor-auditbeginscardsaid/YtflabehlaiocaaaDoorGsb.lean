/- The document's Frac. -/
import Derived.Test.YtflabehlaiocaaaDoorGj
import Derived.Test.YtflabehlaiocaaaDoorKf
set_option linter.unusedSimpArgs false
set_option linter.unusedVariables false
namespace Go.Proofs.YtflabehlaiocaaaDoor
open Go.RowKit Go.Deep Go.PlainAid

set_option maxRecDepth 100000 in
set_option maxHeartbeats 4000000 in
theorem frac31_ne2 (n d : ByteArray) (w : World) {A E N D : Nat} {T1 T2 : ByteArray} (e1 : ¬ 100 < n.size) (e2 : ¬ 100 < d.size) (In : Hid (∀ W, Calls Tryd.prog 44 #[.string n] W fun e w' => e = .returned (.bool true) ∧ w' = W)) (Id : Hid (∀ W, Calls Tryd.prog 44 #[.string d] W fun e w' => e = .returned (.bool true) ∧ w' = W)) (hd : (d.toList == [48]) = false) (C1 : Hid (∀ W, Calls Tryd.prog 45 #[.string n] W fun e w' => (∃ v, e = .returned v ∧ NumV w' 10 A v) ∧ Below W.heap.size W w')) (C2 : Hid (∀ W, Calls Tryd.prog 45 #[.string d] W fun e w' => (∃ v, e = .returned v ∧ NumV w' 10 E v) ∧ Below W.heap.size W w')) (C3 : Hid (∀ W v1 v2, NumV W 10 A v1 → NumV W 10 E v2 → Calls Tryd.prog 34 #[v1, v2] W fun e w' => (∃ u1 u2, e = .returned (.agg #[u1, u2]) ∧ NumV w' 10 N u1 ∧ NumV w' 10 D u2) ∧ Below W.heap.size W w')) (C4 : Hid (∀ W v1 v2, NumV W 10 N v1 → NumV W 10 D v2 → Calls Tryd.prog 15 #[.agg #[v1, v2]] W fun e w' => e = .returned (.agg #[.string T1, .string T2]) ∧ Below W.heap.size W w')) (h1 : T1.toList = n.toList) (h2 : ¬ T2.toList = d.toList) :
    Calls Tryd.prog 31 #[.agg #[.string n, .string d], .int .i64 100] w fun e w' => (∃ a1 k1 c1 a2 k2 c2, e = .returned (.tuple #[.agg #[.slice a1 k1 c1, .slice a2 k2 c2], .bool false])) ∧ Below w.heap.size w w' := by
  go_enter Tryd.func31, Tryd.ntmps31
  go_wp2_with fail
  obtain ⟨U1, hU1⟩ : ∃ X, X = ((w.alloc (.cells #[(.string n), (.string d)] 24)).alloc (.cells #[(.slice none 0 0), (.slice none 0 0)] 46)) := ⟨_, rfl⟩
  have Jx : Hid (IHolds U1 (w.heap.size) 24 [(.string n), (.string d)]) := by
    have q := IHolds.new w 24 [(.string n), (.string d)]
    show IHolds _ _ _ _
    rw [hU1]
    exact (q.alloc _)
  have Jr : Hid (IHolds U1 (w.heap.size + 1) 46 [(.slice none 0 0), (.slice none 0 0)]) := by
    have q := IHolds.new (w.alloc (.cells #[(.string n), (.string d)] 24)) 46 [(.slice none 0 0), (.slice none 0 0)]
    simp only [World.size_alloc, Nat.add_assoc, Nat.reduceAdd] at q
    show IHolds _ _ _ _
    rw [hU1]
    exact q
  have B : Hid (Below w.heap.size w U1) := by
    show Below _ _ _
    rw [hU1]
    exact (((Below.refl _ w).alloc (Nat.le_refl _) _).alloc (by simp only [World.size_alloc]; omega) _)
  rw [← hU1]
  clear hU1
  refine (In.out U1).mono ?_
  rintro e V0 ⟨rfl, rfl⟩
  obtain ⟨zx_0, zx_1⟩ := cJ Jx
  go_wp2_with fail
  clear zx_0 zx_1
  refine (Id.out V0).mono ?_
  rintro e V1 ⟨rfl, rfl⟩
  obtain ⟨zx_0, zx_1⟩ := cJ Jx
  go_wp2_with fail
  clear zx_0 zx_1
  have hb := dB V1
  replace B := aB B hb
  replace Jx := aJ Jx hb
  replace Jr := aJ Jr hb
  clear hb
  refine wp_region_held_drew (S := fun W => IHolds W (w.heap.size) 24 [(.string n), (.string d)]) (by kernel_rfl) Jx.out (fun hHeld1 => ?_)
  generalize V1.drew = U2 at *
  refine tk (i := 0) (v := .pointer (some ⟨w.heap.size, 0, none⟩)) rfl (by kernel_rfl) (fun _ _ _ h => h) rfl ?_ hHeld1 ?_
  · intro W hS; go_simp
  simp only [Act.put, y1, y2, y3, y4, y5, y6, y7]
  refine tk (i := 3) (v := .pointer (some ⟨w.heap.size, 1, none⟩)) rfl (by kernel_rfl) (fun _ _ _ h => h) rfl ?_ hHeld1 ?_
  · intro W hS; go_simp
  simp only [Act.put, y1, y2, y3, y4, y5, y6, y7]
  refine tk (i := 1) (v := (.string n)) rfl (by kernel_rfl) (fun _ _ _ h => h) rfl ?_ hHeld1 ?_
  · intro W hS; obtain ⟨zx_0, zx_1⟩ := c2 hS; go_simp
  simp only [Act.put, y1, y2, y3, y4, y5, y6, y7]
  refine tk (i := 4) (v := (.string d)) rfl (by kernel_rfl) (fun _ _ _ h => h) rfl ?_ hHeld1 ?_
  · intro W hS; obtain ⟨zx_0, zx_1⟩ := c2 hS; go_simp
  simp only [Act.put, y1, y2, y3, y4, y5, y6, y7]
  refine wpAnyH_ready (rs := [2, 7]) (by kernel_rfl) (by simp) ?_
  refine AllReadyH.cons rfl (fun K hK => ?_) (AllReadyH.cons rfl (fun K hK => ?_) AllReadyH.nil)
  · clear hHeld1
    go_simp
    refine (C1.out U2).mono ?_
    rintro e U3 ⟨⟨x1, rfl, hv⟩, hb⟩
    have Nx1 : Hid (NumV U3 10 (A) x1) := hv
    clear hv
    replace B := aB B hb
    replace Jx := aJ Jx hb
    replace Jr := aJ Jr hb
    clear hb
    go_wp2_with fail
    refine hK.out _ _ (Jx.out) (fun hHeld2 => ?_)
    clear hK K
    try simp only [Act.put, y1, y2, y3, y4, y5, y6, y7]
    refine wpAnyH_ready (rs := [5, 7]) (by kernel_rfl) (by simp) ?_
    refine AllReadyH.cons rfl (fun K hK => ?_) (AllReadyH.cons rfl (fun K hK => ?_) AllReadyH.nil)
    · clear hHeld2
      go_simp
      refine (C2.out U3).mono ?_
      rintro e U4 ⟨⟨x2, rfl, hv⟩, hb⟩
      have Nx2 : Hid (NumV U4 10 (E) x2) := hv
      clear hv
      replace B := aB B hb
      replace Jx := aJ Jx hb
      replace Jr := aJ Jr hb
      replace Nx1 := aN Nx1 hb
      clear hb
      go_wp2_with fail
      refine hK.out _ _ (Jx.out) (fun hHeld3 => ?_)
      clear hK K
      try simp only [Act.put, y1, y2, y3, y4, y5, y6, y7]
      refine wpAnyH_ready (rs := [6, 7]) (by kernel_rfl) (by simp) ?_
      refine AllReadyH.cons rfl (fun K hK => ?_) (AllReadyH.cons rfl (fun K hK => ?_) AllReadyH.nil)
      · clear hHeld3
        go_simp
        refine (C3.out U4 _ _ Nx1.out Nx2.out).mono ?_
        rintro e U5 ⟨⟨u1, u2, rfl, hv, hv'⟩, hb⟩
        have Nu1 : Hid (NumV U5 10 (N) u1) := hv
        have Nu2 : Hid (NumV U5 10 (D) u2) := hv'
        clear hv hv'
        replace B := aB B hb
        replace Jx := aJ Jx hb
        replace Jr := aJ Jr hb
        replace Nx1 := aN Nx1 hb
        replace Nx2 := aN Nx2 hb
        clear hb
        go_wp2_with fail
        refine hK.out _ _ (Jx.out) (fun hHeld4 => ?_)
        clear hK K
        try simp only [Act.put, y1, y2, y3, y4, y5, y6, y7]
        refine wpAnyH_ready (rs := [7]) (by kernel_rfl) (by simp) ?_
        refine AllReadyH.cons rfl (fun K hK => ?_) AllReadyH.nil
        clear hHeld4
        go_simp
        have ne_x_f := nJ Jx
        have ne_r_f := nJ Jr
        have ge_f : Hid (w.heap.size ≤ U5.heap.size) := B.out.size
        have hb := nB U5 (.cells #[(.slice none 0 0), (.slice none 0 0)] 46)
        have Jf : Hid (IHolds (U5.alloc (.cells #[(.slice none 0 0), (.slice none 0 0)] 46)) U5.heap.size 46 [(.slice none 0 0), (.slice none 0 0)]) := IHolds.new _ _ _
        replace B := aB B hb
        replace Jx := aJ Jx hb
        replace Jr := aJ Jr hb
        replace Nx1 := aN Nx1 hb
        replace Nx2 := aN Nx2 hb
        replace Nu1 := aN Nu1 hb
        replace Nu2 := aN Nu2 hb
        clear hb
        generalize (U5.alloc (.cells #[(.slice none 0 0), (.slice none 0 0)] 46)) = U6 at *
        generalize U5.heap.size = b7 at *
        refine hK.out _ _ (Jx.out) (fun hHeld5 => ?_)
        clear hK K
        try simp only [Act.put, y1, y2, y3, y4, y5, y6, y7]
        refine wpAnyH_ready (rs := [8]) (by kernel_rfl) (by simp) ?_
        refine AllReadyH.cons rfl (fun K hK => ?_) AllReadyH.nil
        clear hHeld5
        obtain ⟨u1_a, u1_l, u1_c, rfl⟩ := sN Nu1
        obtain ⟨u2_a, u2_l, u2_c, rfl⟩ := sN Nu2
        obtain ⟨zf_0, zf_1⟩ := cJ Jf
        have f0 := fJ Jf
        have hBut : But (b7) U6 ((U6.setCell ⟨b7, 0, none⟩ (.slice u1_a u1_l u1_c)).setCell ⟨b7, 1, none⟩ (.slice u2_a u2_l u2_c)) := (((But.refl _ U6).setCell 0 (.slice u1_a u1_l u1_c)).setCell 1 (.slice u2_a u2_l u2_c))
        have I4 : Hid (IHolds _ (b7) 46 [(.slice u1_a u1_l u1_c), (.slice u2_a u2_l u2_c)]) := ((Jf.out.set 0 (.slice u1_a u1_l u1_c)).set 1 (.slice u2_a u2_l u2_c))
        replace B : Hid (Below w.heap.size w ((U6.setCell ⟨b7, 0, none⟩ (.slice u1_a u1_l u1_c)).setCell ⟨b7, 1, none⟩ (.slice u2_a u2_l u2_c))) := ((B.out.setCell (by first | exact Nat.le_refl _ | exact ge_f.out | (show w.heap.size ≤ b7; omega)) _).setCell (by first | exact Nat.le_refl _ | exact ge_f.out | (show w.heap.size ≤ b7; omega)) _)
        replace Jx := tJ Jx hBut (by first | exact ne_x_f.out | exact fun h => ne_f_x.out h.symm | omega)
        replace Jr := tJ Jr hBut (by first | exact ne_r_f.out | exact fun h => ne_f_r.out h.symm | omega)
        replace Nx1 := tN Nx1 Jf (by simp) hBut
        replace Nx2 := tN Nx2 Jf (by simp) hBut
        replace Nu1 := tN Nu1 Jf (by simp) hBut
        replace Nu2 := tN Nu2 Jf (by simp) hBut
        replace Jf := I4
        clear I4 hBut
        go_simp
        try go_wp2_with fail
        clear zf_0 zf_1
        clear f0
        generalize ((U6.setCell ⟨b7, 0, none⟩ (.slice u1_a u1_l u1_c)).setCell ⟨b7, 1, none⟩ (.slice u2_a u2_l u2_c)) = U8 at *
        refine hK.out _ _ (Jx.out) (fun hHeld6 => ?_)
        clear hK K
        try simp only [Act.put, y1, y2, y3, y4, y5, y6, y7]
        refine wpAnyH_done (by kernel_rfl) ?_ _
        clear hHeld6
        go_wp2_with fail
        have hb := dB U8
        replace B := aB B hb
        replace Jx := aJ Jx hb
        replace Jr := aJ Jr hb
        replace Jf := aJ Jf hb
        replace Nx1 := aN Nx1 hb
        replace Nx2 := aN Nx2 hb
        replace Nu1 := aN Nu1 hb
        replace Nu2 := aN Nu2 hb
        clear hb
        refine wp_region_held_drew (S := fun W => (IHolds W (b7) 46 [(.slice u1_a u1_l u1_c), (.slice u2_a u2_l u2_c)]) ∧ (IHolds W (w.heap.size) 24 [(.string n), (.string d)])) (by kernel_rfl) ⟨Jf.out, Jx.out⟩ (fun hHeld7 => ?_)
        generalize U8.drew = U9 at *
        refine tk (i := 0) (v := .agg #[(.slice u1_a u1_l u1_c), (.slice u2_a u2_l u2_c)]) rfl (by kernel_rfl) (fun _ _ _ h => h) rfl ?_ hHeld7 ?_
        · intro W hS; obtain ⟨zf_0, zf_1⟩ := c2 hS.1; go_simp
        simp only [Act.put, y1, y2, y3, y4, y5, y6, y7]
        refine tk (i := 1) (v := .agg #[(.slice u1_a u1_l u1_c), (.slice u2_a u2_l u2_c)]) rfl (by kernel_rfl) (fun _ _ _ h => h) rfl ?_ hHeld7 ?_
        · intro W hS; obtain ⟨zf_0, zf_1⟩ := c2 hS.1; go_simp
        simp only [Act.put, y1, y2, y3, y4, y5, y6, y7]
        refine tk (i := 3) (v := .agg #[(.string n), (.string d)]) rfl (by kernel_rfl) (fun _ _ _ h => h) rfl ?_ hHeld7 ?_
        · intro W hS; obtain ⟨zx_0, zx_1⟩ := c2 hS.2; go_simp
        simp only [Act.put, y1, y2, y3, y4, y5, y6, y7]
        refine wpAnyH_ready (rs := [2]) (by kernel_rfl) (by simp) ?_
        refine AllReadyH.cons rfl (fun K hK => ?_) AllReadyH.nil
        clear hHeld7
        go_simp
        refine (C4.out U9 _ _ Nu1.out Nu2.out).mono ?_
        rintro e U10 ⟨rfl, hb⟩
        replace B := aB B hb
        replace Jx := aJ Jx hb
        replace Jr := aJ Jr hb
        replace Jf := aJ Jf hb
        replace Nx1 := aN Nx1 hb
        replace Nx2 := aN Nx2 hb
        replace Nu1 := aN Nu1 hb
        replace Nu2 := aN Nu2 hb
        clear hb
        go_wp2_with fail
        refine hK.out _ _ (⟨Jf.out, Jx.out⟩) (fun hHeld8 => ?_)
        clear hK K
        try simp only [Act.put, y1, y2, y3, y4, y5, y6, y7]
        refine tk (i := 4) (v := .bool false) rfl (by kernel_rfl) (fun _ _ _ h => h) rfl ?_ hHeld8 ?_
        · intro W hS; go_simp
        simp only [Act.put, y1, y2, y3, y4, y5, y6, y7]
        refine wpAnyH_ready (rs := [5]) (by kernel_rfl) (by simp) ?_
        refine AllReadyH.cons rfl (fun K hK => ?_) AllReadyH.nil
        clear hHeld8
        obtain ⟨zr_0, zr_1⟩ := cJ Jr
        have f0 := fJ Jr
        have hBut : But (w.heap.size + 1) U10 ((U10.setCell ⟨w.heap.size + 1, 0, none⟩ (.slice u1_a u1_l u1_c)).setCell ⟨w.heap.size + 1, 1, none⟩ (.slice u2_a u2_l u2_c)) := (((But.refl _ U10).setCell 0 (.slice u1_a u1_l u1_c)).setCell 1 (.slice u2_a u2_l u2_c))
        have I4 : Hid (IHolds _ (w.heap.size + 1) 46 [(.slice u1_a u1_l u1_c), (.slice u2_a u2_l u2_c)]) := ((Jr.out.set 0 (.slice u1_a u1_l u1_c)).set 1 (.slice u2_a u2_l u2_c))
        replace B : Hid (Below w.heap.size w ((U10.setCell ⟨w.heap.size + 1, 0, none⟩ (.slice u1_a u1_l u1_c)).setCell ⟨w.heap.size + 1, 1, none⟩ (.slice u2_a u2_l u2_c))) := ((B.out.setCell (by first | exact Nat.le_refl _ | exact ge_r.out | (show w.heap.size ≤ w.heap.size + 1; omega)) _).setCell (by first | exact Nat.le_refl _ | exact ge_r.out | (show w.heap.size ≤ w.heap.size + 1; omega)) _)
        replace Jx := tJ Jx hBut (by first | exact ne_x_r.out | exact fun h => ne_r_x.out h.symm | omega)
        replace Jf := tJ Jf hBut (by first | exact ne_f_r.out | exact fun h => ne_r_f.out h.symm | omega)
        replace Nx1 := tN Nx1 Jr (by simp) hBut
        replace Nx2 := tN Nx2 Jr (by simp) hBut
        replace Nu1 := tN Nu1 Jr (by simp) hBut
        replace Nu2 := tN Nu2 Jr (by simp) hBut
        replace Jr := I4
        clear I4 hBut
        go_simp
        try go_wp2_with fail
        clear zr_0 zr_1
        clear f0
        generalize ((U10.setCell ⟨w.heap.size + 1, 0, none⟩ (.slice u1_a u1_l u1_c)).setCell ⟨w.heap.size + 1, 1, none⟩ (.slice u2_a u2_l u2_c)) = U11 at *
        refine hK.out _ _ (⟨Jf.out, Jx.out⟩) (fun hHeld9 => ?_)
        clear hK K
        try simp only [Act.put, y1, y2, y3, y4, y5, y6, y7]
        refine tk (i := 6) (v := .bool false) rfl (by kernel_rfl) (fun _ _ _ h => h) rfl ?_ hHeld9 ?_
        · intro W hS; go_simp
        simp only [Act.put, y1, y2, y3, y4, y5, y6, y7]
        refine wpAnyH_done (by kernel_rfl) ?_ _
        clear hHeld9
        go_wp2_with fail
        have E0 : Hid (U11.cell? ⟨w.heap.size + 1, 0, none⟩ = some ((.slice u1_a u1_l u1_c))) := IHolds.cell (l := [(.slice u1_a u1_l u1_c), (.slice u2_a u2_l u2_c)]) (t := 46) (b := w.heap.size + 1) (w := U11) Jr.out 0 (by simp)
        have E1 : Hid (U11.cell? ⟨w.heap.size + 1, 1, none⟩ = some ((.slice u2_a u2_l u2_c))) := IHolds.cell (l := [(.slice u1_a u1_l u1_c), (.slice u2_a u2_l u2_c)]) (t := 46) (b := w.heap.size + 1) (w := U11) Jr.out 1 (by simp)
        exact bodyPost_ret (v := .tuple #[.agg #[(.slice u1_a u1_l u1_c), (.slice u2_a u2_l u2_c)], .bool false]) (by simp [results, Tryd.results31, go_sem, E0.out, E1.out]) rfl ⟨⟨_, _, _, _, _, _, rfl⟩, B.out⟩
      · clear hHeld3
        go_simp
        have ne_x_f := nJ Jx
        have ne_r_f := nJ Jr
        have ge_f : Hid (w.heap.size ≤ U4.heap.size) := B.out.size
        have hb := nB U4 (.cells #[(.slice none 0 0), (.slice none 0 0)] 46)
        have Jf : Hid (IHolds (U4.alloc (.cells #[(.slice none 0 0), (.slice none 0 0)] 46)) U4.heap.size 46 [(.slice none 0 0), (.slice none 0 0)]) := IHolds.new _ _ _
        replace B := aB B hb
        replace Jx := aJ Jx hb
        replace Jr := aJ Jr hb
        replace Nx1 := aN Nx1 hb
        replace Nx2 := aN Nx2 hb
        clear hb
        generalize (U4.alloc (.cells #[(.slice none 0 0), (.slice none 0 0)] 46)) = U12 at *
        generalize U4.heap.size = b13 at *
        refine hK.out _ _ (Jx.out) (fun hHeld10 => ?_)
        clear hK K
        try simp only [Act.put, y1, y2, y3, y4, y5, y6, y7]
        refine wpAnyH_ready (rs := [6]) (by kernel_rfl) (by simp) ?_
        refine AllReadyH.cons rfl (fun K hK => ?_) AllReadyH.nil
        clear hHeld10
        go_simp
        refine (C3.out U12 _ _ Nx1.out Nx2.out).mono ?_
        rintro e U14 ⟨⟨u1, u2, rfl, hv, hv'⟩, hb⟩
        have Nu1 : Hid (NumV U14 10 (N) u1) := hv
        have Nu2 : Hid (NumV U14 10 (D) u2) := hv'
        clear hv hv'
        replace B := aB B hb
        replace Jx := aJ Jx hb
        replace Jr := aJ Jr hb
        replace Jf := aJ Jf hb
        replace Nx1 := aN Nx1 hb
        replace Nx2 := aN Nx2 hb
        clear hb
        go_wp2_with fail
        refine hK.out _ _ (Jx.out) (fun hHeld11 => ?_)
        clear hK K
        try simp only [Act.put, y1, y2, y3, y4, y5, y6, y7]
        refine wpAnyH_ready (rs := [8]) (by kernel_rfl) (by simp) ?_
        refine AllReadyH.cons rfl (fun K hK => ?_) AllReadyH.nil
        clear hHeld11
        obtain ⟨u1_a, u1_l, u1_c, rfl⟩ := sN Nu1
        obtain ⟨u2_a, u2_l, u2_c, rfl⟩ := sN Nu2
        obtain ⟨zf_0, zf_1⟩ := cJ Jf
        have f0 := fJ Jf
        have hBut : But (b13) U14 ((U14.setCell ⟨b13, 0, none⟩ (.slice u1_a u1_l u1_c)).setCell ⟨b13, 1, none⟩ (.slice u2_a u2_l u2_c)) := (((But.refl _ U14).setCell 0 (.slice u1_a u1_l u1_c)).setCell 1 (.slice u2_a u2_l u2_c))
        have I4 : Hid (IHolds _ (b13) 46 [(.slice u1_a u1_l u1_c), (.slice u2_a u2_l u2_c)]) := ((Jf.out.set 0 (.slice u1_a u1_l u1_c)).set 1 (.slice u2_a u2_l u2_c))
        replace B : Hid (Below w.heap.size w ((U14.setCell ⟨b13, 0, none⟩ (.slice u1_a u1_l u1_c)).setCell ⟨b13, 1, none⟩ (.slice u2_a u2_l u2_c))) := ((B.out.setCell (by first | exact Nat.le_refl _ | exact ge_f.out | (show w.heap.size ≤ b13; omega)) _).setCell (by first | exact Nat.le_refl _ | exact ge_f.out | (show w.heap.size ≤ b13; omega)) _)
        replace Jx := tJ Jx hBut (by first | exact ne_x_f.out | exact fun h => ne_f_x.out h.symm | omega)
        replace Jr := tJ Jr hBut (by first | exact ne_r_f.out | exact fun h => ne_f_r.out h.symm | omega)
        replace Nx1 := tN Nx1 Jf (by simp) hBut
        replace Nx2 := tN Nx2 Jf (by simp) hBut
        replace Nu1 := tN Nu1 Jf (by simp) hBut
        replace Nu2 := tN Nu2 Jf (by simp) hBut
        replace Jf := I4
        clear I4 hBut
        go_simp
        try go_wp2_with fail
        clear zf_0 zf_1
        clear f0
        generalize ((U14.setCell ⟨b13, 0, none⟩ (.slice u1_a u1_l u1_c)).setCell ⟨b13, 1, none⟩ (.slice u2_a u2_l u2_c)) = U15 at *
        refine hK.out _ _ (Jx.out) (fun hHeld12 => ?_)
        clear hK K
        try simp only [Act.put, y1, y2, y3, y4, y5, y6, y7]
        refine wpAnyH_done (by kernel_rfl) ?_ _
        clear hHeld12
        go_wp2_with fail
        have hb := dB U15
        replace B := aB B hb
        replace Jx := aJ Jx hb
        replace Jr := aJ Jr hb
        replace Jf := aJ Jf hb
        replace Nx1 := aN Nx1 hb
        replace Nx2 := aN Nx2 hb
        replace Nu1 := aN Nu1 hb
        replace Nu2 := aN Nu2 hb
        clear hb
        refine wp_region_held_drew (S := fun W => (IHolds W (b13) 46 [(.slice u1_a u1_l u1_c), (.slice u2_a u2_l u2_c)]) ∧ (IHolds W (w.heap.size) 24 [(.string n), (.string d)])) (by kernel_rfl) ⟨Jf.out, Jx.out⟩ (fun hHeld13 => ?_)
        generalize U15.drew = U16 at *
        refine tk (i := 0) (v := .agg #[(.slice u1_a u1_l u1_c), (.slice u2_a u2_l u2_c)]) rfl (by kernel_rfl) (fun _ _ _ h => h) rfl ?_ hHeld13 ?_
        · intro W hS; obtain ⟨zf_0, zf_1⟩ := c2 hS.1; go_simp
        simp only [Act.put, y1, y2, y3, y4, y5, y6, y7]
        refine tk (i := 1) (v := .agg #[(.slice u1_a u1_l u1_c), (.slice u2_a u2_l u2_c)]) rfl (by kernel_rfl) (fun _ _ _ h => h) rfl ?_ hHeld13 ?_
        · intro W hS; obtain ⟨zf_0, zf_1⟩ := c2 hS.1; go_simp
        simp only [Act.put, y1, y2, y3, y4, y5, y6, y7]
        refine tk (i := 3) (v := .agg #[(.string n), (.string d)]) rfl (by kernel_rfl) (fun _ _ _ h => h) rfl ?_ hHeld13 ?_
        · intro W hS; obtain ⟨zx_0, zx_1⟩ := c2 hS.2; go_simp
        simp only [Act.put, y1, y2, y3, y4, y5, y6, y7]
        refine wpAnyH_ready (rs := [2]) (by kernel_rfl) (by simp) ?_
        refine AllReadyH.cons rfl (fun K hK => ?_) AllReadyH.nil
        clear hHeld13
        go_simp
        refine (C4.out U16 _ _ Nu1.out Nu2.out).mono ?_
        rintro e U17 ⟨rfl, hb⟩
        replace B := aB B hb
        replace Jx := aJ Jx hb
        replace Jr := aJ Jr hb
        replace Jf := aJ Jf hb
        replace Nx1 := aN Nx1 hb
        replace Nx2 := aN Nx2 hb
        replace Nu1 := aN Nu1 hb
        replace Nu2 := aN Nu2 hb
        clear hb
        go_wp2_with fail
        refine hK.out _ _ (⟨Jf.out, Jx.out⟩) (fun hHeld14 => ?_)
        clear hK K
        try simp only [Act.put, y1, y2, y3, y4, y5, y6, y7]
        refine tk (i := 4) (v := .bool false) rfl (by kernel_rfl) (fun _ _ _ h => h) rfl ?_ hHeld14 ?_
        · intro W hS; go_simp
        simp only [Act.put, y1, y2, y3, y4, y5, y6, y7]
        refine wpAnyH_ready (rs := [5]) (by kernel_rfl) (by simp) ?_
        refine AllReadyH.cons rfl (fun K hK => ?_) AllReadyH.nil
        clear hHeld14
        obtain ⟨zr_0, zr_1⟩ := cJ Jr
        have f0 := fJ Jr
        have hBut : But (w.heap.size + 1) U17 ((U17.setCell ⟨w.heap.size + 1, 0, none⟩ (.slice u1_a u1_l u1_c)).setCell ⟨w.heap.size + 1, 1, none⟩ (.slice u2_a u2_l u2_c)) := (((But.refl _ U17).setCell 0 (.slice u1_a u1_l u1_c)).setCell 1 (.slice u2_a u2_l u2_c))
        have I4 : Hid (IHolds _ (w.heap.size + 1) 46 [(.slice u1_a u1_l u1_c), (.slice u2_a u2_l u2_c)]) := ((Jr.out.set 0 (.slice u1_a u1_l u1_c)).set 1 (.slice u2_a u2_l u2_c))
        replace B : Hid (Below w.heap.size w ((U17.setCell ⟨w.heap.size + 1, 0, none⟩ (.slice u1_a u1_l u1_c)).setCell ⟨w.heap.size + 1, 1, none⟩ (.slice u2_a u2_l u2_c))) := ((B.out.setCell (by first | exact Nat.le_refl _ | exact ge_r.out | (show w.heap.size ≤ w.heap.size + 1; omega)) _).setCell (by first | exact Nat.le_refl _ | exact ge_r.out | (show w.heap.size ≤ w.heap.size + 1; omega)) _)
        replace Jx := tJ Jx hBut (by first | exact ne_x_r.out | exact fun h => ne_r_x.out h.symm | omega)
        replace Jf := tJ Jf hBut (by first | exact ne_f_r.out | exact fun h => ne_r_f.out h.symm | omega)
        replace Nx1 := tN Nx1 Jr (by simp) hBut
        replace Nx2 := tN Nx2 Jr (by simp) hBut
        replace Nu1 := tN Nu1 Jr (by simp) hBut
        replace Nu2 := tN Nu2 Jr (by simp) hBut
        replace Jr := I4
        clear I4 hBut
        go_simp
        try go_wp2_with fail
        clear zr_0 zr_1
        clear f0
        generalize ((U17.setCell ⟨w.heap.size + 1, 0, none⟩ (.slice u1_a u1_l u1_c)).setCell ⟨w.heap.size + 1, 1, none⟩ (.slice u2_a u2_l u2_c)) = U18 at *
        refine hK.out _ _ (⟨Jf.out, Jx.out⟩) (fun hHeld15 => ?_)
        clear hK K
        try simp only [Act.put, y1, y2, y3, y4, y5, y6, y7]
        refine tk (i := 6) (v := .bool false) rfl (by kernel_rfl) (fun _ _ _ h => h) rfl ?_ hHeld15 ?_
        · intro W hS; go_simp
        simp only [Act.put, y1, y2, y3, y4, y5, y6, y7]
        refine wpAnyH_done (by kernel_rfl) ?_ _
        clear hHeld15
        go_wp2_with fail
        have E0 : Hid (U18.cell? ⟨w.heap.size + 1, 0, none⟩ = some ((.slice u1_a u1_l u1_c))) := IHolds.cell (l := [(.slice u1_a u1_l u1_c), (.slice u2_a u2_l u2_c)]) (t := 46) (b := w.heap.size + 1) (w := U18) Jr.out 0 (by simp)
        have E1 : Hid (U18.cell? ⟨w.heap.size + 1, 1, none⟩ = some ((.slice u2_a u2_l u2_c))) := IHolds.cell (l := [(.slice u1_a u1_l u1_c), (.slice u2_a u2_l u2_c)]) (t := 46) (b := w.heap.size + 1) (w := U18) Jr.out 1 (by simp)
        exact bodyPost_ret (v := .tuple #[.agg #[(.slice u1_a u1_l u1_c), (.slice u2_a u2_l u2_c)], .bool false]) (by simp [results, Tryd.results31, go_sem, E0.out, E1.out]) rfl ⟨⟨_, _, _, _, _, _, rfl⟩, B.out⟩
    · clear hHeld2
      go_simp
      have ne_x_f := nJ Jx
      have ne_r_f := nJ Jr
      have ge_f : Hid (w.heap.size ≤ U3.heap.size) := B.out.size
      have hb := nB U3 (.cells #[(.slice none 0 0), (.slice none 0 0)] 46)
      have Jf : Hid (IHolds (U3.alloc (.cells #[(.slice none 0 0), (.slice none 0 0)] 46)) U3.heap.size 46 [(.slice none 0 0), (.slice none 0 0)]) := IHolds.new _ _ _
      replace B := aB B hb
      replace Jx := aJ Jx hb
      replace Jr := aJ Jr hb
      replace Nx1 := aN Nx1 hb
      clear hb
      generalize (U3.alloc (.cells #[(.slice none 0 0), (.slice none 0 0)] 46)) = U19 at *
      generalize U3.heap.size = b20 at *
      refine hK.out _ _ (Jx.out) (fun hHeld16 => ?_)
      clear hK K
      try simp only [Act.put, y1, y2, y3, y4, y5, y6, y7]
      refine wpAnyH_ready (rs := [5]) (by kernel_rfl) (by simp) ?_
      refine AllReadyH.cons rfl (fun K hK => ?_) AllReadyH.nil
      clear hHeld16
      go_simp
      refine (C2.out U19).mono ?_
      rintro e U21 ⟨⟨x2, rfl, hv⟩, hb⟩
      have Nx2 : Hid (NumV U21 10 (E) x2) := hv
      clear hv
      replace B := aB B hb
      replace Jx := aJ Jx hb
      replace Jr := aJ Jr hb
      replace Jf := aJ Jf hb
      replace Nx1 := aN Nx1 hb
      clear hb
      go_wp2_with fail
      refine hK.out _ _ (Jx.out) (fun hHeld17 => ?_)
      clear hK K
      try simp only [Act.put, y1, y2, y3, y4, y5, y6, y7]
      refine wpAnyH_ready (rs := [6]) (by kernel_rfl) (by simp) ?_
      refine AllReadyH.cons rfl (fun K hK => ?_) AllReadyH.nil
      clear hHeld17
      go_simp
      refine (C3.out U21 _ _ Nx1.out Nx2.out).mono ?_
      rintro e U22 ⟨⟨u1, u2, rfl, hv, hv'⟩, hb⟩
      have Nu1 : Hid (NumV U22 10 (N) u1) := hv
      have Nu2 : Hid (NumV U22 10 (D) u2) := hv'
      clear hv hv'
      replace B := aB B hb
      replace Jx := aJ Jx hb
      replace Jr := aJ Jr hb
      replace Jf := aJ Jf hb
      replace Nx1 := aN Nx1 hb
      replace Nx2 := aN Nx2 hb
      clear hb
      go_wp2_with fail
      refine hK.out _ _ (Jx.out) (fun hHeld18 => ?_)
      clear hK K
      try simp only [Act.put, y1, y2, y3, y4, y5, y6, y7]
      refine wpAnyH_ready (rs := [8]) (by kernel_rfl) (by simp) ?_
      refine AllReadyH.cons rfl (fun K hK => ?_) AllReadyH.nil
      clear hHeld18
      obtain ⟨u1_a, u1_l, u1_c, rfl⟩ := sN Nu1
      obtain ⟨u2_a, u2_l, u2_c, rfl⟩ := sN Nu2
      obtain ⟨zf_0, zf_1⟩ := cJ Jf
      have f0 := fJ Jf
      have hBut : But (b20) U22 ((U22.setCell ⟨b20, 0, none⟩ (.slice u1_a u1_l u1_c)).setCell ⟨b20, 1, none⟩ (.slice u2_a u2_l u2_c)) := (((But.refl _ U22).setCell 0 (.slice u1_a u1_l u1_c)).setCell 1 (.slice u2_a u2_l u2_c))
      have I4 : Hid (IHolds _ (b20) 46 [(.slice u1_a u1_l u1_c), (.slice u2_a u2_l u2_c)]) := ((Jf.out.set 0 (.slice u1_a u1_l u1_c)).set 1 (.slice u2_a u2_l u2_c))
      replace B : Hid (Below w.heap.size w ((U22.setCell ⟨b20, 0, none⟩ (.slice u1_a u1_l u1_c)).setCell ⟨b20, 1, none⟩ (.slice u2_a u2_l u2_c))) := ((B.out.setCell (by first | exact Nat.le_refl _ | exact ge_f.out | (show w.heap.size ≤ b20; omega)) _).setCell (by first | exact Nat.le_refl _ | exact ge_f.out | (show w.heap.size ≤ b20; omega)) _)
      replace Jx := tJ Jx hBut (by first | exact ne_x_f.out | exact fun h => ne_f_x.out h.symm | omega)
      replace Jr := tJ Jr hBut (by first | exact ne_r_f.out | exact fun h => ne_f_r.out h.symm | omega)
      replace Nx1 := tN Nx1 Jf (by simp) hBut
      replace Nx2 := tN Nx2 Jf (by simp) hBut
      replace Nu1 := tN Nu1 Jf (by simp) hBut
      replace Nu2 := tN Nu2 Jf (by simp) hBut
      replace Jf := I4
      clear I4 hBut
      go_simp
      try go_wp2_with fail
      clear zf_0 zf_1
      clear f0
      generalize ((U22.setCell ⟨b20, 0, none⟩ (.slice u1_a u1_l u1_c)).setCell ⟨b20, 1, none⟩ (.slice u2_a u2_l u2_c)) = U23 at *
      refine hK.out _ _ (Jx.out) (fun hHeld19 => ?_)
      clear hK K
      try simp only [Act.put, y1, y2, y3, y4, y5, y6, y7]
      refine wpAnyH_done (by kernel_rfl) ?_ _
      clear hHeld19
      go_wp2_with fail
      have hb := dB U23
      replace B := aB B hb
      replace Jx := aJ Jx hb
      replace Jr := aJ Jr hb
      replace Jf := aJ Jf hb
      replace Nx1 := aN Nx1 hb
      replace Nx2 := aN Nx2 hb
      replace Nu1 := aN Nu1 hb
      replace Nu2 := aN Nu2 hb
      clear hb
      refine wp_region_held_drew (S := fun W => (IHolds W (b20) 46 [(.slice u1_a u1_l u1_c), (.slice u2_a u2_l u2_c)]) ∧ (IHolds W (w.heap.size) 24 [(.string n), (.string d)])) (by kernel_rfl) ⟨Jf.out, Jx.out⟩ (fun hHeld20 => ?_)
      generalize U23.drew = U24 at *
      refine tk (i := 0) (v := .agg #[(.slice u1_a u1_l u1_c), (.slice u2_a u2_l u2_c)]) rfl (by kernel_rfl) (fun _ _ _ h => h) rfl ?_ hHeld20 ?_
      · intro W hS; obtain ⟨zf_0, zf_1⟩ := c2 hS.1; go_simp
      simp only [Act.put, y1, y2, y3, y4, y5, y6, y7]
      refine tk (i := 1) (v := .agg #[(.slice u1_a u1_l u1_c), (.slice u2_a u2_l u2_c)]) rfl (by kernel_rfl) (fun _ _ _ h => h) rfl ?_ hHeld20 ?_
      · intro W hS; obtain ⟨zf_0, zf_1⟩ := c2 hS.1; go_simp
      simp only [Act.put, y1, y2, y3, y4, y5, y6, y7]
      refine tk (i := 3) (v := .agg #[(.string n), (.string d)]) rfl (by kernel_rfl) (fun _ _ _ h => h) rfl ?_ hHeld20 ?_
      · intro W hS; obtain ⟨zx_0, zx_1⟩ := c2 hS.2; go_simp
      simp only [Act.put, y1, y2, y3, y4, y5, y6, y7]
      refine wpAnyH_ready (rs := [2]) (by kernel_rfl) (by simp) ?_
      refine AllReadyH.cons rfl (fun K hK => ?_) AllReadyH.nil
      clear hHeld20
      go_simp
      refine (C4.out U24 _ _ Nu1.out Nu2.out).mono ?_
      rintro e U25 ⟨rfl, hb⟩
      replace B := aB B hb
      replace Jx := aJ Jx hb
      replace Jr := aJ Jr hb
      replace Jf := aJ Jf hb
      replace Nx1 := aN Nx1 hb
      replace Nx2 := aN Nx2 hb
      replace Nu1 := aN Nu1 hb
      replace Nu2 := aN Nu2 hb
      clear hb
      go_wp2_with fail
      refine hK.out _ _ (⟨Jf.out, Jx.out⟩) (fun hHeld21 => ?_)
      clear hK K
      try simp only [Act.put, y1, y2, y3, y4, y5, y6, y7]
      refine tk (i := 4) (v := .bool false) rfl (by kernel_rfl) (fun _ _ _ h => h) rfl ?_ hHeld21 ?_
      · intro W hS; go_simp
      simp only [Act.put, y1, y2, y3, y4, y5, y6, y7]
      refine wpAnyH_ready (rs := [5]) (by kernel_rfl) (by simp) ?_
      refine AllReadyH.cons rfl (fun K hK => ?_) AllReadyH.nil
      clear hHeld21
      obtain ⟨zr_0, zr_1⟩ := cJ Jr
      have f0 := fJ Jr
      have hBut : But (w.heap.size + 1) U25 ((U25.setCell ⟨w.heap.size + 1, 0, none⟩ (.slice u1_a u1_l u1_c)).setCell ⟨w.heap.size + 1, 1, none⟩ (.slice u2_a u2_l u2_c)) := (((But.refl _ U25).setCell 0 (.slice u1_a u1_l u1_c)).setCell 1 (.slice u2_a u2_l u2_c))
      have I4 : Hid (IHolds _ (w.heap.size + 1) 46 [(.slice u1_a u1_l u1_c), (.slice u2_a u2_l u2_c)]) := ((Jr.out.set 0 (.slice u1_a u1_l u1_c)).set 1 (.slice u2_a u2_l u2_c))
      replace B : Hid (Below w.heap.size w ((U25.setCell ⟨w.heap.size + 1, 0, none⟩ (.slice u1_a u1_l u1_c)).setCell ⟨w.heap.size + 1, 1, none⟩ (.slice u2_a u2_l u2_c))) := ((B.out.setCell (by first | exact Nat.le_refl _ | exact ge_r.out | (show w.heap.size ≤ w.heap.size + 1; omega)) _).setCell (by first | exact Nat.le_refl _ | exact ge_r.out | (show w.heap.size ≤ w.heap.size + 1; omega)) _)
      replace Jx := tJ Jx hBut (by first | exact ne_x_r.out | exact fun h => ne_r_x.out h.symm | omega)
      replace Jf := tJ Jf hBut (by first | exact ne_f_r.out | exact fun h => ne_r_f.out h.symm | omega)
      replace Nx1 := tN Nx1 Jr (by simp) hBut
      replace Nx2 := tN Nx2 Jr (by simp) hBut
      replace Nu1 := tN Nu1 Jr (by simp) hBut
      replace Nu2 := tN Nu2 Jr (by simp) hBut
      replace Jr := I4
      clear I4 hBut
      go_simp
      try go_wp2_with fail
      clear zr_0 zr_1
      clear f0
      generalize ((U25.setCell ⟨w.heap.size + 1, 0, none⟩ (.slice u1_a u1_l u1_c)).setCell ⟨w.heap.size + 1, 1, none⟩ (.slice u2_a u2_l u2_c)) = U26 at *
      refine hK.out _ _ (⟨Jf.out, Jx.out⟩) (fun hHeld22 => ?_)
      clear hK K
      try simp only [Act.put, y1, y2, y3, y4, y5, y6, y7]
      refine tk (i := 6) (v := .bool false) rfl (by kernel_rfl) (fun _ _ _ h => h) rfl ?_ hHeld22 ?_
      · intro W hS; go_simp
      simp only [Act.put, y1, y2, y3, y4, y5, y6, y7]
      refine wpAnyH_done (by kernel_rfl) ?_ _
      clear hHeld22
      go_wp2_with fail
      have E0 : Hid (U26.cell? ⟨w.heap.size + 1, 0, none⟩ = some ((.slice u1_a u1_l u1_c))) := IHolds.cell (l := [(.slice u1_a u1_l u1_c), (.slice u2_a u2_l u2_c)]) (t := 46) (b := w.heap.size + 1) (w := U26) Jr.out 0 (by simp)
      have E1 : Hid (U26.cell? ⟨w.heap.size + 1, 1, none⟩ = some ((.slice u2_a u2_l u2_c))) := IHolds.cell (l := [(.slice u1_a u1_l u1_c), (.slice u2_a u2_l u2_c)]) (t := 46) (b := w.heap.size + 1) (w := U26) Jr.out 1 (by simp)
      exact bodyPost_ret (v := .tuple #[.agg #[(.slice u1_a u1_l u1_c), (.slice u2_a u2_l u2_c)], .bool false]) (by simp [results, Tryd.results31, go_sem, E0.out, E1.out]) rfl ⟨⟨_, _, _, _, _, _, rfl⟩, B.out⟩
  · clear hHeld1
    go_simp
    have ne_x_f := nJ Jx
    have ne_r_f := nJ Jr
    have ge_f : Hid (w.heap.size ≤ U2.heap.size) := B.out.size
    have hb := nB U2 (.cells #[(.slice none 0 0), (.slice none 0 0)] 46)
    have Jf : Hid (IHolds (U2.alloc (.cells #[(.slice none 0 0), (.slice none 0 0)] 46)) U2.heap.size 46 [(.slice none 0 0), (.slice none 0 0)]) := IHolds.new _ _ _
    replace B := aB B hb
    replace Jx := aJ Jx hb
    replace Jr := aJ Jr hb
    clear hb
    generalize (U2.alloc (.cells #[(.slice none 0 0), (.slice none 0 0)] 46)) = U27 at *
    generalize U2.heap.size = b28 at *
    refine hK.out _ _ (Jx.out) (fun hHeld23 => ?_)
    clear hK K
    try simp only [Act.put, y1, y2, y3, y4, y5, y6, y7]
    refine wpAnyH_ready (rs := [2]) (by kernel_rfl) (by simp) ?_
    refine AllReadyH.cons rfl (fun K hK => ?_) AllReadyH.nil
    clear hHeld23
    go_simp
    refine (C1.out U27).mono ?_
    rintro e U29 ⟨⟨x1, rfl, hv⟩, hb⟩
    have Nx1 : Hid (NumV U29 10 (A) x1) := hv
    clear hv
    replace B := aB B hb
    replace Jx := aJ Jx hb
    replace Jr := aJ Jr hb
    replace Jf := aJ Jf hb
    clear hb
    go_wp2_with fail
    refine hK.out _ _ (Jx.out) (fun hHeld24 => ?_)
    clear hK K
    try simp only [Act.put, y1, y2, y3, y4, y5, y6, y7]
    refine wpAnyH_ready (rs := [5]) (by kernel_rfl) (by simp) ?_
    refine AllReadyH.cons rfl (fun K hK => ?_) AllReadyH.nil
    clear hHeld24
    go_simp
    refine (C2.out U29).mono ?_
    rintro e U30 ⟨⟨x2, rfl, hv⟩, hb⟩
    have Nx2 : Hid (NumV U30 10 (E) x2) := hv
    clear hv
    replace B := aB B hb
    replace Jx := aJ Jx hb
    replace Jr := aJ Jr hb
    replace Jf := aJ Jf hb
    replace Nx1 := aN Nx1 hb
    clear hb
    go_wp2_with fail
    refine hK.out _ _ (Jx.out) (fun hHeld25 => ?_)
    clear hK K
    try simp only [Act.put, y1, y2, y3, y4, y5, y6, y7]
    refine wpAnyH_ready (rs := [6]) (by kernel_rfl) (by simp) ?_
    refine AllReadyH.cons rfl (fun K hK => ?_) AllReadyH.nil
    clear hHeld25
    go_simp
    refine (C3.out U30 _ _ Nx1.out Nx2.out).mono ?_
    rintro e U31 ⟨⟨u1, u2, rfl, hv, hv'⟩, hb⟩
    have Nu1 : Hid (NumV U31 10 (N) u1) := hv
    have Nu2 : Hid (NumV U31 10 (D) u2) := hv'
    clear hv hv'
    replace B := aB B hb
    replace Jx := aJ Jx hb
    replace Jr := aJ Jr hb
    replace Jf := aJ Jf hb
    replace Nx1 := aN Nx1 hb
    replace Nx2 := aN Nx2 hb
    clear hb
    go_wp2_with fail
    refine hK.out _ _ (Jx.out) (fun hHeld26 => ?_)
    clear hK K
    try simp only [Act.put, y1, y2, y3, y4, y5, y6, y7]
    refine wpAnyH_ready (rs := [8]) (by kernel_rfl) (by simp) ?_
    refine AllReadyH.cons rfl (fun K hK => ?_) AllReadyH.nil
    clear hHeld26
    obtain ⟨u1_a, u1_l, u1_c, rfl⟩ := sN Nu1
    obtain ⟨u2_a, u2_l, u2_c, rfl⟩ := sN Nu2
    obtain ⟨zf_0, zf_1⟩ := cJ Jf
    have f0 := fJ Jf
    have hBut : But (b28) U31 ((U31.setCell ⟨b28, 0, none⟩ (.slice u1_a u1_l u1_c)).setCell ⟨b28, 1, none⟩ (.slice u2_a u2_l u2_c)) := (((But.refl _ U31).setCell 0 (.slice u1_a u1_l u1_c)).setCell 1 (.slice u2_a u2_l u2_c))
    have I4 : Hid (IHolds _ (b28) 46 [(.slice u1_a u1_l u1_c), (.slice u2_a u2_l u2_c)]) := ((Jf.out.set 0 (.slice u1_a u1_l u1_c)).set 1 (.slice u2_a u2_l u2_c))
    replace B : Hid (Below w.heap.size w ((U31.setCell ⟨b28, 0, none⟩ (.slice u1_a u1_l u1_c)).setCell ⟨b28, 1, none⟩ (.slice u2_a u2_l u2_c))) := ((B.out.setCell (by first | exact Nat.le_refl _ | exact ge_f.out | (show w.heap.size ≤ b28; omega)) _).setCell (by first | exact Nat.le_refl _ | exact ge_f.out | (show w.heap.size ≤ b28; omega)) _)
    replace Jx := tJ Jx hBut (by first | exact ne_x_f.out | exact fun h => ne_f_x.out h.symm | omega)
    replace Jr := tJ Jr hBut (by first | exact ne_r_f.out | exact fun h => ne_f_r.out h.symm | omega)
    replace Nx1 := tN Nx1 Jf (by simp) hBut
    replace Nx2 := tN Nx2 Jf (by simp) hBut
    replace Nu1 := tN Nu1 Jf (by simp) hBut
    replace Nu2 := tN Nu2 Jf (by simp) hBut
    replace Jf := I4
    clear I4 hBut
    go_simp
    try go_wp2_with fail
    clear zf_0 zf_1
    clear f0
    generalize ((U31.setCell ⟨b28, 0, none⟩ (.slice u1_a u1_l u1_c)).setCell ⟨b28, 1, none⟩ (.slice u2_a u2_l u2_c)) = U32 at *
    refine hK.out _ _ (Jx.out) (fun hHeld27 => ?_)
    clear hK K
    try simp only [Act.put, y1, y2, y3, y4, y5, y6, y7]
    refine wpAnyH_done (by kernel_rfl) ?_ _
    clear hHeld27
    go_wp2_with fail
    have hb := dB U32
    replace B := aB B hb
    replace Jx := aJ Jx hb
    replace Jr := aJ Jr hb
    replace Jf := aJ Jf hb
    replace Nx1 := aN Nx1 hb
    replace Nx2 := aN Nx2 hb
    replace Nu1 := aN Nu1 hb
    replace Nu2 := aN Nu2 hb
    clear hb
    refine wp_region_held_drew (S := fun W => (IHolds W (b28) 46 [(.slice u1_a u1_l u1_c), (.slice u2_a u2_l u2_c)]) ∧ (IHolds W (w.heap.size) 24 [(.string n), (.string d)])) (by kernel_rfl) ⟨Jf.out, Jx.out⟩ (fun hHeld28 => ?_)
    generalize U32.drew = U33 at *
    refine tk (i := 0) (v := .agg #[(.slice u1_a u1_l u1_c), (.slice u2_a u2_l u2_c)]) rfl (by kernel_rfl) (fun _ _ _ h => h) rfl ?_ hHeld28 ?_
    · intro W hS; obtain ⟨zf_0, zf_1⟩ := c2 hS.1; go_simp
    simp only [Act.put, y1, y2, y3, y4, y5, y6, y7]
    refine tk (i := 1) (v := .agg #[(.slice u1_a u1_l u1_c), (.slice u2_a u2_l u2_c)]) rfl (by kernel_rfl) (fun _ _ _ h => h) rfl ?_ hHeld28 ?_
    · intro W hS; obtain ⟨zf_0, zf_1⟩ := c2 hS.1; go_simp
    simp only [Act.put, y1, y2, y3, y4, y5, y6, y7]
    refine tk (i := 3) (v := .agg #[(.string n), (.string d)]) rfl (by kernel_rfl) (fun _ _ _ h => h) rfl ?_ hHeld28 ?_
    · intro W hS; obtain ⟨zx_0, zx_1⟩ := c2 hS.2; go_simp
    simp only [Act.put, y1, y2, y3, y4, y5, y6, y7]
    refine wpAnyH_ready (rs := [2]) (by kernel_rfl) (by simp) ?_
    refine AllReadyH.cons rfl (fun K hK => ?_) AllReadyH.nil
    clear hHeld28
    go_simp
    refine (C4.out U33 _ _ Nu1.out Nu2.out).mono ?_
    rintro e U34 ⟨rfl, hb⟩
    replace B := aB B hb
    replace Jx := aJ Jx hb
    replace Jr := aJ Jr hb
    replace Jf := aJ Jf hb
    replace Nx1 := aN Nx1 hb
    replace Nx2 := aN Nx2 hb
    replace Nu1 := aN Nu1 hb
    replace Nu2 := aN Nu2 hb
    clear hb
    go_wp2_with fail
    refine hK.out _ _ (⟨Jf.out, Jx.out⟩) (fun hHeld29 => ?_)
    clear hK K
    try simp only [Act.put, y1, y2, y3, y4, y5, y6, y7]
    refine tk (i := 4) (v := .bool false) rfl (by kernel_rfl) (fun _ _ _ h => h) rfl ?_ hHeld29 ?_
    · intro W hS; go_simp
    simp only [Act.put, y1, y2, y3, y4, y5, y6, y7]
    refine wpAnyH_ready (rs := [5]) (by kernel_rfl) (by simp) ?_
    refine AllReadyH.cons rfl (fun K hK => ?_) AllReadyH.nil
    clear hHeld29
    obtain ⟨zr_0, zr_1⟩ := cJ Jr
    have f0 := fJ Jr
    have hBut : But (w.heap.size + 1) U34 ((U34.setCell ⟨w.heap.size + 1, 0, none⟩ (.slice u1_a u1_l u1_c)).setCell ⟨w.heap.size + 1, 1, none⟩ (.slice u2_a u2_l u2_c)) := (((But.refl _ U34).setCell 0 (.slice u1_a u1_l u1_c)).setCell 1 (.slice u2_a u2_l u2_c))
    have I4 : Hid (IHolds _ (w.heap.size + 1) 46 [(.slice u1_a u1_l u1_c), (.slice u2_a u2_l u2_c)]) := ((Jr.out.set 0 (.slice u1_a u1_l u1_c)).set 1 (.slice u2_a u2_l u2_c))
    replace B : Hid (Below w.heap.size w ((U34.setCell ⟨w.heap.size + 1, 0, none⟩ (.slice u1_a u1_l u1_c)).setCell ⟨w.heap.size + 1, 1, none⟩ (.slice u2_a u2_l u2_c))) := ((B.out.setCell (by first | exact Nat.le_refl _ | exact ge_r.out | (show w.heap.size ≤ w.heap.size + 1; omega)) _).setCell (by first | exact Nat.le_refl _ | exact ge_r.out | (show w.heap.size ≤ w.heap.size + 1; omega)) _)
    replace Jx := tJ Jx hBut (by first | exact ne_x_r.out | exact fun h => ne_r_x.out h.symm | omega)
    replace Jf := tJ Jf hBut (by first | exact ne_f_r.out | exact fun h => ne_r_f.out h.symm | omega)
    replace Nx1 := tN Nx1 Jr (by simp) hBut
    replace Nx2 := tN Nx2 Jr (by simp) hBut
    replace Nu1 := tN Nu1 Jr (by simp) hBut
    replace Nu2 := tN Nu2 Jr (by simp) hBut
    replace Jr := I4
    clear I4 hBut
    go_simp
    try go_wp2_with fail
    clear zr_0 zr_1
    clear f0
    generalize ((U34.setCell ⟨w.heap.size + 1, 0, none⟩ (.slice u1_a u1_l u1_c)).setCell ⟨w.heap.size + 1, 1, none⟩ (.slice u2_a u2_l u2_c)) = U35 at *
    refine hK.out _ _ (⟨Jf.out, Jx.out⟩) (fun hHeld30 => ?_)
    clear hK K
    try simp only [Act.put, y1, y2, y3, y4, y5, y6, y7]
    refine tk (i := 6) (v := .bool false) rfl (by kernel_rfl) (fun _ _ _ h => h) rfl ?_ hHeld30 ?_
    · intro W hS; go_simp
    simp only [Act.put, y1, y2, y3, y4, y5, y6, y7]
    refine wpAnyH_done (by kernel_rfl) ?_ _
    clear hHeld30
    go_wp2_with fail
    have E0 : Hid (U35.cell? ⟨w.heap.size + 1, 0, none⟩ = some ((.slice u1_a u1_l u1_c))) := IHolds.cell (l := [(.slice u1_a u1_l u1_c), (.slice u2_a u2_l u2_c)]) (t := 46) (b := w.heap.size + 1) (w := U35) Jr.out 0 (by simp)
    have E1 : Hid (U35.cell? ⟨w.heap.size + 1, 1, none⟩ = some ((.slice u2_a u2_l u2_c))) := IHolds.cell (l := [(.slice u1_a u1_l u1_c), (.slice u2_a u2_l u2_c)]) (t := 46) (b := w.heap.size + 1) (w := U35) Jr.out 1 (by simp)
    exact bodyPost_ret (v := .tuple #[.agg #[(.slice u1_a u1_l u1_c), (.slice u2_a u2_l u2_c)], .bool false]) (by simp [results, Tryd.results31, go_sem, E0.out, E1.out]) rfl ⟨⟨_, _, _, _, _, _, rfl⟩, B.out⟩
end Go.Proofs.YtflabehlaiocaaaDoor
