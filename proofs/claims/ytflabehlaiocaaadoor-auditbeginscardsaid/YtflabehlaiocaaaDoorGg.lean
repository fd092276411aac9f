/- readRisk. -/
import Derived.Test.YtflabehlaiocaaaDoorKf
set_option linter.unusedSimpArgs false
set_option linter.unusedVariables false
namespace Go.Proofs.YtflabehlaiocaaaDoor
open Go.RowKit Go.Deep Go.PlainAid

theorem tkU {P : Program} {md : Region.Mode} {ops : Array Oper} {Q : Exit → Act → World → Prop} {S : World → Prop} {i : Nat} {oi : Oper} {fuel : Nat} {listed : Array Bool} {a : Act} {w : World} (hi : ops[i]? = some oi)
    (hs : (Region.noSelect ops && (Region.free md ops listed i && (Region.ready md ops listed).contains i)) = true)
    (hQ : ∀ c a w, Q (.panic c) (a.put oi.dst undef) w → Q (.panic c) a w) (hw : Region.wanted oi (yielded ops a.tmps) = false) (hS : S w)
    (h : wpAnyH P md ops Q S fuel (listed.setIfInBounds i true) (a.put oi.dst undef) w) : wpAnyH P md ops Q S (fuel + 1) listed a w := by
  simp only [Bool.and_eq_true] at hs
  exact wpAnyH_take hi hs.1 hs.2.1 hs.2.2 hQ (Or.inr ⟨hw, rfl⟩) hS h

set_option maxRecDepth 100000 in
set_option maxHeartbeats 4000000 in
theorem risk_no (n d : ByteArray) (w : World) (C0 : Hid (∀ W, Calls Tryd.prog 23 #[.agg #[.string n, .string d]] W fun e w' => e = .returned (.tuple #[.agg #[.slice none 0 0, .slice none 0 0], .bool false]) ∧ Below W.heap.size W w'))  :
    Calls Tryd.prog 10 #[.agg #[.string n, .string d]] w fun e w' => e = .returned (.tuple #[.agg #[.slice none 0 0, .slice none 0 0], .int .i64 2]) ∧ Below w.heap.size w w' := by
  go_enter Tryd.func10, Tryd.ntmps10
  go_wp2_with fail
  obtain ⟨U1, hU1⟩ : ∃ X, X = ((w.alloc (.cells #[(.string n), (.string d)] 24)).alloc (.cells #[(.slice none 0 0), (.slice none 0 0)] 39)) := ⟨_, rfl⟩
  have Jx : Hid (IHolds U1 (w.heap.size) 24 [(.string n), (.string d)]) := by
    have q := IHolds.new w 24 [(.string n), (.string d)]
    show IHolds _ _ _ _
    rw [hU1]
    exact (q.alloc _)
  have Jr : Hid (IHolds U1 (w.heap.size + 1) 39 [(.slice none 0 0), (.slice none 0 0)]) := by
    have q := IHolds.new (w.alloc (.cells #[(.string n), (.string d)] 24)) 39 [(.slice none 0 0), (.slice none 0 0)]
    simp only [World.size_alloc, Nat.add_assoc, Nat.reduceAdd] at q
    show IHolds _ _ _ _
    rw [hU1]
    exact q
  have B : Hid (Below w.heap.size w U1) := by
    show Below _ _ _
    rw [hU1]
    exact (((Below.refl _ w).alloc (Nat.le_refl _) _).alloc (by simp only [World.size_alloc]; omega) _)
  rw [← hU1]
  clear hU1
  refine (C0.out U1).mono ?_
  rintro e U2 ⟨rfl, hb⟩
  replace B := aB B hb
  replace Jx := aJ Jx hb
  replace Jr := aJ Jr hb
  clear hb
  have nr : Hid (w.heap.size + 1 < U2.heap.size) := Jr.out.lt
  have hb := nB U2 (.cells #[(.slice none 0 0), (.slice none 0 0)] 39)
  have Jl : Hid (IHolds (U2.alloc (.cells #[(.slice none 0 0), (.slice none 0 0)] 39)) U2.heap.size 39 [(.slice none 0 0), (.slice none 0 0)]) := IHolds.new _ _ _
  have ne_x_l := nJ Jx
  have ne_r_l := nJ Jr
  have ge_l : Hid (w.heap.size ≤ U2.heap.size) := B.out.size
  replace B := aB B hb
  replace Jx := aJ Jx hb
  replace Jr := aJ Jr hb
  clear hb
  obtain ⟨zr_0, zr_1⟩ := cJ Jr
  have f0 := fJ Jr
  have hBut : But (w.heap.size + 1) (U2.alloc (.cells #[(.slice none 0 0), (.slice none 0 0)] 39)) (((U2.alloc (.cells #[(.slice none 0 0), (.slice none 0 0)] 39)).setCell ⟨w.heap.size + 1, 0, none⟩ (.slice none 0 0)).setCell ⟨w.heap.size + 1, 1, none⟩ (.slice none 0 0)) := (((But.refl _ (U2.alloc (.cells #[(.slice none 0 0), (.slice none 0 0)] 39))).setCell 0 (.slice none 0 0)).setCell 1 (.slice none 0 0))
  have I4 : Hid (IHolds _ (w.heap.size + 1) 39 [(.slice none 0 0), (.slice none 0 0)]) := ((Jr.out.set 0 (.slice none 0 0)).set 1 (.slice none 0 0))
  replace B : Hid (Below w.heap.size w (((U2.alloc (.cells #[(.slice none 0 0), (.slice none 0 0)] 39)).setCell ⟨w.heap.size + 1, 0, none⟩ (.slice none 0 0)).setCell ⟨w.heap.size + 1, 1, none⟩ (.slice none 0 0))) := ((B.out.setCell (by first | exact Nat.le_refl _ | exact ge_r.out | (show w.heap.size ≤ w.heap.size + 1; omega)) _).setCell (by first | exact Nat.le_refl _ | exact ge_r.out | (show w.heap.size ≤ w.heap.size + 1; omega)) _)
  replace Jx := tJ Jx hBut (by first | exact ne_x_r.out | exact fun h => ne_r_x.out h.symm | omega)
  replace Jl := tJ Jl hBut (by first | exact ne_l_r.out | exact fun h => ne_r_l.out h.symm | omega)
  replace Jr := I4
  clear I4 hBut
  go_wp2_with fail
  clear zr_0 zr_1
  clear f0
  generalize (((U2.alloc (.cells #[(.slice none 0 0), (.slice none 0 0)] 39)).setCell ⟨w.heap.size + 1, 0, none⟩ (.slice none 0 0)).setCell ⟨w.heap.size + 1, 1, none⟩ (.slice none 0 0)) = U3 at *
  have E0 : Hid (U3.cell? ⟨w.heap.size + 1, 0, none⟩ = some ((.slice none 0 0))) := IHolds.cell (l := [(.slice none 0 0), (.slice none 0 0)]) (t := 39) (b := w.heap.size + 1) (w := U3) Jr.out 0 (by simp)
  have E1 : Hid (U3.cell? ⟨w.heap.size + 1, 1, none⟩ = some ((.slice none 0 0))) := IHolds.cell (l := [(.slice none 0 0), (.slice none 0 0)]) (t := 39) (b := w.heap.size + 1) (w := U3) Jr.out 1 (by simp)
  exact bodyPost_ret (v := .tuple #[.agg #[(.slice none 0 0), (.slice none 0 0)], .int .i64 2]) (by simp [results, Tryd.results10, go_sem, E0.out, E1.out]) rfl ⟨rfl, B.out⟩
set_option maxRecDepth 100000 in
set_option maxHeartbeats 4000000 in
theorem risk_zero (n d : ByteArray) (w : World) (nn dd : Nat) (C0 : Hid (∀ W, Calls Tryd.prog 23 #[.agg #[.string n, .string d]] W fun e w' => (∃ u1 u2, e = .returned (.tuple #[.agg #[u1, u2], .bool true]) ∧ NumV w' 1000000000 nn u1 ∧ NumV w' 1000000000 dd u2) ∧ Below W.heap.size W w')) (C24 : Hid (∀ W v, NumV W 1000000000 nn v → Calls Tryd.prog 24 #[v] W fun e w' => e = .returned (.bool true) ∧ Below W.heap.size W w'))  :
    Calls Tryd.prog 10 #[.agg #[.string n, .string d]] w fun e w' => e = .returned (.tuple #[.agg #[.slice none 0 0, .slice none 0 0], .int .i64 4]) ∧ Below w.heap.size w w' := by
  go_enter Tryd.func10, Tryd.ntmps10
  go_wp2_with fail
  obtain ⟨U1, hU1⟩ : ∃ X, X = ((w.alloc (.cells #[(.string n), (.string d)] 24)).alloc (.cells #[(.slice none 0 0), (.slice none 0 0)] 39)) := ⟨_, rfl⟩
  have Jx : Hid (IHolds U1 (w.heap.size) 24 [(.string n), (.string d)]) := by
    have q := IHolds.new w 24 [(.string n), (.string d)]
    show IHolds _ _ _ _
    rw [hU1]
    exact (q.alloc _)
  have Jr : Hid (IHolds U1 (w.heap.size + 1) 39 [(.slice none 0 0), (.slice none 0 0)]) := by
    have q := IHolds.new (w.alloc (.cells #[(.string n), (.string d)] 24)) 39 [(.slice none 0 0), (.slice none 0 0)]
    simp only [World.size_alloc, Nat.add_assoc, Nat.reduceAdd] at q
    show IHolds _ _ _ _
    rw [hU1]
    exact q
  have B : Hid (Below w.heap.size w U1) := by
    show Below _ _ _
    rw [hU1]
    exact (((Below.refl _ w).alloc (Nat.le_refl _) _).alloc (by simp only [World.size_alloc]; omega) _)
  rw [← hU1]
  clear hU1
  refine (C0.out U1).mono ?_
  rintro e U2 ⟨⟨x1, x2, rfl, hv, hv'⟩, hb⟩
  have Nx1 : Hid (NumV U2 1000000000 (nn) x1) := hv
  have Nx2 : Hid (NumV U2 1000000000 (dd) x2) := hv'
  clear hv hv'
  replace B := aB B hb
  replace Jx := aJ Jx hb
  replace Jr := aJ Jr hb
  clear hb
  have nr : Hid (w.heap.size + 1 < U2.heap.size) := Jr.out.lt
  obtain ⟨x1_a, x1_l, x1_c, rfl⟩ := sN Nx1
  obtain ⟨x2_a, x2_l, x2_c, rfl⟩ := sN Nx2
  have hb := nB U2 (.cells #[(.slice x1_a x1_l x1_c), (.slice x2_a x2_l x2_c)] 39)
  have Jl : Hid (IHolds (U2.alloc (.cells #[(.slice x1_a x1_l x1_c), (.slice x2_a x2_l x2_c)] 39)) U2.heap.size 39 [(.slice x1_a x1_l x1_c), (.slice x2_a x2_l x2_c)]) := IHolds.new _ _ _
  have ne_x_l := nJ Jx
  have ne_r_l := nJ Jr
  have ge_l : Hid (w.heap.size ≤ U2.heap.size) := B.out.size
  replace B := aB B hb
  replace Jx := aJ Jx hb
  replace Jr := aJ Jr hb
  replace Nx1 := aN Nx1 hb
  replace Nx2 := aN Nx2 hb
  clear hb
  go_wp2_with fail
  generalize (U2.alloc (.cells #[(.slice x1_a x1_l x1_c), (.slice x2_a x2_l x2_c)] 39)) = U3 at *
  generalize U2.heap.size = b4 at *
  have hb := dB U3
  replace B := aB B hb
  replace Jx := aJ Jx hb
  replace Jr := aJ Jr hb
  replace Jl := aJ Jl hb
  replace Nx1 := aN Nx1 hb
  replace Nx2 := aN Nx2 hb
  clear hb
  refine wp_region_held_drew (S := fun W => IHolds W (b4) 39 [(.slice x1_a x1_l x1_c), (.slice x2_a x2_l x2_c)]) (by kernel_rfl) Jl.out (fun hHeld1 => ?_)
  generalize U3.drew = U5 at *
  refine tk (i := 0) (v := .pointer (some ⟨b4, 0, none⟩)) rfl (by kernel_rfl) (fun _ _ _ h => h) rfl ?_ hHeld1 ?_
  · intro W hS; go_simp
  simp only [Act.put, y1, y2, y3, y4, y5, y6, y7]
  refine tk (i := 1) (v := (.slice x1_a x1_l x1_c)) rfl (by kernel_rfl) (fun _ _ _ h => h) rfl ?_ hHeld1 ?_
  · intro W hS; obtain ⟨zl_0, zl_1⟩ := c2 hS; go_simp
  simp only [Act.put, y1, y2, y3, y4, y5, y6, y7]
  refine wpAnyH_ready (rs := [2]) (by kernel_rfl) (by simp) ?_
  refine AllReadyH.cons rfl (fun K hK => ?_) AllReadyH.nil
  clear hHeld1
  go_simp
  refine (C24.out U5 _ Nx1.out).mono ?_
  rintro e U6 ⟨rfl, hb⟩
  replace B := aB B hb
  replace Jx := aJ Jx hb
  replace Jr := aJ Jr hb
  replace Jl := aJ Jl hb
  replace Nx1 := aN Nx1 hb
  replace Nx2 := aN Nx2 hb
  clear hb
  go_wp2_with fail
  refine hK.out _ _ (Jl.out) (fun hHeld2 => ?_)
  clear hK K
  try simp only [Act.put, y1, y2, y3, y4, y5, y6, y7]
  refine tk (i := 3) (v := .bool true) rfl (by kernel_rfl) (fun _ _ _ h => h) rfl ?_ hHeld2 ?_
  · intro W hS; go_simp
  simp only [Act.put, y1, y2, y3, y4, y5, y6, y7]
  refine tkU (i := 4) rfl (by kernel_rfl) (fun _ _ _ h => h) (by kernel_rfl) hHeld2 ?_
  simp only [Act.put, y1, y2, y3, y4, y5, y6, y7]
  refine tkU (i := 5) rfl (by kernel_rfl) (fun _ _ _ h => h) (by kernel_rfl) hHeld2 ?_
  simp only [Act.put, y1, y2, y3, y4, y5, y6, y7]
  refine tkU (i := 6) rfl (by kernel_rfl) (fun _ _ _ h => h) (by kernel_rfl) hHeld2 ?_
  simp only [Act.put, y1, y2, y3, y4, y5, y6, y7]
  refine tkU (i := 7) rfl (by kernel_rfl) (fun _ _ _ h => h) (by kernel_rfl) hHeld2 ?_
  simp only [Act.put, y1, y2, y3, y4, y5, y6, y7]
  refine tk (i := 8) (v := .bool true) rfl (by kernel_rfl) (fun _ _ _ h => h) rfl ?_ hHeld2 ?_
  · intro W hS; go_simp
  simp only [Act.put, y1, y2, y3, y4, y5, y6, y7]
  refine tk (i := 9) (v := .bool true) rfl (by kernel_rfl) (fun _ _ _ h => h) rfl ?_ hHeld2 ?_
  · intro W hS; go_simp
  simp only [Act.put, y1, y2, y3, y4, y5, y6, y7]
  refine wpAnyH_done (by kernel_rfl) ?_ _
  clear hHeld2
  obtain ⟨zr_0, zr_1⟩ := cJ Jr
  have f0 := fJ Jr
  have hBut : But (w.heap.size + 1) U6 ((U6.setCell ⟨w.heap.size + 1, 0, none⟩ (.slice none 0 0)).setCell ⟨w.heap.size + 1, 1, none⟩ (.slice none 0 0)) := (((But.refl _ U6).setCell 0 (.slice none 0 0)).setCell 1 (.slice none 0 0))
  have I4 : Hid (IHolds _ (w.heap.size + 1) 39 [(.slice none 0 0), (.slice none 0 0)]) := ((Jr.out.set 0 (.slice none 0 0)).set 1 (.slice none 0 0))
  replace B : Hid (Below w.heap.size w ((U6.setCell ⟨w.heap.size + 1, 0, none⟩ (.slice none 0 0)).setCell ⟨w.heap.size + 1, 1, none⟩ (.slice none 0 0))) := ((B.out.setCell (by first | exact Nat.le_refl _ | exact ge_r.out | (show w.heap.size ≤ w.heap.size + 1; omega)) _).setCell (by first | exact Nat.le_refl _ | exact ge_r.out | (show w.heap.size ≤ w.heap.size + 1; omega)) _)
  replace Jx := tJ Jx hBut (by first | exact ne_x_r.out | exact fun h => ne_r_x.out h.symm | omega)
  replace Jl := tJ Jl hBut (by first | exact ne_l_r.out | exact fun h => ne_r_l.out h.symm | omega)
  replace Nx1 := tN Nx1 Jr (by simp) hBut
  replace Nx2 := tN Nx2 Jr (by simp) hBut
  replace Jr := I4
  clear I4 hBut
  go_wp2_with fail
  clear zr_0 zr_1
  clear f0
  generalize ((U6.setCell ⟨w.heap.size + 1, 0, none⟩ (.slice none 0 0)).setCell ⟨w.heap.size + 1, 1, none⟩ (.slice none 0 0)) = U7 at *
  have E0 : Hid (U7.cell? ⟨w.heap.size + 1, 0, none⟩ = some ((.slice none 0 0))) := IHolds.cell (l := [(.slice none 0 0), (.slice none 0 0)]) (t := 39) (b := w.heap.size + 1) (w := U7) Jr.out 0 (by simp)
  have E1 : Hid (U7.cell? ⟨w.heap.size + 1, 1, none⟩ = some ((.slice none 0 0))) := IHolds.cell (l := [(.slice none 0 0), (.slice none 0 0)]) (t := 39) (b := w.heap.size + 1) (w := U7) Jr.out 1 (by simp)
  exact bodyPost_ret (v := .tuple #[.agg #[(.slice none 0 0), (.slice none 0 0)], .int .i64 4]) (by simp [results, Tryd.results10, go_sem, E0.out, E1.out]) rfl ⟨rfl, B.out⟩
set_option maxRecDepth 100000 in
set_option maxHeartbeats 4000000 in
theorem risk_more (n d : ByteArray) (w : World) (nn dd : Nat) (z : Int) (hz : 0 < z) (C0 : Hid (∀ W, Calls Tryd.prog 23 #[.agg #[.string n, .string d]] W fun e w' => (∃ u1 u2, e = .returned (.tuple #[.agg #[u1, u2], .bool true]) ∧ NumV w' 1000000000 nn u1 ∧ NumV w' 1000000000 dd u2) ∧ Below W.heap.size W w')) (C24 : Hid (∀ W v, NumV W 1000000000 nn v → Calls Tryd.prog 24 #[v] W fun e w' => e = .returned (.bool false) ∧ Below W.heap.size W w')) (C26 : Hid (∀ W, Calls Tryd.prog 26 #[.int .i64 1] W fun e w' => (∃ u1 u2, e = .returned (.agg #[u1, u2]) ∧ NumV w' 1000000000 1 u1 ∧ NumV w' 1000000000 1 u2) ∧ Below W.heap.size W w')) (C25 : Hid (∀ W v1 v2 v3 v4, NumV W 1000000000 nn v1 → NumV W 1000000000 dd v2 → NumV W 1000000000 1 v3 → NumV W 1000000000 1 v4 → Calls Tryd.prog 25 #[.agg #[v1, v2], .agg #[v3, v4]] W fun e w' => e = .returned (.int .i64 z) ∧ Below W.heap.size W w'))  :
    Calls Tryd.prog 10 #[.agg #[.string n, .string d]] w fun e w' => e = .returned (.tuple #[.agg #[.slice none 0 0, .slice none 0 0], .int .i64 4]) ∧ Below w.heap.size w w' := by
  go_enter Tryd.func10, Tryd.ntmps10
  go_wp2_with fail
  obtain ⟨U1, hU1⟩ : ∃ X, X = ((w.alloc (.cells #[(.string n), (.string d)] 24)).alloc (.cells #[(.slice none 0 0), (.slice none 0 0)] 39)) := ⟨_, rfl⟩
  have Jx : Hid (IHolds U1 (w.heap.size) 24 [(.string n), (.string d)]) := by
    have q := IHolds.new w 24 [(.string n), (.string d)]
    show IHolds _ _ _ _
    rw [hU1]
    exact (q.alloc _)
  have Jr : Hid (IHolds U1 (w.heap.size + 1) 39 [(.slice none 0 0), (.slice none 0 0)]) := by
    have q := IHolds.new (w.alloc (.cells #[(.string n), (.string d)] 24)) 39 [(.slice none 0 0), (.slice none 0 0)]
    simp only [World.size_alloc, Nat.add_assoc, Nat.reduceAdd] at q
    show IHolds _ _ _ _
    rw [hU1]
    exact q
  have B : Hid (Below w.heap.size w U1) := by
    show Below _ _ _
    rw [hU1]
    exact (((Below.refl _ w).alloc (Nat.le_refl _) _).alloc (by simp only [World.size_alloc]; omega) _)
  rw [← hU1]
  clear hU1
  refine (C0.out U1).mono ?_
  rintro e U2 ⟨⟨x1, x2, rfl, hv, hv'⟩, hb⟩
  have Nx1 : Hid (NumV U2 1000000000 (nn) x1) := hv
  have Nx2 : Hid (NumV U2 1000000000 (dd) x2) := hv'
  clear hv hv'
  replace B := aB B hb
  replace Jx := aJ Jx hb
  replace Jr := aJ Jr hb
  clear hb
  have nr : Hid (w.heap.size + 1 < U2.heap.size) := Jr.out.lt
  obtain ⟨x1_a, x1_l, x1_c, rfl⟩ := sN Nx1
  obtain ⟨x2_a, x2_l, x2_c, rfl⟩ := sN Nx2
  have hb := nB U2 (.cells #[(.slice x1_a x1_l x1_c), (.slice x2_a x2_l x2_c)] 39)
  have Jl : Hid (IHolds (U2.alloc (.cells #[(.slice x1_a x1_l x1_c), (.slice x2_a x2_l x2_c)] 39)) U2.heap.size 39 [(.slice x1_a x1_l x1_c), (.slice x2_a x2_l x2_c)]) := IHolds.new _ _ _
  have ne_x_l := nJ Jx
  have ne_r_l := nJ Jr
  have ge_l : Hid (w.heap.size ≤ U2.heap.size) := B.out.size
  replace B := aB B hb
  replace Jx := aJ Jx hb
  replace Jr := aJ Jr hb
  replace Nx1 := aN Nx1 hb
  replace Nx2 := aN Nx2 hb
  clear hb
  go_wp2_with fail
  generalize (U2.alloc (.cells #[(.slice x1_a x1_l x1_c), (.slice x2_a x2_l x2_c)] 39)) = U3 at *
  generalize U2.heap.size = b4 at *
  have hb := dB U3
  replace B := aB B hb
  replace Jx := aJ Jx hb
  replace Jr := aJ Jr hb
  replace Jl := aJ Jl hb
  replace Nx1 := aN Nx1 hb
  replace Nx2 := aN Nx2 hb
  clear hb
  refine wp_region_held_drew (S := fun W => IHolds W (b4) 39 [(.slice x1_a x1_l x1_c), (.slice x2_a x2_l x2_c)]) (by kernel_rfl) Jl.out (fun hHeld1 => ?_)
  generalize U3.drew = U5 at *
  refine tk (i := 0) (v := .pointer (some ⟨b4, 0, none⟩)) rfl (by kernel_rfl) (fun _ _ _ h => h) rfl ?_ hHeld1 ?_
  · intro W hS; go_simp
  simp only [Act.put, y1, y2, y3, y4, y5, y6, y7]
  refine tk (i := 1) (v := (.slice x1_a x1_l x1_c)) rfl (by kernel_rfl) (fun _ _ _ h => h) rfl ?_ hHeld1 ?_
  · intro W hS; obtain ⟨zl_0, zl_1⟩ := c2 hS; go_simp
  simp only [Act.put, y1, y2, y3, y4, y5, y6, y7]
  refine wpAnyH_ready (rs := [2]) (by kernel_rfl) (by simp) ?_
  refine AllReadyH.cons rfl (fun K hK => ?_) AllReadyH.nil
  clear hHeld1
  go_simp
  refine (C24.out U5 _ Nx1.out).mono ?_
  rintro e U6 ⟨rfl, hb⟩
  replace B := aB B hb
  replace Jx := aJ Jx hb
  replace Jr := aJ Jr hb
  replace Jl := aJ Jl hb
  replace Nx1 := aN Nx1 hb
  replace Nx2 := aN Nx2 hb
  clear hb
  go_wp2_with fail
  refine hK.out _ _ (Jl.out) (fun hHeld2 => ?_)
  clear hK K
  try simp only [Act.put, y1, y2, y3, y4, y5, y6, y7]
  refine tk (i := 3) (v := .bool false) rfl (by kernel_rfl) (fun _ _ _ h => h) rfl ?_ hHeld2 ?_
  · intro W hS; go_simp
  simp only [Act.put, y1, y2, y3, y4, y5, y6, y7]
  refine tk (i := 4) (v := .agg #[(.slice x1_a x1_l x1_c), (.slice x2_a x2_l x2_c)]) rfl (by kernel_rfl) (fun _ _ _ h => h) rfl ?_ hHeld2 ?_
  · intro W hS; obtain ⟨zl_0, zl_1⟩ := c2 hS; go_simp
  simp only [Act.put, y1, y2, y3, y4, y5, y6, y7]
  refine wpAnyH_ready (rs := [5]) (by kernel_rfl) (by simp) ?_
  refine AllReadyH.cons rfl (fun K hK => ?_) AllReadyH.nil
  clear hHeld2
  go_simp
  refine (C26.out U6).mono ?_
  rintro e U7 ⟨⟨q1, q2, rfl, hv, hv'⟩, hb⟩
  have Nq1 : Hid (NumV U7 1000000000 (1) q1) := hv
  have Nq2 : Hid (NumV U7 1000000000 (1) q2) := hv'
  clear hv hv'
  replace B := aB B hb
  replace Jx := aJ Jx hb
  replace Jr := aJ Jr hb
  replace Jl := aJ Jl hb
  replace Nx1 := aN Nx1 hb
  replace Nx2 := aN Nx2 hb
  clear hb
  go_wp2_with fail
  refine hK.out _ _ (Jl.out) (fun hHeld3 => ?_)
  clear hK K
  try simp only [Act.put, y1, y2, y3, y4, y5, y6, y7]
  refine wpAnyH_ready (rs := [6]) (by kernel_rfl) (by simp) ?_
  refine AllReadyH.cons rfl (fun K hK => ?_) AllReadyH.nil
  clear hHeld3
  go_simp
  refine (C25.out U7 _ _ _ _ Nx1.out Nx2.out Nq1.out Nq2.out).mono ?_
  rintro e U8 ⟨rfl, hb⟩
  replace B := aB B hb
  replace Jx := aJ Jx hb
  replace Jr := aJ Jr hb
  replace Jl := aJ Jl hb
  replace Nx1 := aN Nx1 hb
  replace Nx2 := aN Nx2 hb
  replace Nq1 := aN Nq1 hb
  replace Nq2 := aN Nq2 hb
  clear hb
  go_wp2_with fail
  refine hK.out _ _ (Jl.out) (fun hHeld4 => ?_)
  clear hK K
  try simp only [Act.put, y1, y2, y3, y4, y5, y6, y7]
  refine tk (i := 7) (v := .bool true) rfl (by kernel_rfl) (fun _ _ _ h => h) rfl ?_ hHeld4 ?_
  · intro W hS; go_simp
  simp only [Act.put, y1, y2, y3, y4, y5, y6, y7]
  refine tk (i := 8) (v := .bool true) rfl (by kernel_rfl) (fun _ _ _ h => h) rfl ?_ hHeld4 ?_
  · intro W hS; go_simp
  simp only [Act.put, y1, y2, y3, y4, y5, y6, y7]
  refine tk (i := 9) (v := .bool true) rfl (by kernel_rfl) (fun _ _ _ h => h) rfl ?_ hHeld4 ?_
  · intro W hS; go_simp
  simp only [Act.put, y1, y2, y3, y4, y5, y6, y7]
  refine wpAnyH_done (by kernel_rfl) ?_ _
  clear hHeld4
  obtain ⟨zr_0, zr_1⟩ := cJ Jr
  have f0 := fJ Jr
  have hBut : But (w.heap.size + 1) U8 ((U8.setCell ⟨w.heap.size + 1, 0, none⟩ (.slice none 0 0)).setCell ⟨w.heap.size + 1, 1, none⟩ (.slice none 0 0)) := (((But.refl _ U8).setCell 0 (.slice none 0 0)).setCell 1 (.slice none 0 0))
  have I4 : Hid (IHolds _ (w.heap.size + 1) 39 [(.slice none 0 0), (.slice none 0 0)]) := ((Jr.out.set 0 (.slice none 0 0)).set 1 (.slice none 0 0))
  replace B : Hid (Below w.heap.size w ((U8.setCell ⟨w.heap.size + 1, 0, none⟩ (.slice none 0 0)).setCell ⟨w.heap.size + 1, 1, none⟩ (.slice none 0 0))) := ((B.out.setCell (by first | exact Nat.le_refl _ | exact ge_r.out | (show w.heap.size ≤ w.heap.size + 1; omega)) _).setCell (by first | exact Nat.le_refl _ | exact ge_r.out | (show w.heap.size ≤ w.heap.size + 1; omega)) _)
  replace Jx := tJ Jx hBut (by first | exact ne_x_r.out | exact fun h => ne_r_x.out h.symm | omega)
  replace Jl := tJ Jl hBut (by first | exact ne_l_r.out | exact fun h => ne_r_l.out h.symm | omega)
  replace Nx1 := tN Nx1 Jr (by simp) hBut
  replace Nx2 := tN Nx2 Jr (by simp) hBut
  replace Nq1 := tN Nq1 Jr (by simp) hBut
  replace Nq2 := tN Nq2 Jr (by simp) hBut
  replace Jr := I4
  clear I4 hBut
  go_wp2_with fail
  clear zr_0 zr_1
  clear f0
  generalize ((U8.setCell ⟨w.heap.size + 1, 0, none⟩ (.slice none 0 0)).setCell ⟨w.heap.size + 1, 1, none⟩ (.slice none 0 0)) = U9 at *
  have E0 : Hid (U9.cell? ⟨w.heap.size + 1, 0, none⟩ = some ((.slice none 0 0))) := IHolds.cell (l := [(.slice none 0 0), (.slice none 0 0)]) (t := 39) (b := w.heap.size + 1) (w := U9) Jr.out 0 (by simp)
  have E1 : Hid (U9.cell? ⟨w.heap.size + 1, 1, none⟩ = some ((.slice none 0 0))) := IHolds.cell (l := [(.slice none 0 0), (.slice none 0 0)]) (t := 39) (b := w.heap.size + 1) (w := U9) Jr.out 1 (by simp)
  exact bodyPost_ret (v := .tuple #[.agg #[(.slice none 0 0), (.slice none 0 0)], .int .i64 4]) (by simp [results, Tryd.results10, go_sem, E0.out, E1.out]) rfl ⟨rfl, B.out⟩
set_option maxRecDepth 100000 in
set_option maxHeartbeats 4000000 in
theorem risk_ok (n d : ByteArray) (w : World) (nn dd : Nat) (z : Int) (hz : ¬ 0 < z) (C0 : Hid (∀ W, Calls Tryd.prog 23 #[.agg #[.string n, .string d]] W fun e w' => (∃ u1 u2, e = .returned (.tuple #[.agg #[u1, u2], .bool true]) ∧ NumV w' 1000000000 nn u1 ∧ NumV w' 1000000000 dd u2) ∧ Below W.heap.size W w')) (C24 : Hid (∀ W v, NumV W 1000000000 nn v → Calls Tryd.prog 24 #[v] W fun e w' => e = .returned (.bool false) ∧ Below W.heap.size W w')) (C26 : Hid (∀ W, Calls Tryd.prog 26 #[.int .i64 1] W fun e w' => (∃ u1 u2, e = .returned (.agg #[u1, u2]) ∧ NumV w' 1000000000 1 u1 ∧ NumV w' 1000000000 1 u2) ∧ Below W.heap.size W w')) (C25 : Hid (∀ W v1 v2 v3 v4, NumV W 1000000000 nn v1 → NumV W 1000000000 dd v2 → NumV W 1000000000 1 v3 → NumV W 1000000000 1 v4 → Calls Tryd.prog 25 #[.agg #[v1, v2], .agg #[v3, v4]] W fun e w' => e = .returned (.int .i64 z) ∧ Below W.heap.size W w'))  :
    Calls Tryd.prog 10 #[.agg #[.string n, .string d]] w fun e w' => (∃ u1 u2, e = .returned (.tuple #[.agg #[u1, u2], .int .i64 0]) ∧ NumV w' 1000000000 nn u1 ∧ NumV w' 1000000000 dd u2) ∧ Below w.heap.size w w' := by
  go_enter Tryd.func10, Tryd.ntmps10
  go_wp2_with fail
  obtain ⟨U1, hU1⟩ : ∃ X, X = ((w.alloc (.cells #[(.string n), (.string d)] 24)).alloc (.cells #[(.slice none 0 0), (.slice none 0 0)] 39)) := ⟨_, rfl⟩
  have Jx : Hid (IHolds U1 (w.heap.size) 24 [(.string n), (.string d)]) := by
    have q := IHolds.new w 24 [(.string n), (.string d)]
    show IHolds _ _ _ _
    rw [hU1]
    exact (q.alloc _)
  have Jr : Hid (IHolds U1 (w.heap.size + 1) 39 [(.slice none 0 0), (.slice none 0 0)]) := by
    have q := IHolds.new (w.alloc (.cells #[(.string n), (.string d)] 24)) 39 [(.slice none 0 0), (.slice none 0 0)]
    simp only [World.size_alloc, Nat.add_assoc, Nat.reduceAdd] at q
    show IHolds _ _ _ _
    rw [hU1]
    exact q
  have B : Hid (Below w.heap.size w U1) := by
    show Below _ _ _
    rw [hU1]
    exact (((Below.refl _ w).alloc (Nat.le_refl _) _).alloc (by simp only [World.size_alloc]; omega) _)
  rw [← hU1]
  clear hU1
  refine (C0.out U1).mono ?_
  rintro e U2 ⟨⟨x1, x2, rfl, hv, hv'⟩, hb⟩
  have Nx1 : Hid (NumV U2 1000000000 (nn) x1) := hv
  have Nx2 : Hid (NumV U2 1000000000 (dd) x2) := hv'
  clear hv hv'
  replace B := aB B hb
  replace Jx := aJ Jx hb
  replace Jr := aJ Jr hb
  clear hb
  have nr : Hid (w.heap.size + 1 < U2.heap.size) := Jr.out.lt
  obtain ⟨x1_a, x1_l, x1_c, rfl⟩ := sN Nx1
  obtain ⟨x2_a, x2_l, x2_c, rfl⟩ := sN Nx2
  have hb := nB U2 (.cells #[(.slice x1_a x1_l x1_c), (.slice x2_a x2_l x2_c)] 39)
  have Jl : Hid (IHolds (U2.alloc (.cells #[(.slice x1_a x1_l x1_c), (.slice x2_a x2_l x2_c)] 39)) U2.heap.size 39 [(.slice x1_a x1_l x1_c), (.slice x2_a x2_l x2_c)]) := IHolds.new _ _ _
  have ne_x_l := nJ Jx
  have ne_r_l := nJ Jr
  have ge_l : Hid (w.heap.size ≤ U2.heap.size) := B.out.size
  replace B := aB B hb
  replace Jx := aJ Jx hb
  replace Jr := aJ Jr hb
  replace Nx1 := aN Nx1 hb
  replace Nx2 := aN Nx2 hb
  clear hb
  go_wp2_with fail
  generalize (U2.alloc (.cells #[(.slice x1_a x1_l x1_c), (.slice x2_a x2_l x2_c)] 39)) = U3 at *
  generalize U2.heap.size = b4 at *
  have hb := dB U3
  replace B := aB B hb
  replace Jx := aJ Jx hb
  replace Jr := aJ Jr hb
  replace Jl := aJ Jl hb
  replace Nx1 := aN Nx1 hb
  replace Nx2 := aN Nx2 hb
  clear hb
  refine wp_region_held_drew (S := fun W => IHolds W (b4) 39 [(.slice x1_a x1_l x1_c), (.slice x2_a x2_l x2_c)]) (by kernel_rfl) Jl.out (fun hHeld1 => ?_)
  generalize U3.drew = U5 at *
  refine tk (i := 0) (v := .pointer (some ⟨b4, 0, none⟩)) rfl (by kernel_rfl) (fun _ _ _ h => h) rfl ?_ hHeld1 ?_
  · intro W hS; go_simp
  simp only [Act.put, y1, y2, y3, y4, y5, y6, y7]
  refine tk (i := 1) (v := (.slice x1_a x1_l x1_c)) rfl (by kernel_rfl) (fun _ _ _ h => h) rfl ?_ hHeld1 ?_
  · intro W hS; obtain ⟨zl_0, zl_1⟩ := c2 hS; go_simp
  simp only [Act.put, y1, y2, y3, y4, y5, y6, y7]
  refine wpAnyH_ready (rs := [2]) (by kernel_rfl) (by simp) ?_
  refine AllReadyH.cons rfl (fun K hK => ?_) AllReadyH.nil
  clear hHeld1
  go_simp
  refine (C24.out U5 _ Nx1.out).mono ?_
  rintro e U6 ⟨rfl, hb⟩
  replace B := aB B hb
  replace Jx := aJ Jx hb
  replace Jr := aJ Jr hb
  replace Jl := aJ Jl hb
  replace Nx1 := aN Nx1 hb
  replace Nx2 := aN Nx2 hb
  clear hb
  go_wp2_with fail
  refine hK.out _ _ (Jl.out) (fun hHeld2 => ?_)
  clear hK K
  try simp only [Act.put, y1, y2, y3, y4, y5, y6, y7]
  refine tk (i := 3) (v := .bool false) rfl (by kernel_rfl) (fun _ _ _ h => h) rfl ?_ hHeld2 ?_
  · intro W hS; go_simp
  simp only [Act.put, y1, y2, y3, y4, y5, y6, y7]
  refine tk (i := 4) (v := .agg #[(.slice x1_a x1_l x1_c), (.slice x2_a x2_l x2_c)]) rfl (by kernel_rfl) (fun _ _ _ h => h) rfl ?_ hHeld2 ?_
  · intro W hS; obtain ⟨zl_0, zl_1⟩ := c2 hS; go_simp
  simp only [Act.put, y1, y2, y3, y4, y5, y6, y7]
  refine wpAnyH_ready (rs := [5]) (by kernel_rfl) (by simp) ?_
  refine AllReadyH.cons rfl (fun K hK => ?_) AllReadyH.nil
  clear hHeld2
  go_simp
  refine (C26.out U6).mono ?_
  rintro e U7 ⟨⟨q1, q2, rfl, hv, hv'⟩, hb⟩
  have Nq1 : Hid (NumV U7 1000000000 (1) q1) := hv
  have Nq2 : Hid (NumV U7 1000000000 (1) q2) := hv'
  clear hv hv'
  replace B := aB B hb
  replace Jx := aJ Jx hb
  replace Jr := aJ Jr hb
  replace Jl := aJ Jl hb
  replace Nx1 := aN Nx1 hb
  replace Nx2 := aN Nx2 hb
  clear hb
  go_wp2_with fail
  refine hK.out _ _ (Jl.out) (fun hHeld3 => ?_)
  clear hK K
  try simp only [Act.put, y1, y2, y3, y4, y5, y6, y7]
  refine wpAnyH_ready (rs := [6]) (by kernel_rfl) (by simp) ?_
  refine AllReadyH.cons rfl (fun K hK => ?_) AllReadyH.nil
  clear hHeld3
  go_simp
  refine (C25.out U7 _ _ _ _ Nx1.out Nx2.out Nq1.out Nq2.out).mono ?_
  rintro e U8 ⟨rfl, hb⟩
  replace B := aB B hb
  replace Jx := aJ Jx hb
  replace Jr := aJ Jr hb
  replace Jl := aJ Jl hb
  replace Nx1 := aN Nx1 hb
  replace Nx2 := aN Nx2 hb
  replace Nq1 := aN Nq1 hb
  replace Nq2 := aN Nq2 hb
  clear hb
  go_wp2_with fail
  refine hK.out _ _ (Jl.out) (fun hHeld4 => ?_)
  clear hK K
  try simp only [Act.put, y1, y2, y3, y4, y5, y6, y7]
  refine tk (i := 7) (v := .bool false) rfl (by kernel_rfl) (fun _ _ _ h => h) rfl ?_ hHeld4 ?_
  · intro W hS; go_simp
  simp only [Act.put, y1, y2, y3, y4, y5, y6, y7]
  refine tk (i := 8) (v := .bool false) rfl (by kernel_rfl) (fun _ _ _ h => h) rfl ?_ hHeld4 ?_
  · intro W hS; go_simp
  simp only [Act.put, y1, y2, y3, y4, y5, y6, y7]
  refine tk (i := 9) (v := .bool false) rfl (by kernel_rfl) (fun _ _ _ h => h) rfl ?_ hHeld4 ?_
  · intro W hS; go_simp
  simp only [Act.put, y1, y2, y3, y4, y5, y6, y7]
  refine wpAnyH_done (by kernel_rfl) ?_ _
  clear hHeld4
  have Kl : Hid (IHolds U8 (b4) 39 [(.slice x1_a x1_l x1_c), (.slice x2_a x2_l x2_c)]) := Jl.out
  obtain ⟨zr_0, zr_1⟩ := cJ Jr
  have f0 := fJ Jr
  have hBut : But (w.heap.size + 1) U8 ((U8.setCell ⟨w.heap.size + 1, 0, none⟩ (.slice x1_a x1_l x1_c)).setCell ⟨w.heap.size + 1, 1, none⟩ (.slice x2_a x2_l x2_c)) := (((But.refl _ U8).setCell 0 (.slice x1_a x1_l x1_c)).setCell 1 (.slice x2_a x2_l x2_c))
  have I4 : Hid (IHolds _ (w.heap.size + 1) 39 [(.slice x1_a x1_l x1_c), (.slice x2_a x2_l x2_c)]) := ((Jr.out.set 0 (.slice x1_a x1_l x1_c)).set 1 (.slice x2_a x2_l x2_c))
  replace B : Hid (Below w.heap.size w ((U8.setCell ⟨w.heap.size + 1, 0, none⟩ (.slice x1_a x1_l x1_c)).setCell ⟨w.heap.size + 1, 1, none⟩ (.slice x2_a x2_l x2_c))) := ((B.out.setCell (by first | exact Nat.le_refl _ | exact ge_r.out | (show w.heap.size ≤ w.heap.size + 1; omega)) _).setCell (by first | exact Nat.le_refl _ | exact ge_r.out | (show w.heap.size ≤ w.heap.size + 1; omega)) _)
  replace Jx := tJ Jx hBut (by first | exact ne_x_r.out | exact fun h => ne_r_x.out h.symm | omega)
  replace Jl := tJ Jl hBut (by first | exact ne_l_r.out | exact fun h => ne_r_l.out h.symm | omega)
  replace Nx1 := tN Nx1 Jr (by simp) hBut
  replace Nx2 := tN Nx2 Jr (by simp) hBut
  replace Nq1 := tN Nq1 Jr (by simp) hBut
  replace Nq2 := tN Nq2 Jr (by simp) hBut
  replace Jr := I4
  clear I4 hBut
  obtain ⟨zl_0, zl_1⟩ := cJ Kl
  go_wp2_with fail
  clear zl_0 zl_1
  clear Kl
  clear zr_0 zr_1
  clear f0
  generalize ((U8.setCell ⟨w.heap.size + 1, 0, none⟩ (.slice x1_a x1_l x1_c)).setCell ⟨w.heap.size + 1, 1, none⟩ (.slice x2_a x2_l x2_c)) = U9 at *
  have E0 : Hid (U9.cell? ⟨w.heap.size + 1, 0, none⟩ = some ((.slice x1_a x1_l x1_c))) := IHolds.cell (l := [(.slice x1_a x1_l x1_c), (.slice x2_a x2_l x2_c)]) (t := 39) (b := w.heap.size + 1) (w := U9) Jr.out 0 (by simp)
  have E1 : Hid (U9.cell? ⟨w.heap.size + 1, 1, none⟩ = some ((.slice x2_a x2_l x2_c))) := IHolds.cell (l := [(.slice x1_a x1_l x1_c), (.slice x2_a x2_l x2_c)]) (t := 39) (b := w.heap.size + 1) (w := U9) Jr.out 1 (by simp)
  exact bodyPost_ret (v := .tuple #[.agg #[(.slice x1_a x1_l x1_c), (.slice x2_a x2_l x2_c)], .int .i64 0]) (by simp [results, Tryd.results10, go_sem, E0.out, E1.out]) rfl ⟨⟨_, _, rfl, Nx1.out, Nx2.out⟩, B.out⟩
end Go.Proofs.YtflabehlaiocaaaDoor
