/- The walk of readFraction. -/
import Derived.Test.YtnahindcgedbaabDoorReadL
set_option linter.unusedSimpArgs false
set_option linter.unusedVariables false
namespace Go.Proofs.YtnahindcgedbaabDoor
open Go.RowKit Go.Deep Go.PlainAid

set_option maxRecDepth 100000 in
set_option maxHeartbeats 4000000 in
theorem readFrac_wrong (n d : ByteArray) (w : World) (x : Nat) (hx : ((x : Int) != 0) = true) (CW : ∀ W a, IHolds W a 9 [.string n, .string d] → Calls Tryd.prog 31 #[.slice (some ⟨a, 0, none⟩) 2 2] W fun e w' => e = .returned (.int .i64 (x : Int)) ∧ w' = W)  :
    Calls Tryd.prog 14 #[.agg #[.string n, .string d]] w fun e w' => e = .returned (.tuple #[.agg #[.slice none 0 0, .slice none 0 0], .int .i64 (x : Int)]) ∧ Below w.heap.size w w' := by
  have HW : Hid _ := CW
  clear CW
  go_enter Tryd.func14, Tryd.ntmps14
  go_wp2_with fail
  obtain ⟨U1, hU1⟩ : ∃ X, X = (((w.alloc (.cells #[(.string n), (.string d)] 23)).alloc (.cells #[(.slice none 0 0), (.slice none 0 0)] 38)).alloc (.cells #[(.string n), (.string d)] 9)) := ⟨_, rfl⟩
  have Jx : Hid (IHolds U1 (w.heap.size) 23 [(.string n), (.string d)]) := by
    have q := IHolds.new w 23 [(.string n), (.string d)]
    show IHolds _ _ _ _
    rw [hU1]
    exact ((q.alloc _).alloc _)
  have Jr : Hid (IHolds U1 (w.heap.size + 1) 38 [(.slice none 0 0), (.slice none 0 0)]) := by
    have q := IHolds.new (w.alloc (.cells #[(.string n), (.string d)] 23)) 38 [(.slice none 0 0), (.slice none 0 0)]
    simp only [World.size_alloc, Nat.add_assoc, Nat.reduceAdd] at q
    show IHolds _ _ _ _
    rw [hU1]
    exact (q.alloc _)
  have Jt : Hid (IHolds U1 (w.heap.size + 2) 9 [(.string n), (.string d)]) := by
    have q := IHolds.new ((w.alloc (.cells #[(.string n), (.string d)] 23)).alloc (.cells #[(.slice none 0 0), (.slice none 0 0)] 38)) 9 [(.string n), (.string d)]
    simp only [World.size_alloc, Nat.add_assoc, Nat.reduceAdd] at q
    show IHolds _ _ _ _
    rw [hU1]
    exact q
  have B : Hid (Below w.heap.size w U1) := by
    show Below _ _ _
    rw [hU1]
    exact ((((Below.refl _ w).alloc (Nat.le_refl _) _).alloc (by simp only [World.size_alloc]; omega) _).alloc (by simp only [World.size_alloc]; omega) _)
  rw [← hU1]
  clear hU1
  refine (HW.out U1 _ Jt.out).mono ?_
  rintro e V0 ⟨rfl, rfl⟩
  obtain ⟨zr_0, zr_1⟩ := cJ Jr
  have f0 := fJ Jr
  have hBut : But (w.heap.size + 1) V0 ((V0.setCell ⟨w.heap.size + 1, 0, none⟩ (.slice none 0 0)).setCell ⟨w.heap.size + 1, 1, none⟩ (.slice none 0 0)) := (((But.refl _ V0).setCell 0 (.slice none 0 0)).setCell 1 (.slice none 0 0))
  have I4 : Hid (IHolds _ (w.heap.size + 1) 38 [(.slice none 0 0), (.slice none 0 0)]) := ((Jr.out.set 0 (.slice none 0 0)).set 1 (.slice none 0 0))
  replace B : Hid (Below w.heap.size w ((V0.setCell ⟨w.heap.size + 1, 0, none⟩ (.slice none 0 0)).setCell ⟨w.heap.size + 1, 1, none⟩ (.slice none 0 0))) := ((B.out.setCell (by first | exact Nat.le_refl _ | exact ge_r.out | (show w.heap.size ≤ w.heap.size + 1; omega)) _).setCell (by first | exact Nat.le_refl _ | exact ge_r.out | (show w.heap.size ≤ w.heap.size + 1; omega)) _)
  replace Jx := tJ Jx hBut (by omega)
  replace Jt := tJ Jt hBut (by omega)
  replace Jr := I4
  clear I4 hBut
  go_wp2_with fail
  clear zr_0 zr_1
  clear f0
  generalize ((V0.setCell ⟨w.heap.size + 1, 0, none⟩ (.slice none 0 0)).setCell ⟨w.heap.size + 1, 1, none⟩ (.slice none 0 0)) = U2 at *
  have E0 : Hid (U2.cell? ⟨w.heap.size + 1, 0, none⟩ = some ((.slice none 0 0))) := IHolds.cell (l := [(.slice none 0 0), (.slice none 0 0)]) (t := 38) (b := w.heap.size + 1) (w := U2) Jr.out 0 (by simp)
  have E1 : Hid (U2.cell? ⟨w.heap.size + 1, 1, none⟩ = some ((.slice none 0 0))) := IHolds.cell (l := [(.slice none 0 0), (.slice none 0 0)]) (t := 38) (b := w.heap.size + 1) (w := U2) Jr.out 1 (by simp)
  exact bodyPost_ret (v := .tuple #[.agg #[(.slice none 0 0), (.slice none 0 0)], .int .i64 (x : Int)]) (by simp [results, Tryd.results14, go_sem, E0.out, E1.out]) rfl ⟨rfl, B.out⟩
set_option maxRecDepth 100000 in
set_option maxHeartbeats 4000000 in
theorem readFrac_ok (n d : ByteArray) (w : World) (nn dd : Nat) (CW : ∀ W a, IHolds W a 9 [.string n, .string d] → Calls Tryd.prog 31 #[.slice (some ⟨a, 0, none⟩) 2 2] W fun e w' => e = .returned (.int .i64 (0 : Int)) ∧ w' = W) (C0 : Hid (∀ W, Calls Tryd.prog 32 #[.agg #[.string n, .string d]] W fun e w' => (∃ u1 u2, e = .returned (.tuple #[.agg #[u1, u2], .bool true]) ∧ NumV w' 1000000000 nn u1 ∧ NumV w' 1000000000 dd u2) ∧ Below W.heap.size W w'))  :
    Calls Tryd.prog 14 #[.agg #[.string n, .string d]] w fun e w' => (∃ u1 u2, e = .returned (.tuple #[.agg #[u1, u2], .int .i64 0]) ∧ NumV w' 1000000000 nn u1 ∧ NumV w' 1000000000 dd u2) ∧ Below w.heap.size w w' := by
  have HW : Hid _ := CW
  clear CW
  go_enter Tryd.func14, Tryd.ntmps14
  go_wp2_with fail
  obtain ⟨U1, hU1⟩ : ∃ X, X = (((w.alloc (.cells #[(.string n), (.string d)] 23)).alloc (.cells #[(.slice none 0 0), (.slice none 0 0)] 38)).alloc (.cells #[(.string n), (.string d)] 9)) := ⟨_, rfl⟩
  have Jx : Hid (IHolds U1 (w.heap.size) 23 [(.string n), (.string d)]) := by
    have q := IHolds.new w 23 [(.string n), (.string d)]
    show IHolds _ _ _ _
    rw [hU1]
    exact ((q.alloc _).alloc _)
  have Jr : Hid (IHolds U1 (w.heap.size + 1) 38 [(.slice none 0 0), (.slice none 0 0)]) := by
    have q := IHolds.new (w.alloc (.cells #[(.string n), (.string d)] 23)) 38 [(.slice none 0 0), (.slice none 0 0)]
    simp only [World.size_alloc, Nat.add_assoc, Nat.reduceAdd] at q
    show IHolds _ _ _ _
    rw [hU1]
    exact (q.alloc _)
  have Jt : Hid (IHolds U1 (w.heap.size + 2) 9 [(.string n), (.string d)]) := by
    have q := IHolds.new ((w.alloc (.cells #[(.string n), (.string d)] 23)).alloc (.cells #[(.slice none 0 0), (.slice none 0 0)] 38)) 9 [(.string n), (.string d)]
    simp only [World.size_alloc, Nat.add_assoc, Nat.reduceAdd] at q
    show IHolds _ _ _ _
    rw [hU1]
    exact q
  have B : Hid (Below w.heap.size w U1) := by
    show Below _ _ _
    rw [hU1]
    exact ((((Below.refl _ w).alloc (Nat.le_refl _) _).alloc (by simp only [World.size_alloc]; omega) _).alloc (by simp only [World.size_alloc]; omega) _)
  rw [← hU1]
  clear hU1
  refine (HW.out U1 _ Jt.out).mono ?_
  rintro e V0 ⟨rfl, rfl⟩
  obtain ⟨zx_0, zx_1⟩ := cJ Jx
  go_wp2_with fail
  clear zx_0 zx_1
  refine (C0.out V0).mono ?_
  rintro e U2 ⟨⟨x1, x2, rfl, hv, hv'⟩, hb⟩
  have Nx1 : Hid (NumV U2 1000000000 (nn) x1) := hv
  have Nx2 : Hid (NumV U2 1000000000 (dd) x2) := hv'
  clear hv hv'
  replace B := aB B hb
  replace Jx := aJ Jx hb
  replace Jr := aJ Jr hb
  replace Jt := aJ Jt hb
  clear hb
  have nr : Hid (w.heap.size + 1 < U2.heap.size) := Jr.out.lt
  obtain ⟨x1_a, x1_l, x1_c, rfl⟩ := sN Nx1
  obtain ⟨x2_a, x2_l, x2_c, rfl⟩ := sN Nx2
  have hb := nB U2 (.cells #[(.slice x1_a x1_l x1_c), (.slice x2_a x2_l x2_c)] 38)
  have Jl : Hid (IHolds (U2.alloc (.cells #[(.slice x1_a x1_l x1_c), (.slice x2_a x2_l x2_c)] 38)) U2.heap.size 38 [(.slice x1_a x1_l x1_c), (.slice x2_a x2_l x2_c)]) := IHolds.new _ _ _
  have ne_x_l := nJ Jx
  have ne_r_l := nJ Jr
  have ne_t_l := nJ Jt
  have ge_l : Hid (w.heap.size ≤ U2.heap.size) := B.out.size
  replace B := aB B hb
  replace Jx := aJ Jx hb
  replace Jr := aJ Jr hb
  replace Jt := aJ Jt hb
  replace Nx1 := aN Nx1 hb
  replace Nx2 := aN Nx2 hb
  clear hb
  obtain ⟨zr_0, zr_1⟩ := cJ Jr
  have f0 := fJ Jr
  have hBut : But (w.heap.size + 1) (U2.alloc (.cells #[(.slice x1_a x1_l x1_c), (.slice x2_a x2_l x2_c)] 38)) (((U2.alloc (.cells #[(.slice x1_a x1_l x1_c), (.slice x2_a x2_l x2_c)] 38)).setCell ⟨w.heap.size + 1, 0, none⟩ (.slice x1_a x1_l x1_c)).setCell ⟨w.heap.size + 1, 1, none⟩ (.slice x2_a x2_l x2_c)) := (((But.refl _ (U2.alloc (.cells #[(.slice x1_a x1_l x1_c), (.slice x2_a x2_l x2_c)] 38))).setCell 0 (.slice x1_a x1_l x1_c)).setCell 1 (.slice x2_a x2_l x2_c))
  have I4 : Hid (IHolds _ (w.heap.size + 1) 38 [(.slice x1_a x1_l x1_c), (.slice x2_a x2_l x2_c)]) := ((Jr.out.set 0 (.slice x1_a x1_l x1_c)).set 1 (.slice x2_a x2_l x2_c))
  replace B : Hid (Below w.heap.size w (((U2.alloc (.cells #[(.slice x1_a x1_l x1_c), (.slice x2_a x2_l x2_c)] 38)).setCell ⟨w.heap.size + 1, 0, none⟩ (.slice x1_a x1_l x1_c)).setCell ⟨w.heap.size + 1, 1, none⟩ (.slice x2_a x2_l x2_c))) := ((B.out.setCell (by first | exact Nat.le_refl _ | exact ge_r.out | (show w.heap.size ≤ w.heap.size + 1; omega)) _).setCell (by first | exact Nat.le_refl _ | exact ge_r.out | (show w.heap.size ≤ w.heap.size + 1; omega)) _)
  replace Jx := tJ Jx hBut (by first | exact ne_x_r.out | exact fun h => ne_r_x.out h.symm | omega)
  replace Jt := tJ Jt hBut (by first | exact ne_t_r.out | exact fun h => ne_r_t.out h.symm | omega)
  replace Jl := tJ Jl hBut (by first | exact ne_l_r.out | exact fun h => ne_r_l.out h.symm | omega)
  replace Nx1 := tN Nx1 Jr (by simp) hBut
  replace Nx2 := tN Nx2 Jr (by simp) hBut
  replace Jr := I4
  clear I4 hBut
  go_wp2_with fail
  clear zr_0 zr_1
  clear f0
  generalize (((U2.alloc (.cells #[(.slice x1_a x1_l x1_c), (.slice x2_a x2_l x2_c)] 38)).setCell ⟨w.heap.size + 1, 0, none⟩ (.slice x1_a x1_l x1_c)).setCell ⟨w.heap.size + 1, 1, none⟩ (.slice x2_a x2_l x2_c)) = U3 at *
  have E0 : Hid (U3.cell? ⟨w.heap.size + 1, 0, none⟩ = some ((.slice x1_a x1_l x1_c))) := IHolds.cell (l := [(.slice x1_a x1_l x1_c), (.slice x2_a x2_l x2_c)]) (t := 38) (b := w.heap.size + 1) (w := U3) Jr.out 0 (by simp)
  have E1 : Hid (U3.cell? ⟨w.heap.size + 1, 1, none⟩ = some ((.slice x2_a x2_l x2_c))) := IHolds.cell (l := [(.slice x1_a x1_l x1_c), (.slice x2_a x2_l x2_c)]) (t := 38) (b := w.heap.size + 1) (w := U3) Jr.out 1 (by simp)
  exact bodyPost_ret (v := .tuple #[.agg #[(.slice x1_a x1_l x1_c), (.slice x2_a x2_l x2_c)], .int .i64 0]) (by simp [results, Tryd.results14, go_sem, E0.out, E1.out]) rfl ⟨⟨_, _, rfl, Nx1.out, Nx2.out⟩, B.out⟩
set_option maxRecDepth 100000 in
set_option maxHeartbeats 4000000 in
theorem readFrac_no (n d : ByteArray) (w : World) (CW : ∀ W a, IHolds W a 9 [.string n, .string d] → Calls Tryd.prog 31 #[.slice (some ⟨a, 0, none⟩) 2 2] W fun e w' => e = .returned (.int .i64 (0 : Int)) ∧ w' = W) (C0 : Hid (∀ W, Calls Tryd.prog 32 #[.agg #[.string n, .string d]] W fun e w' => e = .returned (.tuple #[.agg #[.slice none 0 0, .slice none 0 0], .bool false]) ∧ Below W.heap.size W w'))  :
    Calls Tryd.prog 14 #[.agg #[.string n, .string d]] w fun e w' => e = .returned (.tuple #[.agg #[.slice none 0 0, .slice none 0 0], .int .i64 2]) ∧ Below w.heap.size w w' := by
  have HW : Hid _ := CW
  clear CW
  go_enter Tryd.func14, Tryd.ntmps14
  go_wp2_with fail
  obtain ⟨U1, hU1⟩ : ∃ X, X = (((w.alloc (.cells #[(.string n), (.string d)] 23)).alloc (.cells #[(.slice none 0 0), (.slice none 0 0)] 38)).alloc (.cells #[(.string n), (.string d)] 9)) := ⟨_, rfl⟩
  have Jx : Hid (IHolds U1 (w.heap.size) 23 [(.string n), (.string d)]) := by
    have q := IHolds.new w 23 [(.string n), (.string d)]
    show IHolds _ _ _ _
    rw [hU1]
    exact ((q.alloc _).alloc _)
  have Jr : Hid (IHolds U1 (w.heap.size + 1) 38 [(.slice none 0 0), (.slice none 0 0)]) := by
    have q := IHolds.new (w.alloc (.cells #[(.string n), (.string d)] 23)) 38 [(.slice none 0 0), (.slice none 0 0)]
    simp only [World.size_alloc, Nat.add_assoc, Nat.reduceAdd] at q
    show IHolds _ _ _ _
    rw [hU1]
    exact (q.alloc _)
  have Jt : Hid (IHolds U1 (w.heap.size + 2) 9 [(.string n), (.string d)]) := by
    have q := IHolds.new ((w.alloc (.cells #[(.string n), (.string d)] 23)).alloc (.cells #[(.slice none 0 0), (.slice none 0 0)] 38)) 9 [(.string n), (.string d)]
    simp only [World.size_alloc, Nat.add_assoc, Nat.reduceAdd] at q
    show IHolds _ _ _ _
    rw [hU1]
    exact q
  have B : Hid (Below w.heap.size w U1) := by
    show Below _ _ _
    rw [hU1]
    exact ((((Below.refl _ w).alloc (Nat.le_refl _) _).alloc (by simp only [World.size_alloc]; omega) _).alloc (by simp only [World.size_alloc]; omega) _)
  rw [← hU1]
  clear hU1
  refine (HW.out U1 _ Jt.out).mono ?_
  rintro e V0 ⟨rfl, rfl⟩
  obtain ⟨zx_0, zx_1⟩ := cJ Jx
  go_wp2_with fail
  clear zx_0 zx_1
  refine (C0.out V0).mono ?_
  rintro e U2 ⟨rfl, hb⟩
  replace B := aB B hb
  replace Jx := aJ Jx hb
  replace Jr := aJ Jr hb
  replace Jt := aJ Jt hb
  clear hb
  have nr : Hid (w.heap.size + 1 < U2.heap.size) := Jr.out.lt
  have hb := nB U2 (.cells #[(.slice none 0 0), (.slice none 0 0)] 38)
  have Jl : Hid (IHolds (U2.alloc (.cells #[(.slice none 0 0), (.slice none 0 0)] 38)) U2.heap.size 38 [(.slice none 0 0), (.slice none 0 0)]) := IHolds.new _ _ _
  have ne_x_l := nJ Jx
  have ne_r_l := nJ Jr
  have ne_t_l := nJ Jt
  have ge_l : Hid (w.heap.size ≤ U2.heap.size) := B.out.size
  replace B := aB B hb
  replace Jx := aJ Jx hb
  replace Jr := aJ Jr hb
  replace Jt := aJ Jt hb
  clear hb
  obtain ⟨zr_0, zr_1⟩ := cJ Jr
  have f0 := fJ Jr
  have hBut : But (w.heap.size + 1) (U2.alloc (.cells #[(.slice none 0 0), (.slice none 0 0)] 38)) (((U2.alloc (.cells #[(.slice none 0 0), (.slice none 0 0)] 38)).setCell ⟨w.heap.size + 1, 0, none⟩ (.slice none 0 0)).setCell ⟨w.heap.size + 1, 1, none⟩ (.slice none 0 0)) := (((But.refl _ (U2.alloc (.cells #[(.slice none 0 0), (.slice none 0 0)] 38))).setCell 0 (.slice none 0 0)).setCell 1 (.slice none 0 0))
  have I4 : Hid (IHolds _ (w.heap.size + 1) 38 [(.slice none 0 0), (.slice none 0 0)]) := ((Jr.out.set 0 (.slice none 0 0)).set 1 (.slice none 0 0))
  replace B : Hid (Below w.heap.size w (((U2.alloc (.cells #[(.slice none 0 0), (.slice none 0 0)] 38)).setCell ⟨w.heap.size + 1, 0, none⟩ (.slice none 0 0)).setCell ⟨w.heap.size + 1, 1, none⟩ (.slice none 0 0))) := ((B.out.setCell (by first | exact Nat.le_refl _ | exact ge_r.out | (show w.heap.size ≤ w.heap.size + 1; omega)) _).setCell (by first | exact Nat.le_refl _ | exact ge_r.out | (show w.heap.size ≤ w.heap.size + 1; omega)) _)
  replace Jx := tJ Jx hBut (by first | exact ne_x_r.out | exact fun h => ne_r_x.out h.symm | omega)
  replace Jt := tJ Jt hBut (by first | exact ne_t_r.out | exact fun h => ne_r_t.out h.symm | omega)
  replace Jl := tJ Jl hBut (by first | exact ne_l_r.out | exact fun h => ne_r_l.out h.symm | omega)
  replace Jr := I4
  clear I4 hBut
  go_wp2_with fail
  clear zr_0 zr_1
  clear f0
  generalize (((U2.alloc (.cells #[(.slice none 0 0), (.slice none 0 0)] 38)).setCell ⟨w.heap.size + 1, 0, none⟩ (.slice none 0 0)).setCell ⟨w.heap.size + 1, 1, none⟩ (.slice none 0 0)) = U3 at *
  have E0 : Hid (U3.cell? ⟨w.heap.size + 1, 0, none⟩ = some ((.slice none 0 0))) := IHolds.cell (l := [(.slice none 0 0), (.slice none 0 0)]) (t := 38) (b := w.heap.size + 1) (w := U3) Jr.out 0 (by simp)
  have E1 : Hid (U3.cell? ⟨w.heap.size + 1, 1, none⟩ = some ((.slice none 0 0))) := IHolds.cell (l := [(.slice none 0 0), (.slice none 0 0)]) (t := 38) (b := w.heap.size + 1) (w := U3) Jr.out 1 (by simp)
  exact bodyPost_ret (v := .tuple #[.agg #[(.slice none 0 0), (.slice none 0 0)], .int .i64 2]) (by simp [results, Tryd.results14, go_sem, E0.out, E1.out]) rfl ⟨rfl, B.out⟩
theorem wrL_two (n d : ByteArray) : (wrL [n, d] ≠ 0 → wrF n d = wrL [n, d]) ∧ (wrL [n, d] = 0 → isNum n.data.toList = true ∧ isNum d.data.toList = true ∧ n.size ≤ 4000 ∧ d.size ≤ 4000) := by
  simp only [wrL, wrF, List.all_cons, List.all_nil, Bool.and_true]
  cases h1 : isNum n.data.toList with
  | false => simp
  | true =>
    cases h2 : isNum d.data.toList with
    | false => simp
    | true =>
      by_cases h3 : n.size ≤ 4000
      · by_cases h4 : d.size ≤ 4000
        · simp [h3, h4]
        · simp [h3, h4]
      · simp [h3]
theorem wrong88 (n d : ByteArray) (W : World) (a : Nat) (h : IHolds W a 9 [.string n, .string d]) (hn : n.size ≤ 4611686018427387904) (hd : d.size ≤ 4611686018427387904) :
    Calls Tryd.prog 31 #[.slice (some ⟨a, 0, none⟩) 2 2] W fun e w' => e = .returned (.int .i64 (wrL [n, d] : Int)) ∧ w' = W := by
  have := wrong_any W (some ⟨a, 0, none⟩) 2 [n, d] (fun i hi => ⟨a, 0, rfl, by
    have : i = 0 ∨ i = 1 := by simp at hi; omega
    rcases this with rfl | rfl
    · exact h.two0
    · exact h.two1⟩) (by simp) (by
      intro s hs
      simp at hs
      rcases hs with rfl | rfl <;> omega)
  exact this
theorem readFrac_good (n d : ByteArray) (w : World) (h : wrF n d = 0) :
    Calls Tryd.prog 14 #[.agg #[.string n, .string d]] w fun e w' => (∃ u1 u2, e = .returned (.tuple #[.agg #[u1, u2], .int .i64 0]) ∧ NumV w' 1000000000 (bv n.data.toList) u1 ∧ NumV w' 1000000000 (bv d.data.toList) u2) ∧ Below w.heap.size w w' := by
  obtain ⟨h1, h2, h3, h4⟩ := wrF_zero h
  obtain ⟨a1, s1⟩ := wrT_zero h1
  obtain ⟨a2, s2⟩ := wrT_zero h2
  have b1 := dg_len_bv n h1
  have b2 := dg_len_bv d h2
  have hL : wrL [n, d] = 0 := by
    by_cases hx : wrL [n, d] = 0
    · exact hx
    · exact absurd ((wrL_two n d).1 hx) (by omega)
  exact readFrac_ok n d w _ _ (fun W a hW => by have := wrong88 n d W a hW (by omega) (by omega); rw [hL] at this; exact this) (fun W => read_good n d W a1 a2 (by omega) (by omega) h3 h4 (by omega) (by omega))
theorem readFrac_bad (n d : ByteArray) (w : World) (h : wrF n d ≠ 0) (hn : n.size ≤ 4611686018427387904) (hd : d.size ≤ 4611686018427387904) :
    Calls Tryd.prog 14 #[.agg #[.string n, .string d]] w fun e w' => e = .returned (.tuple #[.agg #[.slice none 0 0, .slice none 0 0], .int .i64 (wrF n d : Int)]) ∧ Below w.heap.size w w' := by
  by_cases hL : wrL [n, d] = 0
  · obtain ⟨a1, a2, s1, s2⟩ := (wrL_two n d).2 hL
    have b1 := dg_len_bv n (wrT_ok a1 (by omega))
    have b2 := dg_len_bv d (wrT_ok a2 (by omega))
    have e : wrF n d = 2 := by
      unfold wrF at h ⊢
      rw [if_neg (by simp [a1, a2]), if_neg (by omega)] at h ⊢
      split at h
      · rename_i h2; rw [if_pos h2]
      · exact absurd rfl h
    have h0 : bv d.data.toList = 0 ∨ Nat.gcd (bv n.data.toList) (bv d.data.toList) ≠ 1 := by
      by_cases hz : bv d.data.toList = 0
      · exact .inl hz
      · refine .inr fun hg => h ?_
        unfold wrF
        rw [if_neg (by simp [a1, a2]), if_neg (by omega), if_neg (by omega)]
    rw [e]
    exact readFrac_no n d w (fun W a hW => by have := wrong88 n d W a hW hn hd; rw [hL] at this; exact this) (fun W => read_bad n d W a1 a2 (by omega) (by omega) h0 (by omega) (by omega))
  · rw [(wrL_two n d).1 hL]
    exact readFrac_wrong n d w _ (bne_iff_ne.2 (by omega)) (fun W a hW => wrong88 n d W a hW hn hd)
end Go.Proofs.YtnahindcgedbaabDoor
