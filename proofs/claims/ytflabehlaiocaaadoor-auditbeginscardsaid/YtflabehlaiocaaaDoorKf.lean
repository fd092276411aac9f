/- Small, whole, readShort. What is no fraction; readShort of anything. -/
import Derived.Test.YtflabehlaiocaaaDoorKe
set_option linter.unusedSimpArgs false
set_option linter.unusedVariables false
namespace Go.Proofs.YtflabehlaiocaaaDoor
open Go.RowKit Go.Deep Go.PlainAid

set_option maxHeartbeats 1000000 in
theorem small29 (n : Nat) (hn : n < 1000000000) (w : World) : Calls Tryd.prog 29 #[.int .i64 (n : Int)] w fun e w' => (∃ v, e = .returned v ∧ NumV w' 1000000000 n v) ∧ Below w.heap.size w w' := by
  have H : Hid (Calls Tryd.prog 42 #[.slice (some ⟨w.heap.size, 0, none⟩) 1 1] (w.alloc (.cells #[.int .i64 (n : Int)] 2)) fun e w' => (∃ v, e = .returned v ∧ NumV (w.alloc (.cells #[.int .i64 (n : Int)] 2)) 1000000000 n v) ∧ w' = w.alloc (.cells #[.int .i64 (n : Int)] 2)) := by
    have q := trimmed_at (w.alloc (.cells #[.int .i64 (n : Int)] 2)) w.heap.size 1 1 2 [n] (IHolds.new w 2 [.int .i64 (n : Int)]) rfl (Nat.le_refl _) (fun d hd => by simp at hd; omega) (by omega)
    have e : vl 1000000000 [n] = n := by simp [vl]
    rw [e] at q
    exact q
  have B : Hid (Below w.heap.size w (w.alloc (.cells #[.int .i64 (n : Int)] 2))) := (Below.refl _ w).alloc (Nat.le_refl _) _
  go_enter Tryd.func29, Tryd.ntmps29
  generalize hW : w.alloc (.cells #[.int .i64 (n : Int)] 2) = W at *
  go_wp2_with fail
  refine (Calls.mono H.out) ?_
  rintro e V ⟨⟨v, rfl, hv⟩, rfl⟩
  have NV : Hid (NumV V 1000000000 n v) := hv
  clear hv H
  go_wp2_with fail
  go_ret
  exact ⟨⟨_, rfl, NV.out⟩, B.out⟩
set_option maxRecDepth 100000 in
set_option maxHeartbeats 4000000 in
theorem whole26_walk (m : Nat) (w : World) (C1 : Hid (∀ W, Calls Tryd.prog 29 #[.int .i64 (m : Int)] W fun e w' => (∃ v, e = .returned v ∧ NumV w' 1000000000 m v) ∧ Below W.heap.size W w')) (C2 : Hid (∀ W, Calls Tryd.prog 29 #[.int .i64 1] W fun e w' => (∃ v, e = .returned v ∧ NumV w' 1000000000 1 v) ∧ Below W.heap.size W w')) :
    Calls Tryd.prog 26 #[.int .i64 (m : Int)] w fun e w' => (∃ u1 u2, e = .returned (.agg #[u1, u2]) ∧ NumV w' 1000000000 m u1 ∧ NumV w' 1000000000 1 u2) ∧ Below w.heap.size w w' := by
  go_enter Tryd.func26, Tryd.ntmps26
  go_wp2_with fail
  obtain ⟨U1, hU1⟩ : ∃ X, X = (w.alloc (.cells #[(.slice none 0 0), (.slice none 0 0)] 39)) := ⟨_, rfl⟩
  have Jr : Hid (IHolds U1 (w.heap.size) 39 [(.slice none 0 0), (.slice none 0 0)]) := by
    have q := IHolds.new w 39 [(.slice none 0 0), (.slice none 0 0)]
    show IHolds _ _ _ _
    rw [hU1]
    exact q
  have B : Hid (Below w.heap.size w U1) := by
    show Below _ _ _
    rw [hU1]
    exact ((Below.refl _ w).alloc (Nat.le_refl _) _)
  rw [← hU1]
  clear hU1
  refine (C1.out U1).mono ?_
  rintro e U2 ⟨⟨x1, rfl, hv⟩, hb⟩
  have Nx1 : Hid (NumV U2 1000000000 (m) x1) := hv
  clear hv
  replace B := aB B hb
  replace Jr := aJ Jr hb
  clear hb
  go_wp2_with fail
  refine (C2.out U2).mono ?_
  rintro e U3 ⟨⟨x2, rfl, hv⟩, hb⟩
  have Nx2 : Hid (NumV U3 1000000000 (1) x2) := hv
  clear hv
  replace B := aB B hb
  replace Jr := aJ Jr hb
  replace Nx1 := aN Nx1 hb
  clear hb
  obtain ⟨x1_a, x1_l, x1_c, rfl⟩ := sN Nx1
  obtain ⟨x2_a, x2_l, x2_c, rfl⟩ := sN Nx2
  obtain ⟨zr_0, zr_1⟩ := cJ Jr
  have f0 := fJ Jr
  have hBut : But (w.heap.size) U3 ((U3.setCell ⟨w.heap.size, 0, none⟩ (.slice x1_a x1_l x1_c)).setCell ⟨w.heap.size, 1, none⟩ (.slice x2_a x2_l x2_c)) := (((But.refl _ U3).setCell 0 (.slice x1_a x1_l x1_c)).setCell 1 (.slice x2_a x2_l x2_c))
  have I4 : Hid (IHolds _ (w.heap.size) 39 [(.slice x1_a x1_l x1_c), (.slice x2_a x2_l x2_c)]) := ((Jr.out.set 0 (.slice x1_a x1_l x1_c)).set 1 (.slice x2_a x2_l x2_c))
  replace B : Hid (Below w.heap.size w ((U3.setCell ⟨w.heap.size, 0, none⟩ (.slice x1_a x1_l x1_c)).setCell ⟨w.heap.size, 1, none⟩ (.slice x2_a x2_l x2_c))) := ((B.out.setCell (by first | exact Nat.le_refl _ | exact ge_r.out | (show w.heap.size ≤ w.heap.size; omega)) _).setCell (by first | exact Nat.le_refl _ | exact ge_r.out | (show w.heap.size ≤ w.heap.size; omega)) _)
  replace Nx1 := tN Nx1 Jr (by simp) hBut
  replace Nx2 := tN Nx2 Jr (by simp) hBut
  replace Jr := I4
  clear I4 hBut
  go_wp2_with fail
  clear zr_0 zr_1
  clear f0
  generalize ((U3.setCell ⟨w.heap.size, 0, none⟩ (.slice x1_a x1_l x1_c)).setCell ⟨w.heap.size, 1, none⟩ (.slice x2_a x2_l x2_c)) = U4 at *
  have E0 : Hid (U4.cell? ⟨w.heap.size, 0, none⟩ = some ((.slice x1_a x1_l x1_c))) := IHolds.cell (l := [(.slice x1_a x1_l x1_c), (.slice x2_a x2_l x2_c)]) (t := 39) (b := w.heap.size) (w := U4) Jr.out 0 (by simp)
  have E1 : Hid (U4.cell? ⟨w.heap.size, 1, none⟩ = some ((.slice x2_a x2_l x2_c))) := IHolds.cell (l := [(.slice x1_a x1_l x1_c), (.slice x2_a x2_l x2_c)]) (t := 39) (b := w.heap.size) (w := U4) Jr.out 1 (by simp)
  exact bodyPost_ret (v := .agg #[(.slice x1_a x1_l x1_c), (.slice x2_a x2_l x2_c)]) (by simp [results, Tryd.results26, go_sem, E0.out, E1.out]) rfl ⟨⟨_, _, rfl, Nx1.out, Nx2.out⟩, B.out⟩
theorem whole26 (m : Nat) (hm : m < 1000000000) (w : World) :
    Calls Tryd.prog 26 #[.int .i64 (m : Int)] w fun e w' => (∃ u1 u2, e = .returned (.agg #[u1, u2]) ∧ NumV w' 1000000000 m u1 ∧ NumV w' 1000000000 1 u2) ∧ Below w.heap.size w w' :=
  whole26_walk m w (fun W => small29 m hm W) (fun W => small29 1 (by omega) W)
set_option maxRecDepth 100000 in
set_option maxHeartbeats 4000000 in
theorem short_long1 (n d : ByteArray) (w : World) (e1 : 100 < n.size) :
    Calls Tryd.prog 23 #[.agg #[.string n, .string d]] w fun e w' => e = .returned (.tuple #[.agg #[.slice none 0 0, .slice none 0 0], .bool false]) ∧ Below w.heap.size w w' := by
  go_enter Tryd.func23, Tryd.ntmps23
  go_wp2_with fail
  obtain ⟨U1, hU1⟩ : ∃ X, X = ((w.alloc (.cells #[(.string n), (.string d)] 24)).alloc (.cells #[(.slice none 0 0), (.slice none 0 0)] 39)) := ⟨_, rfl⟩
  have Jx : Hid (IHolds U1 (w.heap.size) 24 [(.string n), (.string d)]) := by
    have q := IHolds.new w 24 [(.string n), (.string d)]
    show IHolds _ _ _ _
    rw [hU1]
    exact (q.alloc _)
  have Jr : Hid (IHolds U1 (w.heap.size + 1) 39 [(.slice none 0 0), (.slice none 0 0)]) := by
    have q := IHolds.new (w.alloc (.cells #[(.string n), (.string d)] 24)) 39 [(.slice none 0 0), (.slice none 0 0)]
    simp only [World.size_alloc, Nat.add_assoc, Nat.reduceAdd] at q
    show IHolds _ _ _ _
    rw [hU1]
    exact q
  have B : Hid (Below w.heap.size w U1) := by
    show Below _ _ _
    rw [hU1]
    exact (((Below.refl _ w).alloc (Nat.le_refl _) _).alloc (by simp only [World.size_alloc]; omega) _)
  rw [← hU1]
  clear hU1
  have E0 : Hid (U1.cell? ⟨w.heap.size + 1, 0, none⟩ = some ((.slice none 0 0))) := IHolds.cell (l := [(.slice none 0 0), (.slice none 0 0)]) (t := 39) (b := w.heap.size + 1) (w := U1) Jr.out 0 (by simp)
  have E1 : Hid (U1.cell? ⟨w.heap.size + 1, 1, none⟩ = some ((.slice none 0 0))) := IHolds.cell (l := [(.slice none 0 0), (.slice none 0 0)]) (t := 39) (b := w.heap.size + 1) (w := U1) Jr.out 1 (by simp)
  exact bodyPost_ret (v := .tuple #[.agg #[(.slice none 0 0), (.slice none 0 0)], .bool false]) (by simp [results, Tryd.results23, go_sem, E0.out, E1.out]) rfl ⟨rfl, B.out⟩
set_option maxRecDepth 100000 in
set_option maxHeartbeats 4000000 in
theorem short_long2 (n d : ByteArray) (w : World) (e1 : ¬ 100 < n.size) (e2 : 100 < d.size) :
    Calls Tryd.prog 23 #[.agg #[.string n, .string d]] w fun e w' => e = .returned (.tuple #[.agg #[.slice none 0 0, .slice none 0 0], .bool false]) ∧ Below w.heap.size w w' := by
  go_enter Tryd.func23, Tryd.ntmps23
  go_wp2_with fail
  obtain ⟨U1, hU1⟩ : ∃ X, X = ((w.alloc (.cells #[(.string n), (.string d)] 24)).alloc (.cells #[(.slice none 0 0), (.slice none 0 0)] 39)) := ⟨_, rfl⟩
  have Jx : Hid (IHolds U1 (w.heap.size) 24 [(.string n), (.string d)]) := by
    have q := IHolds.new w 24 [(.string n), (.string d)]
    show IHolds _ _ _ _
    rw [hU1]
    exact (q.alloc _)
  have Jr : Hid (IHolds U1 (w.heap.size + 1) 39 [(.slice none 0 0), (.slice none 0 0)]) := by
    have q := IHolds.new (w.alloc (.cells #[(.string n), (.string d)] 24)) 39 [(.slice none 0 0), (.slice none 0 0)]
    simp only [World.size_alloc, Nat.add_assoc, Nat.reduceAdd] at q
    show IHolds _ _ _ _
    rw [hU1]
    exact q
  have B : Hid (Below w.heap.size w U1) := by
    show Below _ _ _
    rw [hU1]
    exact (((Below.refl _ w).alloc (Nat.le_refl _) _).alloc (by simp only [World.size_alloc]; omega) _)
  rw [← hU1]
  clear hU1
  have E0 : Hid (U1.cell? ⟨w.heap.size + 1, 0, none⟩ = some ((.slice none 0 0))) := IHolds.cell (l := [(.slice none 0 0), (.slice none 0 0)]) (t := 39) (b := w.heap.size + 1) (w := U1) Jr.out 0 (by simp)
  have E1 : Hid (U1.cell? ⟨w.heap.size + 1, 1, none⟩ = some ((.slice none 0 0))) := IHolds.cell (l := [(.slice none 0 0), (.slice none 0 0)]) (t := 39) (b := w.heap.size + 1) (w := U1) Jr.out 1 (by simp)
  exact bodyPost_ret (v := .tuple #[.agg #[(.slice none 0 0), (.slice none 0 0)], .bool false]) (by simp [results, Tryd.results23, go_sem, E0.out, E1.out]) rfl ⟨rfl, B.out⟩
set_option maxRecDepth 100000 in
set_option maxHeartbeats 4000000 in
theorem short_no (n d : ByteArray) (w : World) (e1 : ¬ 100 < n.size) (e2 : ¬ 100 < d.size) (C0 : Hid (∀ W, Calls Tryd.prog 37 #[.agg #[.string n, .string d]] W fun e w' => e = .returned (.tuple #[.agg #[.slice none 0 0, .slice none 0 0], .bool false]) ∧ Below W.heap.size W w')) :
    Calls Tryd.prog 23 #[.agg #[.string n, .string d]] w fun e w' => e = .returned (.tuple #[.agg #[.slice none 0 0, .slice none 0 0], .bool false]) ∧ Below w.heap.size w w' := by
  go_enter Tryd.func23, Tryd.ntmps23
  go_wp2_with fail
  obtain ⟨U1, hU1⟩ : ∃ X, X = ((w.alloc (.cells #[(.string n), (.string d)] 24)).alloc (.cells #[(.slice none 0 0), (.slice none 0 0)] 39)) := ⟨_, rfl⟩
  have Jx : Hid (IHolds U1 (w.heap.size) 24 [(.string n), (.string d)]) := by
    have q := IHolds.new w 24 [(.string n), (.string d)]
    show IHolds _ _ _ _
    rw [hU1]
    exact (q.alloc _)
  have Jr : Hid (IHolds U1 (w.heap.size + 1) 39 [(.slice none 0 0), (.slice none 0 0)]) := by
    have q := IHolds.new (w.alloc (.cells #[(.string n), (.string d)] 24)) 39 [(.slice none 0 0), (.slice none 0 0)]
    simp only [World.size_alloc, Nat.add_assoc, Nat.reduceAdd] at q
    show IHolds _ _ _ _
    rw [hU1]
    exact q
  have B : Hid (Below w.heap.size w U1) := by
    show Below _ _ _
    rw [hU1]
    exact (((Below.refl _ w).alloc (Nat.le_refl _) _).alloc (by simp only [World.size_alloc]; omega) _)
  rw [← hU1]
  clear hU1
  obtain ⟨zx_0, zx_1⟩ := cJ Jx
  go_wp2_with fail
  clear zx_0 zx_1
  refine (C0.out U1).mono ?_
  rintro e U2 ⟨rfl, hb⟩
  replace B := aB B hb
  replace Jx := aJ Jx hb
  replace Jr := aJ Jr hb
  clear hb
  obtain ⟨zr_0, zr_1⟩ := cJ Jr
  have f0 := fJ Jr
  have hBut : But (w.heap.size + 1) U2 ((U2.setCell ⟨w.heap.size + 1, 0, none⟩ (.slice none 0 0)).setCell ⟨w.heap.size + 1, 1, none⟩ (.slice none 0 0)) := (((But.refl _ U2).setCell 0 (.slice none 0 0)).setCell 1 (.slice none 0 0))
  have I4 : Hid (IHolds _ (w.heap.size + 1) 39 [(.slice none 0 0), (.slice none 0 0)]) := ((Jr.out.set 0 (.slice none 0 0)).set 1 (.slice none 0 0))
  replace B : Hid (Below w.heap.size w ((U2.setCell ⟨w.heap.size + 1, 0, none⟩ (.slice none 0 0)).setCell ⟨w.heap.size + 1, 1, none⟩ (.slice none 0 0))) := ((B.out.setCell (by first | exact Nat.le_refl _ | exact ge_r.out | (show w.heap.size ≤ w.heap.size + 1; omega)) _).setCell (by first | exact Nat.le_refl _ | exact ge_r.out | (show w.heap.size ≤ w.heap.size + 1; omega)) _)
  replace Jx := tJ Jx hBut (by omega)
  replace Jr := I4
  clear I4 hBut
  go_wp2_with fail
  clear zr_0 zr_1
  clear f0
  generalize ((U2.setCell ⟨w.heap.size + 1, 0, none⟩ (.slice none 0 0)).setCell ⟨w.heap.size + 1, 1, none⟩ (.slice none 0 0)) = U3 at *
  have E0 : Hid (U3.cell? ⟨w.heap.size + 1, 0, none⟩ = some ((.slice none 0 0))) := IHolds.cell (l := [(.slice none 0 0), (.slice none 0 0)]) (t := 39) (b := w.heap.size + 1) (w := U3) Jr.out 0 (by simp)
  have E1 : Hid (U3.cell? ⟨w.heap.size + 1, 1, none⟩ = some ((.slice none 0 0))) := IHolds.cell (l := [(.slice none 0 0), (.slice none 0 0)]) (t := 39) (b := w.heap.size + 1) (w := U3) Jr.out 1 (by simp)
  exact bodyPost_ret (v := .tuple #[.agg #[(.slice none 0 0), (.slice none 0 0)], .bool false]) (by simp [results, Tryd.results23, go_sem, E0.out, E1.out]) rfl ⟨rfl, B.out⟩
set_option maxRecDepth 100000 in
set_option maxHeartbeats 4000000 in
theorem short_ok (n d : ByteArray) (w : World) (nn dd : Nat) (e1 : ¬ 100 < n.size) (e2 : ¬ 100 < d.size) (C0 : Hid (∀ W, Calls Tryd.prog 37 #[.agg #[.string n, .string d]] W fun e w' => (∃ u1 u2, e = .returned (.tuple #[.agg #[u1, u2], .bool true]) ∧ NumV w' 1000000000 nn u1 ∧ NumV w' 1000000000 dd u2) ∧ Below W.heap.size W w')) :
    Calls Tryd.prog 23 #[.agg #[.string n, .string d]] w fun e w' => (∃ u1 u2, e = .returned (.tuple #[.agg #[u1, u2], .bool true]) ∧ NumV w' 1000000000 nn u1 ∧ NumV w' 1000000000 dd u2) ∧ Below w.heap.size w w' := by
  go_enter Tryd.func23, Tryd.ntmps23
  go_wp2_with fail
  obtain ⟨U1, hU1⟩ : ∃ X, X = ((w.alloc (.cells #[(.string n), (.string d)] 24)).alloc (.cells #[(.slice none 0 0), (.slice none 0 0)] 39)) := ⟨_, rfl⟩
  have Jx : Hid (IHolds U1 (w.heap.size) 24 [(.string n), (.string d)]) := by
    have q := IHolds.new w 24 [(.string n), (.string d)]
    show IHolds _ _ _ _
    rw [hU1]
    exact (q.alloc _)
  have Jr : Hid (IHolds U1 (w.heap.size + 1) 39 [(.slice none 0 0), (.slice none 0 0)]) := by
    have q := IHolds.new (w.alloc (.cells #[(.string n), (.string d)] 24)) 39 [(.slice none 0 0), (.slice none 0 0)]
    simp only [World.size_alloc, Nat.add_assoc, Nat.reduceAdd] at q
    show IHolds _ _ _ _
    rw [hU1]
    exact q
  have B : Hid (Below w.heap.size w U1) := by
    show Below _ _ _
    rw [hU1]
    exact (((Below.refl _ w).alloc (Nat.le_refl _) _).alloc (by simp only [World.size_alloc]; omega) _)
  rw [← hU1]
  clear hU1
  obtain ⟨zx_0, zx_1⟩ := cJ Jx
  go_wp2_with fail
  clear zx_0 zx_1
  refine (C0.out U1).mono ?_
  rintro e U2 ⟨⟨x1, x2, rfl, hv, hv'⟩, hb⟩
  have Nx1 : Hid (NumV U2 1000000000 (nn) x1) := hv
  have Nx2 : Hid (NumV U2 1000000000 (dd) x2) := hv'
  clear hv hv'
  replace B := aB B hb
  replace Jx := aJ Jx hb
  replace Jr := aJ Jr hb
  clear hb
  obtain ⟨x1_a, x1_l, x1_c, rfl⟩ := sN Nx1
  obtain ⟨x2_a, x2_l, x2_c, rfl⟩ := sN Nx2
  obtain ⟨zr_0, zr_1⟩ := cJ Jr
  have f0 := fJ Jr
  have hBut : But (w.heap.size + 1) U2 ((U2.setCell ⟨w.heap.size + 1, 0, none⟩ (.slice x1_a x1_l x1_c)).setCell ⟨w.heap.size + 1, 1, none⟩ (.slice x2_a x2_l x2_c)) := (((But.refl _ U2).setCell 0 (.slice x1_a x1_l x1_c)).setCell 1 (.slice x2_a x2_l x2_c))
  have I4 : Hid (IHolds _ (w.heap.size + 1) 39 [(.slice x1_a x1_l x1_c), (.slice x2_a x2_l x2_c)]) := ((Jr.out.set 0 (.slice x1_a x1_l x1_c)).set 1 (.slice x2_a x2_l x2_c))
  replace B : Hid (Below w.heap.size w ((U2.setCell ⟨w.heap.size + 1, 0, none⟩ (.slice x1_a x1_l x1_c)).setCell ⟨w.heap.size + 1, 1, none⟩ (.slice x2_a x2_l x2_c))) := ((B.out.setCell (by first | exact Nat.le_refl _ | exact ge_r.out | (show w.heap.size ≤ w.heap.size + 1; omega)) _).setCell (by first | exact Nat.le_refl _ | exact ge_r.out | (show w.heap.size ≤ w.heap.size + 1; omega)) _)
  replace Jx := tJ Jx hBut (by omega)
  replace Nx1 := tN Nx1 Jr (by simp) hBut
  replace Nx2 := tN Nx2 Jr (by simp) hBut
  replace Jr := I4
  clear I4 hBut
  go_wp2_with fail
  clear zr_0 zr_1
  clear f0
  generalize ((U2.setCell ⟨w.heap.size + 1, 0, none⟩ (.slice x1_a x1_l x1_c)).setCell ⟨w.heap.size + 1, 1, none⟩ (.slice x2_a x2_l x2_c)) = U3 at *
  have E0 : Hid (U3.cell? ⟨w.heap.size + 1, 0, none⟩ = some ((.slice x1_a x1_l x1_c))) := IHolds.cell (l := [(.slice x1_a x1_l x1_c), (.slice x2_a x2_l x2_c)]) (t := 39) (b := w.heap.size + 1) (w := U3) Jr.out 0 (by simp)
  have E1 : Hid (U3.cell? ⟨w.heap.size + 1, 1, none⟩ = some ((.slice x2_a x2_l x2_c))) := IHolds.cell (l := [(.slice x1_a x1_l x1_c), (.slice x2_a x2_l x2_c)]) (t := 39) (b := w.heap.size + 1) (w := U3) Jr.out 1 (by simp)
  exact bodyPost_ret (v := .tuple #[.agg #[(.slice x1_a x1_l x1_c), (.slice x2_a x2_l x2_c)], .bool true]) (by simp [results, Tryd.results23, go_sem, E0.out, E1.out]) rfl ⟨⟨_, _, rfl, Nx1.out, Nx2.out⟩, B.out⟩
end Go.Proofs.YtflabehlaiocaaaDoor
namespace Go.Proofs.YtflabehlaiocaaaDoor
open Go.RowKit Go.Deep Go.PlainAid

set_option maxRecDepth 100000 in
set_option maxHeartbeats 4000000 in
theorem terms_no_n (n d : ByteArray) (w : World) (In : Hid (∀ W, Calls Tryd.prog 62 #[.string n] W fun e w' => e = .returned (.bool false) ∧ w' = W))  :
    Calls Tryd.prog 50 #[.agg #[.string n, .string d]] w fun e w' => e = .returned (.tuple #[.agg #[.slice none 0 0, .slice none 0 0], .bool false]) ∧ Below w.heap.size w w' := by
  go_enter Tryd.func50, Tryd.ntmps50
  go_wp2_with fail
  obtain ⟨U1, hU1⟩ : ∃ X, X = ((w.alloc (.cells #[(.string n), (.string d)] 24)).alloc (.cells #[(.slice none 0 0), (.slice none 0 0)] 39)) := ⟨_, rfl⟩
  have Jx : Hid (IHolds U1 (w.heap.size) 24 [(.string n), (.string d)]) := by
    have q := IHolds.new w 24 [(.string n), (.string d)]
    show IHolds _ _ _ _
    rw [hU1]
    exact (q.alloc _)
  have Jr : Hid (IHolds U1 (w.heap.size + 1) 39 [(.slice none 0 0), (.slice none 0 0)]) := by
    have q := IHolds.new (w.alloc (.cells #[(.string n), (.string d)] 24)) 39 [(.slice none 0 0), (.slice none 0 0)]
    simp only [World.size_alloc, Nat.add_assoc, Nat.reduceAdd] at q
    show IHolds _ _ _ _
    rw [hU1]
    exact q
  have B : Hid (Below w.heap.size w U1) := by
    show Below _ _ _
    rw [hU1]
    exact (((Below.refl _ w).alloc (Nat.le_refl _) _).alloc (by simp only [World.size_alloc]; omega) _)
  rw [← hU1]
  clear hU1
  refine (In.out U1).mono ?_
  rintro e V0 ⟨rfl, rfl⟩
  have Kx : Hid (IHolds V0 (w.heap.size) 24 [(.string n), (.string d)]) := Jx.out
  obtain ⟨zr_0, zr_1⟩ := cJ Jr
  have f0 := fJ Jr
  have hBut : But (w.heap.size + 1) V0 ((V0.setCell ⟨w.heap.size + 1, 0, none⟩ (.slice none 0 0)).setCell ⟨w.heap.size + 1, 1, none⟩ (.slice none 0 0)) := (((But.refl _ V0).setCell 0 (.slice none 0 0)).setCell 1 (.slice none 0 0))
  have I4 : Hid (IHolds _ (w.heap.size + 1) 39 [(.slice none 0 0), (.slice none 0 0)]) := ((Jr.out.set 0 (.slice none 0 0)).set 1 (.slice none 0 0))
  replace B : Hid (Below w.heap.size w ((V0.setCell ⟨w.heap.size + 1, 0, none⟩ (.slice none 0 0)).setCell ⟨w.heap.size + 1, 1, none⟩ (.slice none 0 0))) := ((B.out.setCell (by first | exact Nat.le_refl _ | exact ge_r.out | (show w.heap.size ≤ w.heap.size + 1; omega)) _).setCell (by first | exact Nat.le_refl _ | exact ge_r.out | (show w.heap.size ≤ w.heap.size + 1; omega)) _)
  replace Jx := tJ Jx hBut (by omega)
  replace Jr := I4
  clear I4 hBut
  obtain ⟨zx_0, zx_1⟩ := cJ Kx
  go_wp2_with fail
  clear zx_0 zx_1
  clear Kx
  clear zr_0 zr_1
  clear f0
  generalize ((V0.setCell ⟨w.heap.size + 1, 0, none⟩ (.slice none 0 0)).setCell ⟨w.heap.size + 1, 1, none⟩ (.slice none 0 0)) = U2 at *
  have E0 : Hid (U2.cell? ⟨w.heap.size + 1, 0, none⟩ = some ((.slice none 0 0))) := IHolds.cell (l := [(.slice none 0 0), (.slice none 0 0)]) (t := 39) (b := w.heap.size + 1) (w := U2) Jr.out 0 (by simp)
  have E1 : Hid (U2.cell? ⟨w.heap.size + 1, 1, none⟩ = some ((.slice none 0 0))) := IHolds.cell (l := [(.slice none 0 0), (.slice none 0 0)]) (t := 39) (b := w.heap.size + 1) (w := U2) Jr.out 1 (by simp)
  exact bodyPost_ret (v := .tuple #[.agg #[(.slice none 0 0), (.slice none 0 0)], .bool false]) (by simp [results, Tryd.results50, go_sem, E0.out, E1.out]) rfl ⟨rfl, B.out⟩
set_option maxRecDepth 100000 in
set_option maxHeartbeats 4000000 in
theorem terms_no_d (n d : ByteArray) (w : World) (In : Hid (∀ W, Calls Tryd.prog 62 #[.string n] W fun e w' => e = .returned (.bool true) ∧ w' = W)) (Id : Hid (∀ W, Calls Tryd.prog 62 #[.string d] W fun e w' => e = .returned (.bool false) ∧ w' = W))  :
    Calls Tryd.prog 50 #[.agg #[.string n, .string d]] w fun e w' => e = .returned (.tuple #[.agg #[.slice none 0 0, .slice none 0 0], .bool false]) ∧ Below w.heap.size w w' := by
  go_enter Tryd.func50, Tryd.ntmps50
  go_wp2_with fail
  obtain ⟨U1, hU1⟩ : ∃ X, X = ((w.alloc (.cells #[(.string n), (.string d)] 24)).alloc (.cells #[(.slice none 0 0), (.slice none 0 0)] 39)) := ⟨_, rfl⟩
  have Jx : Hid (IHolds U1 (w.heap.size) 24 [(.string n), (.string d)]) := by
    have q := IHolds.new w 24 [(.string n), (.string d)]
    show IHolds _ _ _ _
    rw [hU1]
    exact (q.alloc _)
  have Jr : Hid (IHolds U1 (w.heap.size + 1) 39 [(.slice none 0 0), (.slice none 0 0)]) := by
    have q := IHolds.new (w.alloc (.cells #[(.string n), (.string d)] 24)) 39 [(.slice none 0 0), (.slice none 0 0)]
    simp only [World.size_alloc, Nat.add_assoc, Nat.reduceAdd] at q
    show IHolds _ _ _ _
    rw [hU1]
    exact q
  have B : Hid (Below w.heap.size w U1) := by
    show Below _ _ _
    rw [hU1]
    exact (((Below.refl _ w).alloc (Nat.le_refl _) _).alloc (by simp only [World.size_alloc]; omega) _)
  rw [← hU1]
  clear hU1
  refine (In.out U1).mono ?_
  rintro e V0 ⟨rfl, rfl⟩
  obtain ⟨zx_0, zx_1⟩ := cJ Jx
  go_wp2_with fail
  clear zx_0 zx_1
  refine (Id.out V0).mono ?_
  rintro e V1 ⟨rfl, rfl⟩
  have Kx : Hid (IHolds V1 (w.heap.size) 24 [(.string n), (.string d)]) := Jx.out
  obtain ⟨zr_0, zr_1⟩ := cJ Jr
  have f0 := fJ Jr
  have hBut : But (w.heap.size + 1) V1 ((V1.setCell ⟨w.heap.size + 1, 0, none⟩ (.slice none 0 0)).setCell ⟨w.heap.size + 1, 1, none⟩ (.slice none 0 0)) := (((But.refl _ V1).setCell 0 (.slice none 0 0)).setCell 1 (.slice none 0 0))
  have I4 : Hid (IHolds _ (w.heap.size + 1) 39 [(.slice none 0 0), (.slice none 0 0)]) := ((Jr.out.set 0 (.slice none 0 0)).set 1 (.slice none 0 0))
  replace B : Hid (Below w.heap.size w ((V1.setCell ⟨w.heap.size + 1, 0, none⟩ (.slice none 0 0)).setCell ⟨w.heap.size + 1, 1, none⟩ (.slice none 0 0))) := ((B.out.setCell (by first | exact Nat.le_refl _ | exact ge_r.out | (show w.heap.size ≤ w.heap.size + 1; omega)) _).setCell (by first | exact Nat.le_refl _ | exact ge_r.out | (show w.heap.size ≤ w.heap.size + 1; omega)) _)
  replace Jx := tJ Jx hBut (by omega)
  replace Jr := I4
  clear I4 hBut
  obtain ⟨zx_0, zx_1⟩ := cJ Kx
  go_wp2_with fail
  clear zx_0 zx_1
  clear Kx
  clear zr_0 zr_1
  clear f0
  generalize ((V1.setCell ⟨w.heap.size + 1, 0, none⟩ (.slice none 0 0)).setCell ⟨w.heap.size + 1, 1, none⟩ (.slice none 0 0)) = U2 at *
  have E0 : Hid (U2.cell? ⟨w.heap.size + 1, 0, none⟩ = some ((.slice none 0 0))) := IHolds.cell (l := [(.slice none 0 0), (.slice none 0 0)]) (t := 39) (b := w.heap.size + 1) (w := U2) Jr.out 0 (by simp)
  have E1 : Hid (U2.cell? ⟨w.heap.size + 1, 1, none⟩ = some ((.slice none 0 0))) := IHolds.cell (l := [(.slice none 0 0), (.slice none 0 0)]) (t := 39) (b := w.heap.size + 1) (w := U2) Jr.out 1 (by simp)
  exact bodyPost_ret (v := .tuple #[.agg #[(.slice none 0 0), (.slice none 0 0)], .bool false]) (by simp [results, Tryd.results50, go_sem, E0.out, E1.out]) rfl ⟨rfl, B.out⟩
/-- Is it a short fraction? -/
def rsB (n d : ByteArray) : Bool := decide (n.size ≤ 100) && (decide (d.size ≤ 100) && (isNum n.data.toList && (isNum d.data.toList && (decide (bv d.data.toList ≠ 0) && decide (Nat.gcd (bv n.data.toList) (bv d.data.toList) = 1)))))
theorem dg_short {n : ByteArray} (a : isNum n.data.toList = true) (h : n.size ≤ 100) : (dg 1000000000 (bv n.data.toList)).length ≤ 1000000 := by
  have := dg_len_bv n (wrT_ok a (by omega))
  omega
theorem short_yes (n d : ByteArray) (w : World) (h : rsB n d = true) :
    Calls Tryd.prog 23 #[.agg #[.string n, .string d]] w fun e w' => (∃ u1 u2, e = .returned (.tuple #[.agg #[u1, u2], .bool true]) ∧ NumV w' 1000000000 (bv n.data.toList) u1 ∧ NumV w' 1000000000 (bv d.data.toList) u2) ∧ Below w.heap.size w w' := by
  unfold rsB at h
  simp only [Bool.and_eq_true, decide_eq_true_eq] at h
  obtain ⟨h1, h2, a1, a2, h0, hg⟩ := h
  exact short_ok n d w _ _ (by omega) (by omega) (fun W => read_good n d W a1 a2 (by omega) (by omega) h0 hg (dg_short a1 h1) (dg_short a2 h2))
theorem short_not (n d : ByteArray) (w : World) (h : rsB n d = false) :
    Calls Tryd.prog 23 #[.agg #[.string n, .string d]] w fun e w' => e = .returned (.tuple #[.agg #[.slice none 0 0, .slice none 0 0], .bool false]) ∧ Below w.heap.size w w' := by
  by_cases h1 : 100 < n.size
  · exact short_long1 n d w h1
  by_cases h2 : 100 < d.size
  · exact short_long2 n d w h1 h2
  refine short_no n d w h1 h2 (fun W => ?_)
  cases a1 : isNum n.data.toList with
  | false => exact read_zero n d W (fun V => terms_no_n n d V (fun U => by have := isNumber_any n U (by omega); rw [a1] at this; exact this))
  | true =>
    cases a2 : isNum d.data.toList with
    | false => exact read_zero n d W (fun V => terms_no_d n d V (fun U => by have := isNumber_any n U (by omega); rw [a1] at this; exact this) (fun U => by have := isNumber_any d U (by omega); rw [a2] at this; exact this))
    | true =>
      refine read_bad n d W a1 a2 (by omega) (by omega) ?_ (dg_short a1 (by omega)) (dg_short a2 (by omega))
      by_cases h0 : bv d.data.toList = 0
      · exact .inl h0
      · refine .inr fun hg => ?_
        unfold rsB at h
        rw [a1, a2] at h
        simp [h0, hg] at h
        omega
end Go.Proofs.YtflabehlaiocaaaDoor
