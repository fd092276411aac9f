/- The walk of Lowest. -/
import Derived.Test.YtnahindcgedbaaaDoorFracClos
import Derived.Test.YtnahindcgedbaaaDoorHelp
set_option linter.unusedSimpArgs false
set_option linter.unusedVariables false
namespace Go.Proofs.YtnahindcgedbaaaDoor
open Go.RowKit Go.Deep Go.PlainAid

set_option maxRecDepth 100000 in
set_option maxHeartbeats 2000000 in
theorem lowC_zero {w : World} {p1 p2 : Value} (C0 : Hid (∀ W, Below w.heap.size w W → Calls Tryd.prog 66 #[p2] W fun e w' => e = .returned (.bool true) ∧ w' = W)) :
    Calls Tryd.prog 84 #[p1, p2] w fun e w' => e = .returned (.tuple #[.agg #[.string ⟨#[]⟩, .string ⟨#[]⟩], .int .i64 5]) ∧ Below w.heap.size w w' := by
  go_enter Tryd.func84, Tryd.ntmps84
  go_wp2_with fail
  obtain ⟨U1, hU1⟩ : ∃ X, X = (w.alloc (.cells #[(.string ⟨#[]⟩), (.string ⟨#[]⟩)] 41)) := ⟨_, rfl⟩
  have Jr : Hid (IHolds U1 (w.heap.size) 41 [(.string ⟨#[]⟩), (.string ⟨#[]⟩)]) := by
    have q := IHolds.new w 41 [(.string ⟨#[]⟩), (.string ⟨#[]⟩)]
    show IHolds _ _ _ _
    rw [hU1]
    exact q
  have B : Hid (Below w.heap.size w U1) := by
    show Below _ _ _
    rw [hU1]
    exact ((Below.refl _ w).alloc (Nat.le_refl _) _)
  rw [← hU1]
  clear hU1
  refine (C0.out U1 B.out).mono ?_
  rintro e V0 ⟨rfl, rfl⟩
  obtain ⟨zr_0, zr_1⟩ := cJ Jr
  have f0 := fJ Jr
  have hBut : But (w.heap.size) V0 ((V0.setCell ⟨w.heap.size, 0, none⟩ (.string ⟨#[]⟩)).setCell ⟨w.heap.size, 1, none⟩ (.string ⟨#[]⟩)) := (((But.refl _ V0).setCell 0 (.string ⟨#[]⟩)).setCell 1 (.string ⟨#[]⟩))
  have I4 : Hid (IHolds _ (w.heap.size) 41 [(.string ⟨#[]⟩), (.string ⟨#[]⟩)]) := ((Jr.out.set 0 (.string ⟨#[]⟩)).set 1 (.string ⟨#[]⟩))
  replace B : Hid (Below w.heap.size w ((V0.setCell ⟨w.heap.size, 0, none⟩ (.string ⟨#[]⟩)).setCell ⟨w.heap.size, 1, none⟩ (.string ⟨#[]⟩))) := ((B.out.setCell (by first | exact Nat.le_refl _ | exact ge_r.out | (show w.heap.size ≤ w.heap.size; omega)) _).setCell (by first | exact Nat.le_refl _ | exact ge_r.out | (show w.heap.size ≤ w.heap.size; omega)) _)
  replace Jr := I4
  clear I4 hBut
  go_wp2_with fail
  clear zr_0 zr_1
  clear f0
  generalize ((V0.setCell ⟨w.heap.size, 0, none⟩ (.string ⟨#[]⟩)).setCell ⟨w.heap.size, 1, none⟩ (.string ⟨#[]⟩)) = U2 at *
  have E0 : Hid (U2.cell? ⟨w.heap.size, 0, none⟩ = some ((.string ⟨#[]⟩))) := IHolds.cell (l := [(.string ⟨#[]⟩), (.string ⟨#[]⟩)]) (t := 41) (b := w.heap.size) (w := U2) Jr.out 0 (by simp)
  have E1 : Hid (U2.cell? ⟨w.heap.size, 1, none⟩ = some ((.string ⟨#[]⟩))) := IHolds.cell (l := [(.string ⟨#[]⟩), (.string ⟨#[]⟩)]) (t := 41) (b := w.heap.size) (w := U2) Jr.out 1 (by simp)
  exact bodyPost_ret (v := .tuple #[.agg #[(.string ⟨#[]⟩), (.string ⟨#[]⟩)], .int .i64 5]) (by simp [results, Tryd.results84, go_sem, E0.out, E1.out]) rfl ⟨rfl, B.out⟩
set_option maxRecDepth 100000 in
set_option maxHeartbeats 2000000 in
theorem lowC_any {w : World} {p1 p2 : Value} (C0 : Hid (∀ W, Below w.heap.size w W → Calls Tryd.prog 66 #[p2] W fun e w' => e = .returned (.bool false) ∧ w' = W)) (N D : Nat) (T1 T2 : ByteArray) (C1 : Hid (∀ W, Below w.heap.size w W → Calls Tryd.prog 85 #[p1, p2] W fun e w' => (∃ u1 u2, e = .returned (.agg #[u1, u2]) ∧ NumV w' 1000000000 N u1 ∧ NumV w' 1000000000 D u2) ∧ Below W.heap.size W w')) (C2 : Hid (∀ W u1 u2, NumV W 1000000000 N u1 → NumV W 1000000000 D u2 → Calls Tryd.prog 74 #[.agg #[u1, u2]] W fun e w' => e = .returned (.agg #[.string T1, .string T2]) ∧ Below W.heap.size W w')) :
    Calls Tryd.prog 84 #[p1, p2] w fun e w' => e = .returned (.tuple #[.agg #[.string T1, .string T2], .int .i64 0]) ∧ Below w.heap.size w w' := by
  go_enter Tryd.func84, Tryd.ntmps84
  go_wp2_with fail
  obtain ⟨U1, hU1⟩ : ∃ X, X = (w.alloc (.cells #[(.string ⟨#[]⟩), (.string ⟨#[]⟩)] 41)) := ⟨_, rfl⟩
  have Jr : Hid (IHolds U1 (w.heap.size) 41 [(.string ⟨#[]⟩), (.string ⟨#[]⟩)]) := by
    have q := IHolds.new w 41 [(.string ⟨#[]⟩), (.string ⟨#[]⟩)]
    show IHolds _ _ _ _
    rw [hU1]
    exact q
  have B : Hid (Below w.heap.size w U1) := by
    show Below _ _ _
    rw [hU1]
    exact ((Below.refl _ w).alloc (Nat.le_refl _) _)
  rw [← hU1]
  clear hU1
  refine (C0.out U1 B.out).mono ?_
  rintro e V0 ⟨rfl, rfl⟩
  go_wp2_with fail
  refine (C1.out V0 B.out).mono ?_
  rintro e U2 ⟨⟨u1, u2, rfl, hv, hv'⟩, hb⟩
  have Nu1 : Hid (NumV U2 1000000000 (N) u1) := hv
  have Nu2 : Hid (NumV U2 1000000000 (D) u2) := hv'
  clear hv hv'
  replace B := aB B hb
  replace Jr := aJ Jr hb
  clear hb
  go_wp2_with fail
  refine (C2.out U2 u1 u2 Nu1.out Nu2.out).mono ?_
  rintro e U3 ⟨rfl, hb⟩
  replace B := aB B hb
  replace Jr := aJ Jr hb
  replace Nu1 := aN Nu1 hb
  replace Nu2 := aN Nu2 hb
  clear hb
  obtain ⟨zr_0, zr_1⟩ := cJ Jr
  have f0 := fJ Jr
  have hBut : But (w.heap.size) U3 ((U3.setCell ⟨w.heap.size, 0, none⟩ (.string T1)).setCell ⟨w.heap.size, 1, none⟩ (.string T2)) := (((But.refl _ U3).setCell 0 (.string T1)).setCell 1 (.string T2))
  have I4 : Hid (IHolds _ (w.heap.size) 41 [(.string T1), (.string T2)]) := ((Jr.out.set 0 (.string T1)).set 1 (.string T2))
  replace B : Hid (Below w.heap.size w ((U3.setCell ⟨w.heap.size, 0, none⟩ (.string T1)).setCell ⟨w.heap.size, 1, none⟩ (.string T2))) := ((B.out.setCell (by first | exact Nat.le_refl _ | exact ge_r.out | (show w.heap.size ≤ w.heap.size; omega)) _).setCell (by first | exact Nat.le_refl _ | exact ge_r.out | (show w.heap.size ≤ w.heap.size; omega)) _)
  replace Nu1 := tN Nu1 Jr (by simp) hBut
  replace Nu2 := tN Nu2 Jr (by simp) hBut
  replace Jr := I4
  clear I4 hBut
  go_wp2_with fail
  clear zr_0 zr_1
  clear f0
  generalize ((U3.setCell ⟨w.heap.size, 0, none⟩ (.string T1)).setCell ⟨w.heap.size, 1, none⟩ (.string T2)) = U4 at *
  have E0 : Hid (U4.cell? ⟨w.heap.size, 0, none⟩ = some ((.string T1))) := IHolds.cell (l := [(.string T1), (.string T2)]) (t := 41) (b := w.heap.size) (w := U4) Jr.out 0 (by simp)
  have E1 : Hid (U4.cell? ⟨w.heap.size, 1, none⟩ = some ((.string T2))) := IHolds.cell (l := [(.string T1), (.string T2)]) (t := 41) (b := w.heap.size) (w := U4) Jr.out 1 (by simp)
  exact bodyPost_ret (v := .tuple #[.agg #[(.string T1), (.string T2)], .int .i64 0]) (by simp [results, Tryd.results84, go_sem, E0.out, E1.out]) rfl ⟨rfl, B.out⟩
set_option maxRecDepth 100000 in
set_option maxHeartbeats 2000000 in
theorem withTwo82_ok {a b : ByteArray} {A B1 : Nat} {w : World} (T1 T2 : ByteArray) (c : Int) (R1 : Hid (∀ W, Calls Tryd.prog 50 #[.string a] W fun e w' => (∃ v, e = .returned (.tuple #[v, .int .i64 0]) ∧ NumV w' 1000000000 A v) ∧ Below W.heap.size W w')) (R2 : Hid (∀ W, Calls Tryd.prog 50 #[.string b] W fun e w' => (∃ v, e = .returned (.tuple #[v, .int .i64 0]) ∧ NumV w' 1000000000 B1 v) ∧ Below W.heap.size W w')) (HF : Hid (∀ W p1 p2, NumV W 1000000000 A p1 → NumV W 1000000000 B1 p2 → Calls Tryd.prog 84 #[p1, p2] W fun e w' => e = .returned (.tuple #[.agg #[.string T1, .string T2], .int .i64 c]) ∧ Below W.heap.size W w')) :
    Calls Tryd.prog 83 #[.func (.func 50) #[] #[], .string a, .string b, .func (.func 84) #[] #[]] w fun e w' => e = .returned (.tuple #[.agg #[.string T1, .string T2], .int .i64 c]) ∧ Below w.heap.size w w' := by
  go_enter Tryd.func83, Tryd.ntmps83
  go_wp2_with fail
  obtain ⟨U1, hU1⟩ : ∃ X, X = ((w.alloc (.cells #[(.string ⟨#[]⟩), (.string ⟨#[]⟩)] 41)).alloc (.cells #[(.string ⟨#[]⟩), (.string ⟨#[]⟩)] 41)) := ⟨_, rfl⟩
  have Jr : Hid (IHolds U1 (w.heap.size) 41 [(.string ⟨#[]⟩), (.string ⟨#[]⟩)]) := by
    have q := IHolds.new w 41 [(.string ⟨#[]⟩), (.string ⟨#[]⟩)]
    show IHolds _ _ _ _
    rw [hU1]
    exact (q.alloc _)
  have Jo : Hid (IHolds U1 (w.heap.size + 1) 41 [(.string ⟨#[]⟩), (.string ⟨#[]⟩)]) := by
    have q := IHolds.new (w.alloc (.cells #[(.string ⟨#[]⟩), (.string ⟨#[]⟩)] 41)) 41 [(.string ⟨#[]⟩), (.string ⟨#[]⟩)]
    simp only [World.size_alloc, Nat.add_assoc, Nat.reduceAdd] at q
    show IHolds _ _ _ _
    rw [hU1]
    exact q
  have B : Hid (Below w.heap.size w U1) := by
    show Below _ _ _
    rw [hU1]
    exact (((Below.refl _ w).alloc (Nat.le_refl _) _).alloc (by simp only [World.size_alloc]; omega) _)
  rw [← hU1]
  clear hU1
  refine (R1.out U1).mono ?_
  rintro e U2 ⟨⟨p1, rfl, hv⟩, hb⟩
  have Np1 : Hid (NumV U2 1000000000 A p1) := hv
  clear hv
  replace B := aB B hb
  replace Jr := aJ Jr hb
  replace Jo := aJ Jo hb
  clear hb
  go_wp2_with fail
  refine (R2.out U2).mono ?_
  rintro e U3 ⟨⟨p2, rfl, hv⟩, hb⟩
  have Np2 : Hid (NumV U3 1000000000 B1 p2) := hv
  clear hv
  replace B := aB B hb
  replace Jr := aJ Jr hb
  replace Jo := aJ Jo hb
  replace Np1 := aN Np1 hb
  clear hb
  go_wp2_with fail
  refine (HF.out U3 _ _ Np1.out Np2.out).mono ?_
  rintro e U4 ⟨rfl, hb⟩
  replace B := aB B hb
  replace Jr := aJ Jr hb
  replace Jo := aJ Jo hb
  replace Np1 := aN Np1 hb
  replace Np2 := aN Np2 hb
  clear hb
  obtain ⟨zr_0, zr_1⟩ := cJ Jr
  have f0 := fJ Jr
  have hBut : But (w.heap.size) U4 ((U4.setCell ⟨w.heap.size, 0, none⟩ (.string T1)).setCell ⟨w.heap.size, 1, none⟩ (.string T2)) := (((But.refl _ U4).setCell 0 (.string T1)).setCell 1 (.string T2))
  have I4 : Hid (IHolds _ (w.heap.size) 41 [(.string T1), (.string T2)]) := ((Jr.out.set 0 (.string T1)).set 1 (.string T2))
  replace B : Hid (Below w.heap.size w ((U4.setCell ⟨w.heap.size, 0, none⟩ (.string T1)).setCell ⟨w.heap.size, 1, none⟩ (.string T2))) := ((B.out.setCell (by first | exact Nat.le_refl _ | exact ge_r.out | (show w.heap.size ≤ w.heap.size; omega)) _).setCell (by first | exact Nat.le_refl _ | exact ge_r.out | (show w.heap.size ≤ w.heap.size; omega)) _)
  replace Jo := tJ Jo hBut (by omega)
  replace Np1 := tN Np1 Jr (by simp) hBut
  replace Np2 := tN Np2 Jr (by simp) hBut
  replace Jr := I4
  clear I4 hBut
  go_wp2_with fail
  clear zr_0 zr_1
  clear f0
  generalize ((U4.setCell ⟨w.heap.size, 0, none⟩ (.string T1)).setCell ⟨w.heap.size, 1, none⟩ (.string T2)) = U5 at *
  have E0 : Hid (U5.cell? ⟨w.heap.size, 0, none⟩ = some ((.string T1))) := IHolds.cell (l := [(.string T1), (.string T2)]) (t := 41) (b := w.heap.size) (w := U5) Jr.out 0 (by simp)
  have E1 : Hid (U5.cell? ⟨w.heap.size, 1, none⟩ = some ((.string T2))) := IHolds.cell (l := [(.string T1), (.string T2)]) (t := 41) (b := w.heap.size) (w := U5) Jr.out 1 (by simp)
  exact bodyPost_ret (v := .tuple #[.agg #[(.string T1), (.string T2)], .int .i64 c]) (by simp [results, Tryd.results83, go_sem, E0.out, E1.out]) rfl ⟨rfl, B.out⟩
set_option maxRecDepth 100000 in
set_option maxHeartbeats 2000000 in
theorem withTwo82_bad1 {a b : ByteArray} {A : Nat} {w : World} (x : Nat) (hx : ((x : Int) != 0) = true) (R1 : Hid (∀ W, Calls Tryd.prog 50 #[.string a] W fun e w' => e = .returned (.tuple #[.slice none 0 0, .int .i64 (x : Int)]) ∧ Below W.heap.size W w')) :
    Calls Tryd.prog 83 #[.func (.func 50) #[] #[], .string a, .string b, .func (.func 84) #[] #[]] w fun e w' => e = .returned (.tuple #[.agg #[.string ⟨#[]⟩, .string ⟨#[]⟩], .int .i64 (x : Int)]) ∧ Below w.heap.size w w' := by
  go_enter Tryd.func83, Tryd.ntmps83
  go_wp2_with fail
  obtain ⟨U1, hU1⟩ : ∃ X, X = ((w.alloc (.cells #[(.string ⟨#[]⟩), (.string ⟨#[]⟩)] 41)).alloc (.cells #[(.string ⟨#[]⟩), (.string ⟨#[]⟩)] 41)) := ⟨_, rfl⟩
  have Jr : Hid (IHolds U1 (w.heap.size) 41 [(.string ⟨#[]⟩), (.string ⟨#[]⟩)]) := by
    have q := IHolds.new w 41 [(.string ⟨#[]⟩), (.string ⟨#[]⟩)]
    show IHolds _ _ _ _
    rw [hU1]
    exact (q.alloc _)
  have Jo : Hid (IHolds U1 (w.heap.size + 1) 41 [(.string ⟨#[]⟩), (.string ⟨#[]⟩)]) := by
    have q := IHolds.new (w.alloc (.cells #[(.string ⟨#[]⟩), (.string ⟨#[]⟩)] 41)) 41 [(.string ⟨#[]⟩), (.string ⟨#[]⟩)]
    simp only [World.size_alloc, Nat.add_assoc, Nat.reduceAdd] at q
    show IHolds _ _ _ _
    rw [hU1]
    exact q
  have B : Hid (Below w.heap.size w U1) := by
    show Below _ _ _
    rw [hU1]
    exact (((Below.refl _ w).alloc (Nat.le_refl _) _).alloc (by simp only [World.size_alloc]; omega) _)
  rw [← hU1]
  clear hU1
  refine (R1.out U1).mono ?_
  rintro e U2 ⟨rfl, hb⟩
  replace B := aB B hb
  replace Jr := aJ Jr hb
  replace Jo := aJ Jo hb
  clear hb
  have Ko : Hid (IHolds U2 (w.heap.size + 1) 41 [(.string ⟨#[]⟩), (.string ⟨#[]⟩)]) := Jo.out
  obtain ⟨zr_0, zr_1⟩ := cJ Jr
  have f0 := fJ Jr
  have hBut : But (w.heap.size) U2 ((U2.setCell ⟨w.heap.size, 0, none⟩ (.string ⟨#[]⟩)).setCell ⟨w.heap.size, 1, none⟩ (.string ⟨#[]⟩)) := (((But.refl _ U2).setCell 0 (.string ⟨#[]⟩)).setCell 1 (.string ⟨#[]⟩))
  have I4 : Hid (IHolds _ (w.heap.size) 41 [(.string ⟨#[]⟩), (.string ⟨#[]⟩)]) := ((Jr.out.set 0 (.string ⟨#[]⟩)).set 1 (.string ⟨#[]⟩))
  replace B : Hid (Below w.heap.size w ((U2.setCell ⟨w.heap.size, 0, none⟩ (.string ⟨#[]⟩)).setCell ⟨w.heap.size, 1, none⟩ (.string ⟨#[]⟩))) := ((B.out.setCell (by first | exact Nat.le_refl _ | exact ge_r.out | (show w.heap.size ≤ w.heap.size; omega)) _).setCell (by first | exact Nat.le_refl _ | exact ge_r.out | (show w.heap.size ≤ w.heap.size; omega)) _)
  replace Jo := tJ Jo hBut (by omega)
  replace Jr := I4
  clear I4 hBut
  obtain ⟨zo_0, zo_1⟩ := cJ Ko
  go_wp2_with fail
  clear zo_0 zo_1
  clear Ko
  clear zr_0 zr_1
  clear f0
  generalize ((U2.setCell ⟨w.heap.size, 0, none⟩ (.string ⟨#[]⟩)).setCell ⟨w.heap.size, 1, none⟩ (.string ⟨#[]⟩)) = U3 at *
  have E0 : Hid (U3.cell? ⟨w.heap.size, 0, none⟩ = some ((.string ⟨#[]⟩))) := IHolds.cell (l := [(.string ⟨#[]⟩), (.string ⟨#[]⟩)]) (t := 41) (b := w.heap.size) (w := U3) Jr.out 0 (by simp)
  have E1 : Hid (U3.cell? ⟨w.heap.size, 1, none⟩ = some ((.string ⟨#[]⟩))) := IHolds.cell (l := [(.string ⟨#[]⟩), (.string ⟨#[]⟩)]) (t := 41) (b := w.heap.size) (w := U3) Jr.out 1 (by simp)
  exact bodyPost_ret (v := .tuple #[.agg #[(.string ⟨#[]⟩), (.string ⟨#[]⟩)], .int .i64 (x : Int)]) (by simp [results, Tryd.results83, go_sem, E0.out, E1.out]) rfl ⟨rfl, B.out⟩
set_option maxRecDepth 100000 in
set_option maxHeartbeats 2000000 in
theorem withTwo82_bad2 {a b : ByteArray} {A : Nat} {w : World} (x : Nat) (hx : ((x : Int) != 0) = true) (R1 : Hid (∀ W, Calls Tryd.prog 50 #[.string a] W fun e w' => (∃ v, e = .returned (.tuple #[v, .int .i64 0]) ∧ NumV w' 1000000000 A v) ∧ Below W.heap.size W w')) (R2 : Hid (∀ W, Calls Tryd.prog 50 #[.string b] W fun e w' => e = .returned (.tuple #[.slice none 0 0, .int .i64 (x : Int)]) ∧ Below W.heap.size W w')) :
    Calls Tryd.prog 83 #[.func (.func 50) #[] #[], .string a, .string b, .func (.func 84) #[] #[]] w fun e w' => e = .returned (.tuple #[.agg #[.string ⟨#[]⟩, .string ⟨#[]⟩], .int .i64 (x : Int)]) ∧ Below w.heap.size w w' := by
  go_enter Tryd.func83, Tryd.ntmps83
  go_wp2_with fail
  obtain ⟨U1, hU1⟩ : ∃ X, X = ((w.alloc (.cells #[(.string ⟨#[]⟩), (.string ⟨#[]⟩)] 41)).alloc (.cells #[(.string ⟨#[]⟩), (.string ⟨#[]⟩)] 41)) := ⟨_, rfl⟩
  have Jr : Hid (IHolds U1 (w.heap.size) 41 [(.string ⟨#[]⟩), (.string ⟨#[]⟩)]) := by
    have q := IHolds.new w 41 [(.string ⟨#[]⟩), (.string ⟨#[]⟩)]
    show IHolds _ _ _ _
    rw [hU1]
    exact (q.alloc _)
  have Jo : Hid (IHolds U1 (w.heap.size + 1) 41 [(.string ⟨#[]⟩), (.string ⟨#[]⟩)]) := by
    have q := IHolds.new (w.alloc (.cells #[(.string ⟨#[]⟩), (.string ⟨#[]⟩)] 41)) 41 [(.string ⟨#[]⟩), (.string ⟨#[]⟩)]
    simp only [World.size_alloc, Nat.add_assoc, Nat.reduceAdd] at q
    show IHolds _ _ _ _
    rw [hU1]
    exact q
  have B : Hid (Below w.heap.size w U1) := by
    show Below _ _ _
    rw [hU1]
    exact (((Below.refl _ w).alloc (Nat.le_refl _) _).alloc (by simp only [World.size_alloc]; omega) _)
  rw [← hU1]
  clear hU1
  refine (R1.out U1).mono ?_
  rintro e U2 ⟨⟨p1, rfl, hv⟩, hb⟩
  have Np1 : Hid (NumV U2 1000000000 A p1) := hv
  clear hv
  replace B := aB B hb
  replace Jr := aJ Jr hb
  replace Jo := aJ Jo hb
  clear hb
  go_wp2_with fail
  refine (R2.out U2).mono ?_
  rintro e U3 ⟨rfl, hb⟩
  replace B := aB B hb
  replace Jr := aJ Jr hb
  replace Jo := aJ Jo hb
  replace Np1 := aN Np1 hb
  clear hb
  have Ko : Hid (IHolds U3 (w.heap.size + 1) 41 [(.string ⟨#[]⟩), (.string ⟨#[]⟩)]) := Jo.out
  obtain ⟨zr_0, zr_1⟩ := cJ Jr
  have f0 := fJ Jr
  have hBut : But (w.heap.size) U3 ((U3.setCell ⟨w.heap.size, 0, none⟩ (.string ⟨#[]⟩)).setCell ⟨w.heap.size, 1, none⟩ (.string ⟨#[]⟩)) := (((But.refl _ U3).setCell 0 (.string ⟨#[]⟩)).setCell 1 (.string ⟨#[]⟩))
  have I4 : Hid (IHolds _ (w.heap.size) 41 [(.string ⟨#[]⟩), (.string ⟨#[]⟩)]) := ((Jr.out.set 0 (.string ⟨#[]⟩)).set 1 (.string ⟨#[]⟩))
  replace B : Hid (Below w.heap.size w ((U3.setCell ⟨w.heap.size, 0, none⟩ (.string ⟨#[]⟩)).setCell ⟨w.heap.size, 1, none⟩ (.string ⟨#[]⟩))) := ((B.out.setCell (by first | exact Nat.le_refl _ | exact ge_r.out | (show w.heap.size ≤ w.heap.size; omega)) _).setCell (by first | exact Nat.le_refl _ | exact ge_r.out | (show w.heap.size ≤ w.heap.size; omega)) _)
  replace Jo := tJ Jo hBut (by omega)
  replace Np1 := tN Np1 Jr (by simp) hBut
  replace Jr := I4
  clear I4 hBut
  obtain ⟨zo_0, zo_1⟩ := cJ Ko
  go_wp2_with fail
  clear zo_0 zo_1
  clear Ko
  clear zr_0 zr_1
  clear f0
  generalize ((U3.setCell ⟨w.heap.size, 0, none⟩ (.string ⟨#[]⟩)).setCell ⟨w.heap.size, 1, none⟩ (.string ⟨#[]⟩)) = U4 at *
  have E0 : Hid (U4.cell? ⟨w.heap.size, 0, none⟩ = some ((.string ⟨#[]⟩))) := IHolds.cell (l := [(.string ⟨#[]⟩), (.string ⟨#[]⟩)]) (t := 41) (b := w.heap.size) (w := U4) Jr.out 0 (by simp)
  have E1 : Hid (U4.cell? ⟨w.heap.size, 1, none⟩ = some ((.string ⟨#[]⟩))) := IHolds.cell (l := [(.string ⟨#[]⟩), (.string ⟨#[]⟩)]) (t := 41) (b := w.heap.size) (w := U4) Jr.out 1 (by simp)
  exact bodyPost_ret (v := .tuple #[.agg #[(.string ⟨#[]⟩), (.string ⟨#[]⟩)], .int .i64 (x : Int)]) (by simp [results, Tryd.results83, go_sem, E0.out, E1.out]) rfl ⟨rfl, B.out⟩
set_option maxRecDepth 100000 in
set_option maxHeartbeats 2000000 in
theorem low_call {a b : ByteArray} {w : World} {T1 T2 : ByteArray} {c : Int} (H : Hid (∀ W, Calls Tryd.prog 83 #[.func (.func 50) #[] #[], .string a, .string b, .func (.func 84) #[] #[]] W fun e w' => e = .returned (.tuple #[.agg #[.string T1, .string T2], .int .i64 c]) ∧ Below W.heap.size W w')) :
    Calls Tryd.prog 39 #[.string a, .string b] w fun e w' => e = .returned (.tuple #[.agg #[.string T1, .string T2], .int .i64 c]) ∧ Below w.heap.size w w' := by
  go_enter Tryd.func39, Tryd.ntmps39
  go_wp2_with fail
  obtain ⟨U1, hU1⟩ : ∃ X, X = (w.alloc (.cells #[(.string ⟨#[]⟩), (.string ⟨#[]⟩)] 41)) := ⟨_, rfl⟩
  have Jr : Hid (IHolds U1 (w.heap.size) 41 [(.string ⟨#[]⟩), (.string ⟨#[]⟩)]) := by
    have q := IHolds.new w 41 [(.string ⟨#[]⟩), (.string ⟨#[]⟩)]
    show IHolds _ _ _ _
    rw [hU1]
    exact q
  have B : Hid (Below w.heap.size w U1) := by
    show Below _ _ _
    rw [hU1]
    exact ((Below.refl _ w).alloc (Nat.le_refl _) _)
  rw [← hU1]
  clear hU1
  refine (H.out U1).mono ?_
  rintro e U2 ⟨rfl, hb⟩
  replace B := aB B hb
  replace Jr := aJ Jr hb
  clear hb
  obtain ⟨zr_0, zr_1⟩ := cJ Jr
  have f0 := fJ Jr
  have hBut : But (w.heap.size) U2 ((U2.setCell ⟨w.heap.size, 0, none⟩ (.string T1)).setCell ⟨w.heap.size, 1, none⟩ (.string T2)) := (((But.refl _ U2).setCell 0 (.string T1)).setCell 1 (.string T2))
  have I4 : Hid (IHolds _ (w.heap.size) 41 [(.string T1), (.string T2)]) := ((Jr.out.set 0 (.string T1)).set 1 (.string T2))
  replace B : Hid (Below w.heap.size w ((U2.setCell ⟨w.heap.size, 0, none⟩ (.string T1)).setCell ⟨w.heap.size, 1, none⟩ (.string T2))) := ((B.out.setCell (by first | exact Nat.le_refl _ | exact ge_r.out | (show w.heap.size ≤ w.heap.size; omega)) _).setCell (by first | exact Nat.le_refl _ | exact ge_r.out | (show w.heap.size ≤ w.heap.size; omega)) _)
  replace Jr := I4
  clear I4 hBut
  go_wp2_with fail
  clear zr_0 zr_1
  clear f0
  generalize ((U2.setCell ⟨w.heap.size, 0, none⟩ (.string T1)).setCell ⟨w.heap.size, 1, none⟩ (.string T2)) = U3 at *
  have E0 : Hid (U3.cell? ⟨w.heap.size, 0, none⟩ = some ((.string T1))) := IHolds.cell (l := [(.string T1), (.string T2)]) (t := 41) (b := w.heap.size) (w := U3) Jr.out 0 (by simp)
  have E1 : Hid (U3.cell? ⟨w.heap.size, 1, none⟩ = some ((.string T2))) := IHolds.cell (l := [(.string T1), (.string T2)]) (t := 41) (b := w.heap.size) (w := U3) Jr.out 1 (by simp)
  exact bodyPost_ret (v := .tuple #[.agg #[(.string T1), (.string T2)], .int .i64 c]) (by simp [results, Tryd.results39, go_sem, E0.out, E1.out]) rfl ⟨rfl, B.out⟩

theorem low_bad {a b : ByteArray} {w : World} (h : wr2 a b ≠ 0) (ha : a.size ≤ 4611686018427387904) (hb : b.size ≤ 4611686018427387904) :
    Calls Tryd.prog 39 #[.string a, .string b] w fun e w' => e = .returned (.tuple #[.agg #[.string ⟨#[]⟩, .string ⟨#[]⟩], .int .i64 (wr2 a b : Int)]) ∧ Below w.heap.size w w' := by
  refine low_call (fun W => ?_)
  unfold wr2 at h ⊢
  by_cases h1 : wrT a = 0
  · simp only [h1, ne_eq, not_true_eq_false, if_false] at h ⊢
    exact withTwo82_bad2 _ (bne_iff_ne.2 (by omega)) (fun W => readNumber_ok a W h1) (fun W => readNumber_bad b W h hb)
  · simp only [h1, ne_eq, not_false_eq_true, if_true] at h ⊢
    exact withTwo82_bad1 (A := 0) _ (bne_iff_ne.2 (by omega)) (fun W => readNumber_bad a W h1 ha)
theorem low_zero {a b : ByteArray} {w : World} (ha : wrT a = 0) (hb : wrT b = 0) (h0 : bv b.data.toList = 0) :
    Calls Tryd.prog 39 #[.string a, .string b] w fun e w' => e = .returned (.tuple #[.agg #[.string ⟨#[]⟩, .string ⟨#[]⟩], .int .i64 5]) ∧ Below w.heap.size w w' :=
  low_call (fun W => withTwo82_ok _ _ 5 (fun W => readNumber_ok a W ha) (fun W => readNumber_ok b W hb) (fun W p1 p2 g1 g2 => lowC_zero (fun V hV => by
    have := isZeroV (g2.of_below hV)
    rw [h0] at this
    exact this)))
theorem low_ok {a b : ByteArray} {w : World} (ha : wrT a = 0) (hb : wrT b = 0) (h0 : bv b.data.toList ≠ 0) :
    Calls Tryd.prog 39 #[.string a, .string b] w fun e w' => e = .returned (.tuple #[.agg #[.string (T (bv a.data.toList / Nat.gcd (bv a.data.toList) (bv b.data.toList))), .string (T (bv b.data.toList / Nat.gcd (bv a.data.toList) (bv b.data.toList)))], .int .i64 0]) ∧ Below w.heap.size w w' := by
  have l1 := dg_len_bv a ha
  have l2 := dg_len_bv b hb
  refine low_call (fun W => withTwo82_ok _ _ 0 (fun W => readNumber_ok a W ha) (fun W => readNumber_ok b W hb) (fun W p1 p2 g1 g2 => lowC_any (fun V hV => ?_) _ _ _ _ (fun V hV => lowestV (g1.of_below hV) (g2.of_below hV) h0 (by omega) (by omega)) (fun V u1 u2 q1 q2 => fracV q1 q2 (Nat.le_trans (dg_len_mono bigBase (Nat.div_le_self _ _)) (by omega)) (Nat.le_trans (dg_len_mono bigBase (Nat.div_le_self _ _)) (by omega)))))
  have := isZeroV (g2.of_below hV)
  rw [beq_eq_false_iff_ne.2 h0] at this
  exact this
end Go.Proofs.YtnahindcgedbaaaDoor
