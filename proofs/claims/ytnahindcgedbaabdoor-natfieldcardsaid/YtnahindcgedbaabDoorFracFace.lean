/- The walks of Plus, Minus, Times, Over, Order. -/
import Derived.Test.YtnahindcgedbaabDoorTwoFrac
import Derived.Test.YtnahindcgedbaabDoorHelp
set_option linter.unusedSimpArgs false
set_option linter.unusedVariables false
namespace Go.Proofs.YtnahindcgedbaabDoor
open Go.RowKit Go.Deep Go.PlainAid

set_option maxRecDepth 100000 in
set_option maxHeartbeats 2000000 in
theorem plusFr_call {n1 d1 n2 d2 : ByteArray} {w : World} {T1 T2 : ByteArray} {c : Int}
    (H : Hid (∀ W, Calls Tryd.prog 13 #[.func (.func 14) #[] #[], .agg #[.string n1, .string d1], .agg #[.string n2, .string d2], .func (.func 29) #[] #[]] W fun e w' => e = .returned (.tuple #[.agg #[.string T1, .string T2], .int .i64 c]) ∧ Below W.heap.size W w')) :
    Calls Tryd.prog 12 #[.agg #[.string n1, .string d1], .agg #[.string n2, .string d2]] w fun e w' => e = .returned (.tuple #[.agg #[.string T1, .string T2], .int .i64 c]) ∧ Below w.heap.size w w' := by
  go_enter Tryd.func12, Tryd.ntmps12
  go_wp2_with fail
  obtain ⟨U1, hU1⟩ : ∃ X, X = (((w.alloc (.cells #[(.string n1), (.string d1)] 23)).alloc (.cells #[(.string n2), (.string d2)] 23)).alloc (.cells #[(.string ⟨#[]⟩), (.string ⟨#[]⟩)] 23)) := ⟨_, rfl⟩
  have Jx : Hid (IHolds U1 (w.heap.size) 23 [(.string n1), (.string d1)]) := by
    have q := IHolds.new w 23 [(.string n1), (.string d1)]
    show IHolds _ _ _ _
    rw [hU1]
    exact ((q.alloc _).alloc _)
  have Jy : Hid (IHolds U1 (w.heap.size + 1) 23 [(.string n2), (.string d2)]) := by
    have q := IHolds.new (w.alloc (.cells #[(.string n1), (.string d1)] 23)) 23 [(.string n2), (.string d2)]
    simp only [World.size_alloc, Nat.add_assoc, Nat.reduceAdd] at q
    show IHolds _ _ _ _
    rw [hU1]
    exact (q.alloc _)
  have Jr : Hid (IHolds U1 (w.heap.size + 2) 23 [(.string ⟨#[]⟩), (.string ⟨#[]⟩)]) := by
    have q := IHolds.new ((w.alloc (.cells #[(.string n1), (.string d1)] 23)).alloc (.cells #[(.string n2), (.string d2)] 23)) 23 [(.string ⟨#[]⟩), (.string ⟨#[]⟩)]
    simp only [World.size_alloc, Nat.add_assoc, Nat.reduceAdd] at q
    show IHolds _ _ _ _
    rw [hU1]
    exact q
  have B : Hid (Below w.heap.size w U1) := by
    show Below _ _ _
    rw [hU1]
    exact ((((Below.refl _ w).alloc (Nat.le_refl _) _).alloc (by simp only [World.size_alloc]; omega) _).alloc (by simp only [World.size_alloc]; omega) _)
  rw [← hU1]
  clear hU1
  refine (H.out U1).mono ?_
  rintro e U2 ⟨rfl, hb⟩
  replace B := aB B hb
  replace Jx := aJ Jx hb
  replace Jy := aJ Jy hb
  replace Jr := aJ Jr hb
  clear hb
  obtain ⟨zr_0, zr_1⟩ := cJ Jr
  have f0 := fJ Jr
  have hBut : But (w.heap.size + 2) U2 ((U2.setCell ⟨w.heap.size + 2, 0, none⟩ (.string T1)).setCell ⟨w.heap.size + 2, 1, none⟩ (.string T2)) := (((But.refl _ U2).setCell 0 (.string T1)).setCell 1 (.string T2))
  have I4 : Hid (IHolds _ (w.heap.size + 2) 23 [(.string T1), (.string T2)]) := ((Jr.out.set 0 (.string T1)).set 1 (.string T2))
  replace B : Hid (Below w.heap.size w ((U2.setCell ⟨w.heap.size + 2, 0, none⟩ (.string T1)).setCell ⟨w.heap.size + 2, 1, none⟩ (.string T2))) := ((B.out.setCell (by first | exact Nat.le_refl _ | exact ge_r.out | (show w.heap.size ≤ w.heap.size + 2; omega)) _).setCell (by first | exact Nat.le_refl _ | exact ge_r.out | (show w.heap.size ≤ w.heap.size + 2; omega)) _)
  replace Jx := tJ Jx hBut (by omega)
  replace Jy := tJ Jy hBut (by omega)
  replace Jr := I4
  clear I4 hBut
  go_wp2_with fail
  clear zr_0 zr_1
  clear f0
  generalize ((U2.setCell ⟨w.heap.size + 2, 0, none⟩ (.string T1)).setCell ⟨w.heap.size + 2, 1, none⟩ (.string T2)) = U3 at *
  have E0 : Hid (U3.cell? ⟨w.heap.size + 2, 0, none⟩ = some ((.string T1))) := IHolds.cell (l := [(.string T1), (.string T2)]) (t := 23) (b := w.heap.size + 2) (w := U3) Jr.out 0 (by simp)
  have E1 : Hid (U3.cell? ⟨w.heap.size + 2, 1, none⟩ = some ((.string T2))) := IHolds.cell (l := [(.string T1), (.string T2)]) (t := 23) (b := w.heap.size + 2) (w := U3) Jr.out 1 (by simp)
  exact bodyPost_ret (v := .tuple #[.agg #[(.string T1), (.string T2)], .int .i64 c]) (by simp [results, Tryd.results12, go_sem, E0.out, E1.out]) rfl ⟨rfl, B.out⟩
set_option maxRecDepth 100000 in
set_option maxHeartbeats 2000000 in
theorem timesFr_call {n1 d1 n2 d2 : ByteArray} {w : World} {T1 T2 : ByteArray} {c : Int}
    (H : Hid (∀ W, Calls Tryd.prog 13 #[.func (.func 14) #[] #[], .agg #[.string n1, .string d1], .agg #[.string n2, .string d2], .func (.func 28) #[] #[]] W fun e w' => e = .returned (.tuple #[.agg #[.string T1, .string T2], .int .i64 c]) ∧ Below W.heap.size W w')) :
    Calls Tryd.prog 11 #[.agg #[.string n1, .string d1], .agg #[.string n2, .string d2]] w fun e w' => e = .returned (.tuple #[.agg #[.string T1, .string T2], .int .i64 c]) ∧ Below w.heap.size w w' := by
  go_enter Tryd.func11, Tryd.ntmps11
  go_wp2_with fail
  obtain ⟨U1, hU1⟩ : ∃ X, X = (((w.alloc (.cells #[(.string n1), (.string d1)] 23)).alloc (.cells #[(.string n2), (.string d2)] 23)).alloc (.cells #[(.string ⟨#[]⟩), (.string ⟨#[]⟩)] 23)) := ⟨_, rfl⟩
  have Jx : Hid (IHolds U1 (w.heap.size) 23 [(.string n1), (.string d1)]) := by
    have q := IHolds.new w 23 [(.string n1), (.string d1)]
    show IHolds _ _ _ _
    rw [hU1]
    exact ((q.alloc _).alloc _)
  have Jy : Hid (IHolds U1 (w.heap.size + 1) 23 [(.string n2), (.string d2)]) := by
    have q := IHolds.new (w.alloc (.cells #[(.string n1), (.string d1)] 23)) 23 [(.string n2), (.string d2)]
    simp only [World.size_alloc, Nat.add_assoc, Nat.reduceAdd] at q
    show IHolds _ _ _ _
    rw [hU1]
    exact (q.alloc _)
  have Jr : Hid (IHolds U1 (w.heap.size + 2) 23 [(.string ⟨#[]⟩), (.string ⟨#[]⟩)]) := by
    have q := IHolds.new ((w.alloc (.cells #[(.string n1), (.string d1)] 23)).alloc (.cells #[(.string n2), (.string d2)] 23)) 23 [(.string ⟨#[]⟩), (.string ⟨#[]⟩)]
    simp only [World.size_alloc, Nat.add_assoc, Nat.reduceAdd] at q
    show IHolds _ _ _ _
    rw [hU1]
    exact q
  have B : Hid (Below w.heap.size w U1) := by
    show Below _ _ _
    rw [hU1]
    exact ((((Below.refl _ w).alloc (Nat.le_refl _) _).alloc (by simp only [World.size_alloc]; omega) _).alloc (by simp only [World.size_alloc]; omega) _)
  rw [← hU1]
  clear hU1
  refine (H.out U1).mono ?_
  rintro e U2 ⟨rfl, hb⟩
  replace B := aB B hb
  replace Jx := aJ Jx hb
  replace Jy := aJ Jy hb
  replace Jr := aJ Jr hb
  clear hb
  obtain ⟨zr_0, zr_1⟩ := cJ Jr
  have f0 := fJ Jr
  have hBut : But (w.heap.size + 2) U2 ((U2.setCell ⟨w.heap.size + 2, 0, none⟩ (.string T1)).setCell ⟨w.heap.size + 2, 1, none⟩ (.string T2)) := (((But.refl _ U2).setCell 0 (.string T1)).setCell 1 (.string T2))
  have I4 : Hid (IHolds _ (w.heap.size + 2) 23 [(.string T1), (.string T2)]) := ((Jr.out.set 0 (.string T1)).set 1 (.string T2))
  replace B : Hid (Below w.heap.size w ((U2.setCell ⟨w.heap.size + 2, 0, none⟩ (.string T1)).setCell ⟨w.heap.size + 2, 1, none⟩ (.string T2))) := ((B.out.setCell (by first | exact Nat.le_refl _ | exact ge_r.out | (show w.heap.size ≤ w.heap.size + 2; omega)) _).setCell (by first | exact Nat.le_refl _ | exact ge_r.out | (show w.heap.size ≤ w.heap.size + 2; omega)) _)
  replace Jx := tJ Jx hBut (by omega)
  replace Jy := tJ Jy hBut (by omega)
  replace Jr := I4
  clear I4 hBut
  go_wp2_with fail
  clear zr_0 zr_1
  clear f0
  generalize ((U2.setCell ⟨w.heap.size + 2, 0, none⟩ (.string T1)).setCell ⟨w.heap.size + 2, 1, none⟩ (.string T2)) = U3 at *
  have E0 : Hid (U3.cell? ⟨w.heap.size + 2, 0, none⟩ = some ((.string T1))) := IHolds.cell (l := [(.string T1), (.string T2)]) (t := 23) (b := w.heap.size + 2) (w := U3) Jr.out 0 (by simp)
  have E1 : Hid (U3.cell? ⟨w.heap.size + 2, 1, none⟩ = some ((.string T2))) := IHolds.cell (l := [(.string T1), (.string T2)]) (t := 23) (b := w.heap.size + 2) (w := U3) Jr.out 1 (by simp)
  exact bodyPost_ret (v := .tuple #[.agg #[(.string T1), (.string T2)], .int .i64 c]) (by simp [results, Tryd.results11, go_sem, E0.out, E1.out]) rfl ⟨rfl, B.out⟩
set_option maxRecDepth 100000 in
set_option maxHeartbeats 2000000 in
theorem minusFr_call {n1 d1 n2 d2 : ByteArray} {w : World} {T1 T2 : ByteArray} {c : Int}
    (H : Hid (∀ W, Calls Tryd.prog 13 #[.func (.func 14) #[] #[], .agg #[.string n1, .string d1], .agg #[.string n2, .string d2], .func (.func 15) #[] #[]] W fun e w' => e = .returned (.tuple #[.agg #[.string T1, .string T2], .int .i64 c]) ∧ Below W.heap.size W w')) :
    Calls Tryd.prog 7 #[.agg #[.string n1, .string d1], .agg #[.string n2, .string d2]] w fun e w' => e = .returned (.tuple #[.agg #[.string T1, .string T2], .int .i64 c]) ∧ Below w.heap.size w w' := by
  go_enter Tryd.func7, Tryd.ntmps7
  go_wp2_with fail
  obtain ⟨U1, hU1⟩ : ∃ X, X = (((w.alloc (.cells #[(.string n1), (.string d1)] 23)).alloc (.cells #[(.string n2), (.string d2)] 23)).alloc (.cells #[(.string ⟨#[]⟩), (.string ⟨#[]⟩)] 23)) := ⟨_, rfl⟩
  have Jx : Hid (IHolds U1 (w.heap.size) 23 [(.string n1), (.string d1)]) := by
    have q := IHolds.new w 23 [(.string n1), (.string d1)]
    show IHolds _ _ _ _
    rw [hU1]
    exact ((q.alloc _).alloc _)
  have Jy : Hid (IHolds U1 (w.heap.size + 1) 23 [(.string n2), (.string d2)]) := by
    have q := IHolds.new (w.alloc (.cells #[(.string n1), (.string d1)] 23)) 23 [(.string n2), (.string d2)]
    simp only [World.size_alloc, Nat.add_assoc, Nat.reduceAdd] at q
    show IHolds _ _ _ _
    rw [hU1]
    exact (q.alloc _)
  have Jr : Hid (IHolds U1 (w.heap.size + 2) 23 [(.string ⟨#[]⟩), (.string ⟨#[]⟩)]) := by
    have q := IHolds.new ((w.alloc (.cells #[(.string n1), (.string d1)] 23)).alloc (.cells #[(.string n2), (.string d2)] 23)) 23 [(.string ⟨#[]⟩), (.string ⟨#[]⟩)]
    simp only [World.size_alloc, Nat.add_assoc, Nat.reduceAdd] at q
    show IHolds _ _ _ _
    rw [hU1]
    exact q
  have B : Hid (Below w.heap.size w U1) := by
    show Below _ _ _
    rw [hU1]
    exact ((((Below.refl _ w).alloc (Nat.le_refl _) _).alloc (by simp only [World.size_alloc]; omega) _).alloc (by simp only [World.size_alloc]; omega) _)
  rw [← hU1]
  clear hU1
  refine (H.out U1).mono ?_
  rintro e U2 ⟨rfl, hb⟩
  replace B := aB B hb
  replace Jx := aJ Jx hb
  replace Jy := aJ Jy hb
  replace Jr := aJ Jr hb
  clear hb
  obtain ⟨zr_0, zr_1⟩ := cJ Jr
  have f0 := fJ Jr
  have hBut : But (w.heap.size + 2) U2 ((U2.setCell ⟨w.heap.size + 2, 0, none⟩ (.string T1)).setCell ⟨w.heap.size + 2, 1, none⟩ (.string T2)) := (((But.refl _ U2).setCell 0 (.string T1)).setCell 1 (.string T2))
  have I4 : Hid (IHolds _ (w.heap.size + 2) 23 [(.string T1), (.string T2)]) := ((Jr.out.set 0 (.string T1)).set 1 (.string T2))
  replace B : Hid (Below w.heap.size w ((U2.setCell ⟨w.heap.size + 2, 0, none⟩ (.string T1)).setCell ⟨w.heap.size + 2, 1, none⟩ (.string T2))) := ((B.out.setCell (by first | exact Nat.le_refl _ | exact ge_r.out | (show w.heap.size ≤ w.heap.size + 2; omega)) _).setCell (by first | exact Nat.le_refl _ | exact ge_r.out | (show w.heap.size ≤ w.heap.size + 2; omega)) _)
  replace Jx := tJ Jx hBut (by omega)
  replace Jy := tJ Jy hBut (by omega)
  replace Jr := I4
  clear I4 hBut
  go_wp2_with fail
  clear zr_0 zr_1
  clear f0
  generalize ((U2.setCell ⟨w.heap.size + 2, 0, none⟩ (.string T1)).setCell ⟨w.heap.size + 2, 1, none⟩ (.string T2)) = U3 at *
  have E0 : Hid (U3.cell? ⟨w.heap.size + 2, 0, none⟩ = some ((.string T1))) := IHolds.cell (l := [(.string T1), (.string T2)]) (t := 23) (b := w.heap.size + 2) (w := U3) Jr.out 0 (by simp)
  have E1 : Hid (U3.cell? ⟨w.heap.size + 2, 1, none⟩ = some ((.string T2))) := IHolds.cell (l := [(.string T1), (.string T2)]) (t := 23) (b := w.heap.size + 2) (w := U3) Jr.out 1 (by simp)
  exact bodyPost_ret (v := .tuple #[.agg #[(.string T1), (.string T2)], .int .i64 c]) (by simp [results, Tryd.results7, go_sem, E0.out, E1.out]) rfl ⟨rfl, B.out⟩
set_option maxRecDepth 100000 in
set_option maxHeartbeats 2000000 in
theorem overFr_call {n1 d1 n2 d2 : ByteArray} {w : World} {T1 T2 : ByteArray} {c : Int}
    (H : Hid (∀ W, Calls Tryd.prog 13 #[.func (.func 14) #[] #[], .agg #[.string n1, .string d1], .agg #[.string n2, .string d2], .func (.func 19) #[] #[]] W fun e w' => e = .returned (.tuple #[.agg #[.string T1, .string T2], .int .i64 c]) ∧ Below W.heap.size W w')) :
    Calls Tryd.prog 8 #[.agg #[.string n1, .string d1], .agg #[.string n2, .string d2]] w fun e w' => e = .returned (.tuple #[.agg #[.string T1, .string T2], .int .i64 c]) ∧ Below w.heap.size w w' := by
  go_enter Tryd.func8, Tryd.ntmps8
  go_wp2_with fail
  obtain ⟨U1, hU1⟩ : ∃ X, X = (((w.alloc (.cells #[(.string n1), (.string d1)] 23)).alloc (.cells #[(.string n2), (.string d2)] 23)).alloc (.cells #[(.string ⟨#[]⟩), (.string ⟨#[]⟩)] 23)) := ⟨_, rfl⟩
  have Jx : Hid (IHolds U1 (w.heap.size) 23 [(.string n1), (.string d1)]) := by
    have q := IHolds.new w 23 [(.string n1), (.string d1)]
    show IHolds _ _ _ _
    rw [hU1]
    exact ((q.alloc _).alloc _)
  have Jy : Hid (IHolds U1 (w.heap.size + 1) 23 [(.string n2), (.string d2)]) := by
    have q := IHolds.new (w.alloc (.cells #[(.string n1), (.string d1)] 23)) 23 [(.string n2), (.string d2)]
    simp only [World.size_alloc, Nat.add_assoc, Nat.reduceAdd] at q
    show IHolds _ _ _ _
    rw [hU1]
    exact (q.alloc _)
  have Jr : Hid (IHolds U1 (w.heap.size + 2) 23 [(.string ⟨#[]⟩), (.string ⟨#[]⟩)]) := by
    have q := IHolds.new ((w.alloc (.cells #[(.string n1), (.string d1)] 23)).alloc (.cells #[(.string n2), (.string d2)] 23)) 23 [(.string ⟨#[]⟩), (.string ⟨#[]⟩)]
    simp only [World.size_alloc, Nat.add_assoc, Nat.reduceAdd] at q
    show IHolds _ _ _ _
    rw [hU1]
    exact q
  have B : Hid (Below w.heap.size w U1) := by
    show Below _ _ _
    rw [hU1]
    exact ((((Below.refl _ w).alloc (Nat.le_refl _) _).alloc (by simp only [World.size_alloc]; omega) _).alloc (by simp only [World.size_alloc]; omega) _)
  rw [← hU1]
  clear hU1
  refine (H.out U1).mono ?_
  rintro e U2 ⟨rfl, hb⟩
  replace B := aB B hb
  replace Jx := aJ Jx hb
  replace Jy := aJ Jy hb
  replace Jr := aJ Jr hb
  clear hb
  obtain ⟨zr_0, zr_1⟩ := cJ Jr
  have f0 := fJ Jr
  have hBut : But (w.heap.size + 2) U2 ((U2.setCell ⟨w.heap.size + 2, 0, none⟩ (.string T1)).setCell ⟨w.heap.size + 2, 1, none⟩ (.string T2)) := (((But.refl _ U2).setCell 0 (.string T1)).setCell 1 (.string T2))
  have I4 : Hid (IHolds _ (w.heap.size + 2) 23 [(.string T1), (.string T2)]) := ((Jr.out.set 0 (.string T1)).set 1 (.string T2))
  replace B : Hid (Below w.heap.size w ((U2.setCell ⟨w.heap.size + 2, 0, none⟩ (.string T1)).setCell ⟨w.heap.size + 2, 1, none⟩ (.string T2))) := ((B.out.setCell (by first | exact Nat.le_refl _ | exact ge_r.out | (show w.heap.size ≤ w.heap.size + 2; omega)) _).setCell (by first | exact Nat.le_refl _ | exact ge_r.out | (show w.heap.size ≤ w.heap.size + 2; omega)) _)
  replace Jx := tJ Jx hBut (by omega)
  replace Jy := tJ Jy hBut (by omega)
  replace Jr := I4
  clear I4 hBut
  go_wp2_with fail
  clear zr_0 zr_1
  clear f0
  generalize ((U2.setCell ⟨w.heap.size + 2, 0, none⟩ (.string T1)).setCell ⟨w.heap.size + 2, 1, none⟩ (.string T2)) = U3 at *
  have E0 : Hid (U3.cell? ⟨w.heap.size + 2, 0, none⟩ = some ((.string T1))) := IHolds.cell (l := [(.string T1), (.string T2)]) (t := 23) (b := w.heap.size + 2) (w := U3) Jr.out 0 (by simp)
  have E1 : Hid (U3.cell? ⟨w.heap.size + 2, 1, none⟩ = some ((.string T2))) := IHolds.cell (l := [(.string T1), (.string T2)]) (t := 23) (b := w.heap.size + 2) (w := U3) Jr.out 1 (by simp)
  exact bodyPost_ret (v := .tuple #[.agg #[(.string T1), (.string T2)], .int .i64 c]) (by simp [results, Tryd.results8, go_sem, E0.out, E1.out]) rfl ⟨rfl, B.out⟩
set_option maxRecDepth 100000 in
set_option maxHeartbeats 2000000 in
theorem orderFr_call {n1 d1 n2 d2 : ByteArray} {w : World} {z : Int} {c : Int}
    (H : Hid (∀ W, Calls Tryd.prog 22 #[.func (.func 14) #[] #[], .agg #[.string n1, .string d1], .agg #[.string n2, .string d2], .func (.func 23) #[] #[]] W fun e w' => e = .returned (.tuple #[.int .i64 z, .int .i64 c]) ∧ Below W.heap.size W w')) :
    Calls Tryd.prog 9 #[.agg #[.string n1, .string d1], .agg #[.string n2, .string d2]] w fun e w' => e = .returned (.tuple #[.int .i64 z, .int .i64 c]) ∧ Below w.heap.size w w' := by
  go_enter Tryd.func9, Tryd.ntmps9
  go_wp2_with fail
  obtain ⟨U1, hU1⟩ : ∃ X, X = ((w.alloc (.cells #[(.string n1), (.string d1)] 23)).alloc (.cells #[(.string n2), (.string d2)] 23)) := ⟨_, rfl⟩
  have Jx : Hid (IHolds U1 (w.heap.size) 23 [(.string n1), (.string d1)]) := by
    have q := IHolds.new w 23 [(.string n1), (.string d1)]
    show IHolds _ _ _ _
    rw [hU1]
    exact (q.alloc _)
  have Jy : Hid (IHolds U1 (w.heap.size + 1) 23 [(.string n2), (.string d2)]) := by
    have q := IHolds.new (w.alloc (.cells #[(.string n1), (.string d1)] 23)) 23 [(.string n2), (.string d2)]
    simp only [World.size_alloc, Nat.add_assoc, Nat.reduceAdd] at q
    show IHolds _ _ _ _
    rw [hU1]
    exact q
  have B : Hid (Below w.heap.size w U1) := by
    show Below _ _ _
    rw [hU1]
    exact (((Below.refl _ w).alloc (Nat.le_refl _) _).alloc (by simp only [World.size_alloc]; omega) _)
  rw [← hU1]
  clear hU1
  refine (H.out U1).mono ?_
  rintro e U2 ⟨rfl, hb⟩
  replace B := aB B hb
  replace Jx := aJ Jx hb
  replace Jy := aJ Jy hb
  clear hb
  go_wp2_with fail
  go_ret2
  exact ⟨rfl, B.out⟩

/-- What is wrong with two fractions: the first one that is wrong tells. -/
def wrF2 (n1 d1 n2 d2 : ByteArray) : Nat := if wrF n1 d1 = 0 then wrF n2 d2 else wrF n1 d1
theorem wrF2_zero {n1 d1 n2 d2 : ByteArray} (h : wrF2 n1 d1 n2 d2 = 0) : wrF n1 d1 = 0 ∧ wrF n2 d2 = 0 := by
  unfold wrF2 at h
  split at h
  · rename_i h1; exact ⟨h1, h⟩
  · rename_i h1; exact absurd h h1
theorem two_bad70 (F : Nat) {n1 d1 n2 d2 : ByteArray} {w : World} (h : wrF2 n1 d1 n2 d2 ≠ 0) (s1 : n1.size ≤ 4611686018427387904) (s2 : d1.size ≤ 4611686018427387904) (s3 : n2.size ≤ 4611686018427387904) (s4 : d2.size ≤ 4611686018427387904) :
    Calls Tryd.prog 13 #[.func (.func 14) #[] #[], .agg #[.string n1, .string d1], .agg #[.string n2, .string d2], .func (.func F) #[] #[]] w fun e w' => e = .returned (.tuple #[.agg #[.string ⟨#[]⟩, .string ⟨#[]⟩], .int .i64 (wrF2 n1 d1 n2 d2 : Int)]) ∧ Below w.heap.size w w' := by
  unfold wrF2 at h ⊢
  by_cases h1 : wrF n1 d1 = 0
  · rw [if_pos h1] at h ⊢
    exact withTwo70_bad2 F _ (bne_iff_ne.2 (by omega)) (fun W => readFrac_good n1 d1 W h1) (fun W => readFrac_bad n2 d2 W h s3 s4)
  · rw [if_neg h1] at h ⊢
    exact withTwo70_bad1 F (N1 := 0) (D1 := 0) _ (bne_iff_ne.2 (by omega)) (fun W => readFrac_bad n1 d1 W h1 s1 s2)
theorem two_bad77 (F : Nat) {n1 d1 n2 d2 : ByteArray} {w : World} (h : wrF2 n1 d1 n2 d2 ≠ 0) (s1 : n1.size ≤ 4611686018427387904) (s2 : d1.size ≤ 4611686018427387904) (s3 : n2.size ≤ 4611686018427387904) (s4 : d2.size ≤ 4611686018427387904) :
    Calls Tryd.prog 22 #[.func (.func 14) #[] #[], .agg #[.string n1, .string d1], .agg #[.string n2, .string d2], .func (.func F) #[] #[]] w fun e w' => e = .returned (.tuple #[.int .i64 0, .int .i64 (wrF2 n1 d1 n2 d2 : Int)]) ∧ Below w.heap.size w w' := by
  unfold wrF2 at h ⊢
  by_cases h1 : wrF n1 d1 = 0
  · rw [if_pos h1] at h ⊢
    exact withTwo77_bad2 F _ (bne_iff_ne.2 (by omega)) (fun W => readFrac_good n1 d1 W h1) (fun W => readFrac_bad n2 d2 W h s3 s4)
  · rw [if_neg h1] at h ⊢
    exact withTwo77_bad1 F (N1 := 0) (D1 := 0) _ (bne_iff_ne.2 (by omega)) (fun W => readFrac_bad n1 d1 W h1 s1 s2)
theorem plusFr_bad {n1 d1 n2 d2 : ByteArray} {w : World} (h : wrF2 n1 d1 n2 d2 ≠ 0) (s1 : n1.size ≤ 4611686018427387904) (s2 : d1.size ≤ 4611686018427387904) (s3 : n2.size ≤ 4611686018427387904) (s4 : d2.size ≤ 4611686018427387904) :
    Calls Tryd.prog 12 #[.agg #[.string n1, .string d1], .agg #[.string n2, .string d2]] w fun e w' => e = .returned (.tuple #[.agg #[.string ⟨#[]⟩, .string ⟨#[]⟩], .int .i64 (wrF2 n1 d1 n2 d2 : Int)]) ∧ Below w.heap.size w w' :=
  plusFr_call (fun W => two_bad70 29 h s1 s2 s3 s4)
theorem timesFr_bad {n1 d1 n2 d2 : ByteArray} {w : World} (h : wrF2 n1 d1 n2 d2 ≠ 0) (s1 : n1.size ≤ 4611686018427387904) (s2 : d1.size ≤ 4611686018427387904) (s3 : n2.size ≤ 4611686018427387904) (s4 : d2.size ≤ 4611686018427387904) :
    Calls Tryd.prog 11 #[.agg #[.string n1, .string d1], .agg #[.string n2, .string d2]] w fun e w' => e = .returned (.tuple #[.agg #[.string ⟨#[]⟩, .string ⟨#[]⟩], .int .i64 (wrF2 n1 d1 n2 d2 : Int)]) ∧ Below w.heap.size w w' :=
  timesFr_call (fun W => two_bad70 28 h s1 s2 s3 s4)
theorem minusFr_bad {n1 d1 n2 d2 : ByteArray} {w : World} (h : wrF2 n1 d1 n2 d2 ≠ 0) (s1 : n1.size ≤ 4611686018427387904) (s2 : d1.size ≤ 4611686018427387904) (s3 : n2.size ≤ 4611686018427387904) (s4 : d2.size ≤ 4611686018427387904) :
    Calls Tryd.prog 7 #[.agg #[.string n1, .string d1], .agg #[.string n2, .string d2]] w fun e w' => e = .returned (.tuple #[.agg #[.string ⟨#[]⟩, .string ⟨#[]⟩], .int .i64 (wrF2 n1 d1 n2 d2 : Int)]) ∧ Below w.heap.size w w' :=
  minusFr_call (fun W => two_bad70 15 h s1 s2 s3 s4)
theorem overFr_bad {n1 d1 n2 d2 : ByteArray} {w : World} (h : wrF2 n1 d1 n2 d2 ≠ 0) (s1 : n1.size ≤ 4611686018427387904) (s2 : d1.size ≤ 4611686018427387904) (s3 : n2.size ≤ 4611686018427387904) (s4 : d2.size ≤ 4611686018427387904) :
    Calls Tryd.prog 8 #[.agg #[.string n1, .string d1], .agg #[.string n2, .string d2]] w fun e w' => e = .returned (.tuple #[.agg #[.string ⟨#[]⟩, .string ⟨#[]⟩], .int .i64 (wrF2 n1 d1 n2 d2 : Int)]) ∧ Below w.heap.size w w' :=
  overFr_call (fun W => two_bad70 19 h s1 s2 s3 s4)
theorem orderFr_bad {n1 d1 n2 d2 : ByteArray} {w : World} (h : wrF2 n1 d1 n2 d2 ≠ 0) (s1 : n1.size ≤ 4611686018427387904) (s2 : d1.size ≤ 4611686018427387904) (s3 : n2.size ≤ 4611686018427387904) (s4 : d2.size ≤ 4611686018427387904) :
    Calls Tryd.prog 9 #[.agg #[.string n1, .string d1], .agg #[.string n2, .string d2]] w fun e w' => e = .returned (.tuple #[.int .i64 0, .int .i64 (wrF2 n1 d1 n2 d2 : Int)]) ∧ Below w.heap.size w w' :=
  orderFr_call (fun W => two_bad77 23 h s1 s2 s3 s4)
theorem plusFr_ok {n1 d1 n2 d2 : ByteArray} {w : World} (e1 : wrF n1 d1 = 0) (e2 : wrF n2 d2 = 0) (a b u v : Nat) (ea : bv n1.data.toList = a) (eb : bv d1.data.toList = b) (eu : bv n2.data.toList = u) (ev : bv d2.data.toList = v) :
    Calls Tryd.prog 12 #[.agg #[.string n1, .string d1], .agg #[.string n2, .string d2]] w fun e w' => e = .returned (.tuple #[.agg #[.string (T ((a * v + u * b) / Nat.gcd (a * v + u * b) (b * v))), .string (T ((b * v) / Nat.gcd (a * v + u * b) (b * v)))], .int .i64 0]) ∧ Below w.heap.size w w' := by
  obtain ⟨k1, k2, k3, k4⟩ := wrF_zero e1
  obtain ⟨k5, k6, k7, k8⟩ := wrF_zero e2
  have l1 := dg_len_bv n1 k1
  have l2 := dg_len_bv d1 k2
  have l3 := dg_len_bv n2 k5
  have l4 := dg_len_bv d2 k6
  have R1 := fun W => readFrac_good n1 d1 W e1
  have R2 := fun W => readFrac_good n2 d2 W e2
  rw [ea] at l1 k4 R1
  rw [eb] at l2 k3 k4 R1
  rw [eu] at l3 k8 R2
  rw [ev] at l4 k7 k8 R2
  have ls : (dg 1000000000 (a * v + u * b)).length ≤ 100000 := Nat.le_trans (dg_len_add _ _ 9000 (Nat.le_trans (dg_len_mul bigBase _ _) (by omega)) (Nat.le_trans (dg_len_mul bigBase _ _) (by omega))) (by omega)
  have lp : (dg 1000000000 (b * v)).length ≤ 100000 := Nat.le_trans (dg_len_mul bigBase _ _) (by omega)
  have lN : (dg 1000000000 ((a * v + u * b) / Nat.gcd (a * v + u * b) (b * v))).length ≤ 1000000 := Nat.le_trans (dg_len_mono bigBase (Nat.div_le_self _ _)) (by omega)
  have lD : (dg 1000000000 ((b * v) / Nat.gcd (a * v + u * b) (b * v))).length ≤ 1000000 := Nat.le_trans (dg_len_mono bigBase (Nat.div_le_self _ _)) (by omega)
  
  have e := plus_lowest k3 k7 k4 k8
  refine plusFr_call (fun W => withTwo70_72 _ _ 0 R1 R2 (fun W' p1 p2 p3 p4 q1 q2 q3 q4 => plusC_any _ _ _ _ (fun V hV => ?_) (fun V u1 u2 g1 g2 => fracV g1 g2 lN lD)))
  have h := plusFrV ⟨q1.of_below hV, q2.of_below hV, q3.of_below hV, q4.of_below hV⟩ (by omega) (by omega) (by omega) (by omega) k3 k7
  rw [e.1, e.2] at h
  exact h
theorem timesFr_ok {n1 d1 n2 d2 : ByteArray} {w : World} (e1 : wrF n1 d1 = 0) (e2 : wrF n2 d2 = 0) (a b u v : Nat) (ea : bv n1.data.toList = a) (eb : bv d1.data.toList = b) (eu : bv n2.data.toList = u) (ev : bv d2.data.toList = v) :
    Calls Tryd.prog 11 #[.agg #[.string n1, .string d1], .agg #[.string n2, .string d2]] w fun e w' => e = .returned (.tuple #[.agg #[.string (T ((a * u) / Nat.gcd (a * u) (b * v))), .string (T ((b * v) / Nat.gcd (a * u) (b * v)))], .int .i64 0]) ∧ Below w.heap.size w w' := by
  obtain ⟨k1, k2, k3, k4⟩ := wrF_zero e1
  obtain ⟨k5, k6, k7, k8⟩ := wrF_zero e2
  have l1 := dg_len_bv n1 k1
  have l2 := dg_len_bv d1 k2
  have l3 := dg_len_bv n2 k5
  have l4 := dg_len_bv d2 k6
  have R1 := fun W => readFrac_good n1 d1 W e1
  have R2 := fun W => readFrac_good n2 d2 W e2
  rw [ea] at l1 k4 R1
  rw [eb] at l2 k3 k4 R1
  rw [eu] at l3 k8 R2
  rw [ev] at l4 k7 k8 R2
  have ls : (dg 1000000000 (a * u)).length ≤ 100000 := Nat.le_trans (dg_len_mul bigBase _ _) (by omega)
  have lp : (dg 1000000000 (b * v)).length ≤ 100000 := Nat.le_trans (dg_len_mul bigBase _ _) (by omega)
  have lN : (dg 1000000000 ((a * u) / Nat.gcd (a * u) (b * v))).length ≤ 1000000 := Nat.le_trans (dg_len_mono bigBase (Nat.div_le_self _ _)) (by omega)
  have lD : (dg 1000000000 ((b * v) / Nat.gcd (a * u) (b * v))).length ≤ 1000000 := Nat.le_trans (dg_len_mono bigBase (Nat.div_le_self _ _)) (by omega)
  
  have e := times_lowest k3 k7 k4 k8
  refine timesFr_call (fun W => withTwo70_75 _ _ 0 R1 R2 (fun W' p1 p2 p3 p4 q1 q2 q3 q4 => timesC_any _ _ _ _ (fun V hV => ?_) (fun V u1 u2 g1 g2 => fracV g1 g2 lN lD)))
  have h := timesFracV ⟨q1.of_below hV, q2.of_below hV, q3.of_below hV, q4.of_below hV⟩ (by omega) (by omega) (by omega) (by omega) k3 k7
  rw [e.1, e.2] at h
  exact h
theorem orderFr_ok {n1 d1 n2 d2 : ByteArray} {w : World} (e1 : wrF n1 d1 = 0) (e2 : wrF n2 d2 = 0) (a b u v : Nat) (ea : bv n1.data.toList = a) (eb : bv d1.data.toList = b) (eu : bv n2.data.toList = u) (ev : bv d2.data.toList = v) :
    Calls Tryd.prog 9 #[.agg #[.string n1, .string d1], .agg #[.string n2, .string d2]] w fun e w' => e = .returned (.tuple #[.int .i64 (cmp3 ((a * v : Nat) : Int) ((u * b : Nat) : Int)), .int .i64 0]) ∧ Below w.heap.size w w' := by
  obtain ⟨k1, k2, k3, k4⟩ := wrF_zero e1
  obtain ⟨k5, k6, k7, k8⟩ := wrF_zero e2
  have l1 := dg_len_bv n1 k1
  have l2 := dg_len_bv d1 k2
  have l3 := dg_len_bv n2 k5
  have l4 := dg_len_bv d2 k6
  have R1 := fun W => readFrac_good n1 d1 W e1
  have R2 := fun W => readFrac_good n2 d2 W e2
  rw [ea] at l1 k4 R1
  rw [eb] at l2 k3 k4 R1
  rw [eu] at l3 k8 R2
  rw [ev] at l4 k7 k8 R2
  exact orderFr_call (fun W => withTwo77_78 _ 0 R1 R2 (fun W' p1 p2 p3 p4 q1 q2 q3 q4 => orderC_any _ (fun V hV => fracCompareV ⟨q1.of_below hV, q2.of_below hV, q3.of_below hV, q4.of_below hV⟩ (by omega) (by omega) (by omega) (by omega))))
theorem minusFr_ok {n1 d1 n2 d2 : ByteArray} {w : World} (e1 : wrF n1 d1 = 0) (e2 : wrF n2 d2 = 0) (a b u v : Nat) (ea : bv n1.data.toList = a) (eb : bv d1.data.toList = b) (eu : bv n2.data.toList = u) (ev : bv d2.data.toList = v) (hle : u * b ≤ a * v) :
    Calls Tryd.prog 7 #[.agg #[.string n1, .string d1], .agg #[.string n2, .string d2]] w fun e w' => e = .returned (.tuple #[.agg #[.string (T ((a * v - u * b) / Nat.gcd (a * v - u * b) (b * v))), .string (T ((b * v) / Nat.gcd (a * v - u * b) (b * v)))], .int .i64 0]) ∧ Below w.heap.size w w' := by
  obtain ⟨k1, k2, k3, k4⟩ := wrF_zero e1
  obtain ⟨k5, k6, k7, k8⟩ := wrF_zero e2
  have l1 := dg_len_bv n1 k1
  have l2 := dg_len_bv d1 k2
  have l3 := dg_len_bv n2 k5
  have l4 := dg_len_bv d2 k6
  have R1 := fun W => readFrac_good n1 d1 W e1
  have R2 := fun W => readFrac_good n2 d2 W e2
  rw [ea] at l1 k4 R1
  rw [eb] at l2 k3 k4 R1
  rw [eu] at l3 k8 R2
  rw [ev] at l4 k7 k8 R2
  have ls : (dg 1000000000 (a * v - u * b)).length ≤ 100000 := Nat.le_trans (dg_len_mono bigBase (Nat.sub_le _ _)) (Nat.le_trans (dg_len_mul bigBase _ _) (by omega))
  have lp : (dg 1000000000 (b * v)).length ≤ 100000 := Nat.le_trans (dg_len_mul bigBase _ _) (by omega)
  have lN : (dg 1000000000 ((a * v - u * b) / Nat.gcd (a * v - u * b) (b * v))).length ≤ 1000000 := Nat.le_trans (dg_len_mono bigBase (Nat.div_le_self _ _)) (by omega)
  have lD : (dg 1000000000 ((b * v) / Nat.gcd (a * v - u * b) (b * v))).length ≤ 1000000 := Nat.le_trans (dg_len_mono bigBase (Nat.div_le_self _ _)) (by omega)
  
  have e := minus_lowest k3 k7 k4 k8 hle
  have hz : ¬ cmp3 ((a * v : Nat) : Int) ((u * b : Nat) : Int) < 0 := by unfold cmp3; split <;> (try split) <;> omega
  refine minusFr_call (fun W => withTwo70_80 _ _ 0 R1 R2 (fun W' p1 p2 p3 p4 q1 q2 q3 q4 => minusC_any _ hz (fun V hV => fracCompareV ⟨q1.of_below hV, q2.of_below hV, q3.of_below hV, q4.of_below hV⟩ (by omega) (by omega) (by omega) (by omega)) _ _ _ _ (fun V hV => ?_) (fun V u1 u2 g1 g2 => fracV g1 g2 lN lD)))
  have h := minusFrV ⟨q1.of_below hV, q2.of_below hV, q3.of_below hV, q4.of_below hV⟩ (by omega) (by omega) (by omega) (by omega) k3 k7 (minus_le k3 hle)
  rw [e.1, e.2] at h
  exact h
theorem minusFr_low {n1 d1 n2 d2 : ByteArray} {w : World} (e1 : wrF n1 d1 = 0) (e2 : wrF n2 d2 = 0) (a b u v : Nat) (ea : bv n1.data.toList = a) (eb : bv d1.data.toList = b) (eu : bv n2.data.toList = u) (ev : bv d2.data.toList = v) (hlt : a * v < u * b) :
    Calls Tryd.prog 7 #[.agg #[.string n1, .string d1], .agg #[.string n2, .string d2]] w fun e w' => e = .returned (.tuple #[.agg #[.string ⟨#[]⟩, .string ⟨#[]⟩], .int .i64 4]) ∧ Below w.heap.size w w' := by
  obtain ⟨k1, k2, k3, k4⟩ := wrF_zero e1
  obtain ⟨k5, k6, k7, k8⟩ := wrF_zero e2
  have l1 := dg_len_bv n1 k1
  have l2 := dg_len_bv d1 k2
  have l3 := dg_len_bv n2 k5
  have l4 := dg_len_bv d2 k6
  have R1 := fun W => readFrac_good n1 d1 W e1
  have R2 := fun W => readFrac_good n2 d2 W e2
  rw [ea] at l1 k4 R1
  rw [eb] at l2 k3 k4 R1
  rw [eu] at l3 k8 R2
  rw [ev] at l4 k7 k8 R2
  have hz : cmp3 ((a * v : Nat) : Int) ((u * b : Nat) : Int) < 0 := by rw [cmp3_lt (by omega)]; omega
  exact minusFr_call (fun W => withTwo70_80 _ _ 4 R1 R2 (fun W' p1 p2 p3 p4 q1 q2 q3 q4 => minusC_low _ hz (fun V hV => fracCompareV ⟨q1.of_below hV, q2.of_below hV, q3.of_below hV, q4.of_below hV⟩ (by omega) (by omega) (by omega) (by omega))))
theorem overFr_zero {n1 d1 n2 d2 : ByteArray} {w : World} (e1 : wrF n1 d1 = 0) (e2 : wrF n2 d2 = 0) (a b u v : Nat) (ea : bv n1.data.toList = a) (eb : bv d1.data.toList = b) (eu : bv n2.data.toList = u) (ev : bv d2.data.toList = v) (h0 : u = 0) :
    Calls Tryd.prog 8 #[.agg #[.string n1, .string d1], .agg #[.string n2, .string d2]] w fun e w' => e = .returned (.tuple #[.agg #[.string ⟨#[]⟩, .string ⟨#[]⟩], .int .i64 5]) ∧ Below w.heap.size w w' := by
  obtain ⟨k1, k2, k3, k4⟩ := wrF_zero e1
  obtain ⟨k5, k6, k7, k8⟩ := wrF_zero e2
  have l1 := dg_len_bv n1 k1
  have l2 := dg_len_bv d1 k2
  have l3 := dg_len_bv n2 k5
  have l4 := dg_len_bv d2 k6
  have R1 := fun W => readFrac_good n1 d1 W e1
  have R2 := fun W => readFrac_good n2 d2 W e2
  rw [ea] at l1 k4 R1
  rw [eb] at l2 k3 k4 R1
  rw [eu] at l3 k8 R2
  rw [ev] at l4 k7 k8 R2
  refine overFr_call (fun W => withTwo70_81 _ _ 5 R1 R2 (fun W' p1 p2 p3 p4 q1 q2 q3 q4 => ?_))
  have z := fun V (hV : Below W'.heap.size W' V) => isZeroV (q3.of_below hV)
  rw [h0] at z
  obtain ⟨a3, c3, rfl, _⟩ := q3
  obtain ⟨a4, c4, rfl, _⟩ := q4
  exact overC_zero (fun V hV => z V hV)
theorem overFr_ok {n1 d1 n2 d2 : ByteArray} {w : World} (e1 : wrF n1 d1 = 0) (e2 : wrF n2 d2 = 0) (a b u v : Nat) (ea : bv n1.data.toList = a) (eb : bv d1.data.toList = b) (eu : bv n2.data.toList = u) (ev : bv d2.data.toList = v) (h0 : u ≠ 0) :
    Calls Tryd.prog 8 #[.agg #[.string n1, .string d1], .agg #[.string n2, .string d2]] w fun e w' => e = .returned (.tuple #[.agg #[.string (T ((a * v) / Nat.gcd (a * v) (b * u))), .string (T ((b * u) / Nat.gcd (a * v) (b * u)))], .int .i64 0]) ∧ Below w.heap.size w w' := by
  obtain ⟨k1, k2, k3, k4⟩ := wrF_zero e1
  obtain ⟨k5, k6, k7, k8⟩ := wrF_zero e2
  have l1 := dg_len_bv n1 k1
  have l2 := dg_len_bv d1 k2
  have l3 := dg_len_bv n2 k5
  have l4 := dg_len_bv d2 k6
  have R1 := fun W => readFrac_good n1 d1 W e1
  have R2 := fun W => readFrac_good n2 d2 W e2
  rw [ea] at l1 k4 R1
  rw [eb] at l2 k3 k4 R1
  rw [eu] at l3 k8 R2
  rw [ev] at l4 k7 k8 R2
  have ls : (dg 1000000000 (a * v)).length ≤ 100000 := Nat.le_trans (dg_len_mul bigBase _ _) (by omega)
  have lp : (dg 1000000000 (b * u)).length ≤ 100000 := Nat.le_trans (dg_len_mul bigBase _ _) (by omega)
  have lN : (dg 1000000000 ((a * v) / Nat.gcd (a * v) (b * u))).length ≤ 1000000 := Nat.le_trans (dg_len_mono bigBase (Nat.div_le_self _ _)) (by omega)
  have lD : (dg 1000000000 ((b * u) / Nat.gcd (a * v) (b * u))).length ≤ 1000000 := Nat.le_trans (dg_len_mono bigBase (Nat.div_le_self _ _)) (by omega)
  
  have e := times_lowest k3 h0 k4 (show Nat.gcd v u = 1 by rw [Nat.gcd_comm]; exact k8)
  refine overFr_call (fun W => withTwo70_81 _ _ 0 R1 R2 (fun W' p1 p2 p3 p4 q1 q2 q3 q4 => ?_))
  have z := fun V (hV : Below W'.heap.size W' V) => isZeroV (q3.of_below hV)
  rw [beq_eq_false_iff_ne.2 h0] at z
  have C1 : ∀ V, Below W'.heap.size W' V → Calls Tryd.prog 21 #[.agg #[p1, p2], .agg #[p4, p3]] V fun e w' => (∃ u1 u2, e = .returned (.agg #[u1, u2]) ∧ NumV w' 1000000000 ((a * v) / Nat.gcd (a * v) (b * u)) u1 ∧ NumV w' 1000000000 ((b * u) / Nat.gcd (a * v) (b * u)) u2) ∧ Below V.heap.size V w' := fun V hV => by
    have h := timesFracV ⟨q1.of_below hV, q2.of_below hV, q4.of_below hV, q3.of_below hV⟩ (by omega) (by omega) (by omega) (by omega) k3 h0
    rw [e.1, e.2] at h
    exact h
  obtain ⟨a3, c3, rfl, _⟩ := q3
  obtain ⟨a4, c4, rfl, _⟩ := q4
  exact overC_any (fun V hV => z V hV) _ _ _ _ (fun V hV => C1 V hV) (fun V u1 u2 g1 g2 => fracV g1 g2 lN lD)
end Go.Proofs.YtnahindcgedbaabDoor
