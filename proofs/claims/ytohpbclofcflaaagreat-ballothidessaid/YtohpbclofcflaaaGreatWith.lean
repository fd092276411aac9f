/- What is handed in is read, and what comes of one or two of them. -/
import Derived.Test.YtohpbclofcflaaaGreatClos
set_option linter.unusedSimpArgs false
set_option linter.unusedVariables false
namespace Go.Proofs.YtohpbclofcflaaaGreat
open Go.RowKit Go.Deep Go.PlainAid

set_option maxRecDepth 100000 in
set_option maxHeartbeats 2000000 in
theorem on48_88 {w : World} {z : Int} {G : Array Value} {p1 p2 p3 : Nat} {t : ByteArray} {c : Int} (hG : gz.size = G.size) (hi : (Tryz.prog.info? 97).map (·.size) = some G.size) (h1 : G.all (·.oneCell') = true)
    (CG : Hid (∀ W, Calls Tryz.prog 73 #[.int .i64 z] W fun e w' => e = .returned (.tuple #[.agg G, .bool true]) ∧ Below W.heap.size W w')) (HF : Hid (∀ W g, IHolds W g 97 G.toList → Below w.heap.size w W → Calls Tryz.prog 101 #[.pointer (some ⟨g, 0, none⟩), .pointer (some ⟨p1, 0, none⟩), .pointer (some ⟨p2, 0, none⟩), .pointer (some ⟨p3, 0, none⟩)] W fun e w' => e = .returned (.tuple #[.string t, .int .i64 c]) ∧ Below W.heap.size W w')) :
    Calls Tryz.prog 58 #[.int .i64 z, .func (.func 101) #[] #[.pointer (some ⟨p1, 0, none⟩), .pointer (some ⟨p2, 0, none⟩), .pointer (some ⟨p3, 0, none⟩)]] w fun e w' => e = .returned (.tuple #[.string t, .int .i64 c]) ∧ Below w.heap.size w w' := by
  go_enter Tryz.func58, Tryz.ntmps58
  go_wp2_with fail
  refine (CG.out w).mono ?_
  rintro e U1 ⟨rfl, hb⟩
  have B : Hid (Below w.heap.size w U1) := hb
  clear hb
  have hg : (U1.alloc (.cells gz 97)).heap[U1.heap.size]? = some (.cells gz 97 (0, 0)) := by
    have h := IHolds.new U1 97 gz.toList
    unfold IHolds at h
    rw [Array.toArray_toList] at h
    exact h
  have J : Hid (IHolds (U1.alloc (.cells G 97)) U1.heap.size 97 G.toList) := by
    have h := IHolds.new U1 97 G.toList
    rw [Array.toArray_toList] at h
    exact h
  replace B := aB B (nB U1 (.cells G 97))
  go_wp2_with (refine wpList_store_row rfl 97 (.tmp 6) (.tmp 12) rfl U1.heap.size G rfl rfl 97 gz hg hi hG h1 ?_; rw [World.setRow_alloc_new]; clear hg)
  generalize U1.alloc (.cells G 97) = U2 at *
  refine (HF.out U2 _ J.out B.out).mono ?_
  rintro e U3 ⟨rfl, hb⟩
  replace B := aB B hb
  clear hb
  go_wp2_with fail
  go_ret2
  exact ⟨rfl, B.out⟩
set_option maxRecDepth 100000 in
set_option maxHeartbeats 2000000 in
theorem on48_88_no {w : World} {z : Int} {G : Array Value} {p1 p2 p3 : Nat}  (hG : gz.size = G.size) (hi : (Tryz.prog.info? 97).map (·.size) = some G.size) (h1 : G.all (·.oneCell') = true)
    (CG : Hid (∀ W, Calls Tryz.prog 73 #[.int .i64 z] W fun e w' => e = .returned (.tuple #[.agg G, .bool false]) ∧ Below W.heap.size W w'))  :
    Calls Tryz.prog 58 #[.int .i64 z, .func (.func 101) #[] #[.pointer (some ⟨p1, 0, none⟩), .pointer (some ⟨p2, 0, none⟩), .pointer (some ⟨p3, 0, none⟩)]] w fun e w' => e = .returned (.tuple #[.string ⟨#[]⟩, .int .i64 1]) ∧ Below w.heap.size w w' := by
  go_enter Tryz.func58, Tryz.ntmps58
  go_wp2_with fail
  refine (CG.out w).mono ?_
  rintro e U1 ⟨rfl, hb⟩
  have B : Hid (Below w.heap.size w U1) := hb
  clear hb
  have hg : (U1.alloc (.cells gz 97)).heap[U1.heap.size]? = some (.cells gz 97 (0, 0)) := by
    have h := IHolds.new U1 97 gz.toList
    unfold IHolds at h
    rw [Array.toArray_toList] at h
    exact h
  have J : Hid (IHolds (U1.alloc (.cells G 97)) U1.heap.size 97 G.toList) := by
    have h := IHolds.new U1 97 G.toList
    rw [Array.toArray_toList] at h
    exact h
  replace B := aB B (nB U1 (.cells G 97))
  go_wp2_with (refine wpList_store_row rfl 97 (.tmp 6) (.tmp 12) rfl U1.heap.size G rfl rfl 97 gz hg hi hG h1 ?_; rw [World.setRow_alloc_new]; clear hg)
  go_ret2
  exact ⟨rfl, B.out⟩
set_option maxRecDepth 100000 in
set_option maxHeartbeats 2000000 in
theorem clos88_59_96 {w : World} {g p1 p2 p3 q1 q2 q3 : Nat} {s t : ByteArray} {z0 z1 z2 z3 : Nat} {c : Int} (J1 : Hid (IHolds w p1 124 [.func (.func 57) #[] #[]])) (J2 : Hid (IHolds w p2 9 [.string s])) (J3 : Hid (IHolds w p3 116 [.func (.func 96) #[] #[.pointer (some ⟨q1, 0, none⟩), .pointer (some ⟨q2, 0, none⟩), .pointer (some ⟨q3, 0, none⟩)]]))
    (C1 : Hid (∀ W, Below w.heap.size w W → Calls Tryz.prog 57 #[.pointer (some ⟨g, 0, none⟩), .string s] W fun e w' => e = .returned (.tuple #[.agg #[U z0, U z1, U z2, U z3], .int .i64 0]) ∧ Below W.heap.size W w')) (C2 : Hid (∀ W, Below w.heap.size w W → Calls Tryz.prog 96 #[.pointer (some ⟨g, 0, none⟩), .agg #[U z0, U z1, U z2, U z3], .pointer (some ⟨q1, 0, none⟩), .pointer (some ⟨q2, 0, none⟩), .pointer (some ⟨q3, 0, none⟩)] W fun e w' => e = .returned (.tuple #[.string t, .int .i64 c]) ∧ Below W.heap.size W w')) :
    Calls Tryz.prog 101 #[.pointer (some ⟨g, 0, none⟩), .pointer (some ⟨p1, 0, none⟩), .pointer (some ⟨p2, 0, none⟩), .pointer (some ⟨p3, 0, none⟩)] w fun e w' => e = .returned (.tuple #[.string t, .int .i64 c]) ∧ Below w.heap.size w w' := by
  have B : Hid (Below w.heap.size w w) := Below.refl _ _
  have zs0 : w.cell? ⟨p1, 0, none⟩ = some (.func (.func 57) #[] #[]) := J1.out.cell 0 (by simp)
  have zs1 : w.cell? ⟨p2, 0, none⟩ = some (.string s) := J2.out.cell 0 (by simp)
  go_enter Tryz.func101, Tryz.ntmps101
  go_wp2_with fail
  clear zs0 zs1
  refine (C1.out w B.out).mono ?_
  rintro e U1 ⟨rfl, hb⟩
  replace B := aB B hb
  replace J1 := aJ J1 hb
  replace J2 := aJ J2 hb
  replace J3 := aJ J3 hb
  clear hb
  have hb := nB U1 (.cells #[U z0, U z1, U z2, U z3] 81)
  replace B := aB B hb
  replace J3 := aJ J3 hb
  clear hb J1 J2
  have zs0 : (U1.alloc (.cells #[U z0, U z1, U z2, U z3] 81)).cell? ⟨p3, 0, none⟩ = some (.func (.func 96) #[] #[.pointer (some ⟨q1, 0, none⟩), .pointer (some ⟨q2, 0, none⟩), .pointer (some ⟨q3, 0, none⟩)]) := J3.out.cell 0 (by simp)
  go_wp2_with fail
  clear zs0
  refine (C2.out (U1.alloc (.cells #[U z0, U z1, U z2, U z3] 81)) B.out).mono ?_
  rintro e V9 ⟨rfl, hb⟩
  replace B := aB B hb
  clear hb
  go_wp2_with fail
  go_ret2
  exact ⟨rfl, B.out⟩
set_option maxRecDepth 100000 in
set_option maxHeartbeats 2000000 in
theorem clos88_59_bad {w : World} {g p1 p2 p3  : Nat} {s : ByteArray} {z0 z1 z2 z3 : Nat} {c : Int} (hc : (c != 0) = true) (hc1 : c ≠ 0) (J1 : Hid (IHolds w p1 124 [.func (.func 57) #[] #[]])) (J2 : Hid (IHolds w p2 9 [.string s])) 
    (C1 : Hid (∀ W, Below w.heap.size w W → Calls Tryz.prog 57 #[.pointer (some ⟨g, 0, none⟩), .string s] W fun e w' => e = .returned (.tuple #[.agg #[U z0, U z1, U z2, U z3], .int .i64 c]) ∧ Below W.heap.size W w'))  :
    Calls Tryz.prog 101 #[.pointer (some ⟨g, 0, none⟩), .pointer (some ⟨p1, 0, none⟩), .pointer (some ⟨p2, 0, none⟩), .pointer (some ⟨p3, 0, none⟩)] w fun e w' => e = .returned (.tuple #[.string ⟨#[]⟩, .int .i64 c]) ∧ Below w.heap.size w w' := by
  have B : Hid (Below w.heap.size w w) := Below.refl _ _
  have zs0 : w.cell? ⟨p1, 0, none⟩ = some (.func (.func 57) #[] #[]) := J1.out.cell 0 (by simp)
  have zs1 : w.cell? ⟨p2, 0, none⟩ = some (.string s) := J2.out.cell 0 (by simp)
  go_enter Tryz.func101, Tryz.ntmps101
  go_wp2_with fail
  clear zs0 zs1
  refine (C1.out w B.out).mono ?_
  rintro e U1 ⟨rfl, hb⟩
  replace B := aB B hb
  replace J1 := aJ J1 hb
  replace J2 := aJ J2 hb
  clear hb
  replace B := aB B (nB U1 (.cells #[U z0, U z1, U z2, U z3] 81))
  go_wp2_with fail
  go_ret2
  exact ⟨rfl, B.out⟩
set_option maxRecDepth 100000 in
set_option maxHeartbeats 2000000 in
theorem clos88_61_77 {w : World} {g p1 p2 p3  : Nat} {s t : ByteArray} {z0 z1 z2 z3 : Nat} {c : Int} (J1 : Hid (IHolds w p1 124 [.func (.func 55) #[] #[]])) (J2 : Hid (IHolds w p2 9 [.string s])) (J3 : Hid (IHolds w p3 116 [.func (.func 88) #[] #[]]))
    (C1 : Hid (∀ W, Below w.heap.size w W → Calls Tryz.prog 55 #[.pointer (some ⟨g, 0, none⟩), .string s] W fun e w' => e = .returned (.tuple #[.agg #[U z0, U z1, U z2, U z3], .int .i64 0]) ∧ Below W.heap.size W w')) (C2 : Hid (∀ W, Below w.heap.size w W → Calls Tryz.prog 88 #[.pointer (some ⟨g, 0, none⟩), .agg #[U z0, U z1, U z2, U z3]] W fun e w' => e = .returned (.tuple #[.string t, .int .i64 c]) ∧ Below W.heap.size W w')) :
    Calls Tryz.prog 101 #[.pointer (some ⟨g, 0, none⟩), .pointer (some ⟨p1, 0, none⟩), .pointer (some ⟨p2, 0, none⟩), .pointer (some ⟨p3, 0, none⟩)] w fun e w' => e = .returned (.tuple #[.string t, .int .i64 c]) ∧ Below w.heap.size w w' := by
  have B : Hid (Below w.heap.size w w) := Below.refl _ _
  have zs0 : w.cell? ⟨p1, 0, none⟩ = some (.func (.func 55) #[] #[]) := J1.out.cell 0 (by simp)
  have zs1 : w.cell? ⟨p2, 0, none⟩ = some (.string s) := J2.out.cell 0 (by simp)
  go_enter Tryz.func101, Tryz.ntmps101
  go_wp2_with fail
  clear zs0 zs1
  refine (C1.out w B.out).mono ?_
  rintro e U1 ⟨rfl, hb⟩
  replace B := aB B hb
  replace J1 := aJ J1 hb
  replace J2 := aJ J2 hb
  replace J3 := aJ J3 hb
  clear hb
  have hb := nB U1 (.cells #[U z0, U z1, U z2, U z3] 81)
  replace B := aB B hb
  replace J3 := aJ J3 hb
  clear hb J1 J2
  have zs0 : (U1.alloc (.cells #[U z0, U z1, U z2, U z3] 81)).cell? ⟨p3, 0, none⟩ = some (.func (.func 88) #[] #[]) := J3.out.cell 0 (by simp)
  go_wp2_with fail
  clear zs0
  refine (C2.out (U1.alloc (.cells #[U z0, U z1, U z2, U z3] 81)) B.out).mono ?_
  rintro e V9 ⟨rfl, hb⟩
  replace B := aB B hb
  clear hb
  go_wp2_with fail
  go_ret2
  exact ⟨rfl, B.out⟩
set_option maxRecDepth 100000 in
set_option maxHeartbeats 2000000 in
theorem clos88_61_96 {w : World} {g p1 p2 p3 q1 q2 q3 : Nat} {s t : ByteArray} {z0 z1 z2 z3 : Nat} {c : Int} (J1 : Hid (IHolds w p1 124 [.func (.func 55) #[] #[]])) (J2 : Hid (IHolds w p2 9 [.string s])) (J3 : Hid (IHolds w p3 116 [.func (.func 96) #[] #[.pointer (some ⟨q1, 0, none⟩), .pointer (some ⟨q2, 0, none⟩), .pointer (some ⟨q3, 0, none⟩)]]))
    (C1 : Hid (∀ W, Below w.heap.size w W → Calls Tryz.prog 55 #[.pointer (some ⟨g, 0, none⟩), .string s] W fun e w' => e = .returned (.tuple #[.agg #[U z0, U z1, U z2, U z3], .int .i64 0]) ∧ Below W.heap.size W w')) (C2 : Hid (∀ W, Below w.heap.size w W → Calls Tryz.prog 96 #[.pointer (some ⟨g, 0, none⟩), .agg #[U z0, U z1, U z2, U z3], .pointer (some ⟨q1, 0, none⟩), .pointer (some ⟨q2, 0, none⟩), .pointer (some ⟨q3, 0, none⟩)] W fun e w' => e = .returned (.tuple #[.string t, .int .i64 c]) ∧ Below W.heap.size W w')) :
    Calls Tryz.prog 101 #[.pointer (some ⟨g, 0, none⟩), .pointer (some ⟨p1, 0, none⟩), .pointer (some ⟨p2, 0, none⟩), .pointer (some ⟨p3, 0, none⟩)] w fun e w' => e = .returned (.tuple #[.string t, .int .i64 c]) ∧ Below w.heap.size w w' := by
  have B : Hid (Below w.heap.size w w) := Below.refl _ _
  have zs0 : w.cell? ⟨p1, 0, none⟩ = some (.func (.func 55) #[] #[]) := J1.out.cell 0 (by simp)
  have zs1 : w.cell? ⟨p2, 0, none⟩ = some (.string s) := J2.out.cell 0 (by simp)
  go_enter Tryz.func101, Tryz.ntmps101
  go_wp2_with fail
  clear zs0 zs1
  refine (C1.out w B.out).mono ?_
  rintro e U1 ⟨rfl, hb⟩
  replace B := aB B hb
  replace J1 := aJ J1 hb
  replace J2 := aJ J2 hb
  replace J3 := aJ J3 hb
  clear hb
  have hb := nB U1 (.cells #[U z0, U z1, U z2, U z3] 81)
  replace B := aB B hb
  replace J3 := aJ J3 hb
  clear hb J1 J2
  have zs0 : (U1.alloc (.cells #[U z0, U z1, U z2, U z3] 81)).cell? ⟨p3, 0, none⟩ = some (.func (.func 96) #[] #[.pointer (some ⟨q1, 0, none⟩), .pointer (some ⟨q2, 0, none⟩), .pointer (some ⟨q3, 0, none⟩)]) := J3.out.cell 0 (by simp)
  go_wp2_with fail
  clear zs0
  refine (C2.out (U1.alloc (.cells #[U z0, U z1, U z2, U z3] 81)) B.out).mono ?_
  rintro e V9 ⟨rfl, hb⟩
  replace B := aB B hb
  clear hb
  go_wp2_with fail
  go_ret2
  exact ⟨rfl, B.out⟩
set_option maxRecDepth 100000 in
set_option maxHeartbeats 2000000 in
theorem clos88_61_bad {w : World} {g p1 p2 p3  : Nat} {s : ByteArray} {z0 z1 z2 z3 : Nat} {c : Int} (hc : (c != 0) = true) (hc1 : c ≠ 0) (J1 : Hid (IHolds w p1 124 [.func (.func 55) #[] #[]])) (J2 : Hid (IHolds w p2 9 [.string s])) 
    (C1 : Hid (∀ W, Below w.heap.size w W → Calls Tryz.prog 55 #[.pointer (some ⟨g, 0, none⟩), .string s] W fun e w' => e = .returned (.tuple #[.agg #[U z0, U z1, U z2, U z3], .int .i64 c]) ∧ Below W.heap.size W w'))  :
    Calls Tryz.prog 101 #[.pointer (some ⟨g, 0, none⟩), .pointer (some ⟨p1, 0, none⟩), .pointer (some ⟨p2, 0, none⟩), .pointer (some ⟨p3, 0, none⟩)] w fun e w' => e = .returned (.tuple #[.string ⟨#[]⟩, .int .i64 c]) ∧ Below w.heap.size w w' := by
  have B : Hid (Below w.heap.size w w) := Below.refl _ _
  have zs0 : w.cell? ⟨p1, 0, none⟩ = some (.func (.func 55) #[] #[]) := J1.out.cell 0 (by simp)
  have zs1 : w.cell? ⟨p2, 0, none⟩ = some (.string s) := J2.out.cell 0 (by simp)
  go_enter Tryz.func101, Tryz.ntmps101
  go_wp2_with fail
  clear zs0 zs1
  refine (C1.out w B.out).mono ?_
  rintro e U1 ⟨rfl, hb⟩
  replace B := aB B hb
  replace J1 := aJ J1 hb
  replace J2 := aJ J2 hb
  clear hb
  replace B := aB B (nB U1 (.cells #[U z0, U z1, U z2, U z3] 81))
  go_wp2_with fail
  go_ret2
  exact ⟨rfl, B.out⟩
set_option maxRecDepth 100000 in
set_option maxHeartbeats 2000000 in
theorem clos96_59_bad {w : World} {g q1 q2 q3  : Nat} {s : ByteArray} {x0 x1 x2 x3 z0 z1 z2 z3 : Nat} {c : Int} (hc : (c != 0) = true) (hc1 : c ≠ 0) (J1 : Hid (IHolds w q1 124 [.func (.func 57) #[] #[]])) (J2 : Hid (IHolds w q2 9 [.string s])) 
    (C1 : Hid (∀ W, Below w.heap.size w W → Calls Tryz.prog 57 #[.pointer (some ⟨g, 0, none⟩), .string s] W fun e w' => e = .returned (.tuple #[.agg #[U z0, U z1, U z2, U z3], .int .i64 c]) ∧ Below W.heap.size W w'))  :
    Calls Tryz.prog 96 #[.pointer (some ⟨g, 0, none⟩), .agg #[U x0, U x1, U x2, U x3], .pointer (some ⟨q1, 0, none⟩), .pointer (some ⟨q2, 0, none⟩), .pointer (some ⟨q3, 0, none⟩)] w fun e w' => e = .returned (.tuple #[.string ⟨#[]⟩, .int .i64 c]) ∧ Below w.heap.size w w' := by
  have hb := nB w (.cells #[U x0, U x1, U x2, U x3] 81)
  have B : Hid (Below w.heap.size w (w.alloc (.cells #[U x0, U x1, U x2, U x3] 81))) := hb
  have Jx : Hid (IHolds (w.alloc (.cells #[U x0, U x1, U x2, U x3] 81)) w.heap.size 81 [U x0, U x1, U x2, U x3]) := IHolds.new w 81 _
  replace J1 := aJ J1 hb
  replace J2 := aJ J2 hb
  clear hb
  have zs0 : (w.alloc (.cells #[U x0, U x1, U x2, U x3] 81)).cell? ⟨q1, 0, none⟩ = some (.func (.func 57) #[] #[]) := J1.out.cell 0 (by simp)
  have zs1 : (w.alloc (.cells #[U x0, U x1, U x2, U x3] 81)).cell? ⟨q2, 0, none⟩ = some (.string s) := J2.out.cell 0 (by simp)
  go_enter Tryz.func96, Tryz.ntmps96
  go_wp2_with fail
  clear zs0 zs1
  generalize (w.alloc (.cells #[U x0, U x1, U x2, U x3] 81)) = V0 at *
  refine (C1.out V0 B.out).mono ?_
  rintro e U1 ⟨rfl, hb⟩
  replace B := aB B hb
  replace Jx := aJ Jx hb
  clear hb
  replace B := aB B (nB U1 (.cells #[U z0, U z1, U z2, U z3] 81))
  go_wp2_with fail
  go_ret2
  exact ⟨rfl, B.out⟩
set_option maxRecDepth 100000 in
set_option maxHeartbeats 2000000 in
theorem clos96_61_75 {w : World} {g q1 q2 q3  : Nat} {s t : ByteArray} {x0 x1 x2 x3 z0 z1 z2 z3 : Nat} {c : Int} (J1 : Hid (IHolds w q1 124 [.func (.func 55) #[] #[]])) (J2 : Hid (IHolds w q2 9 [.string s])) (J3 : Hid (IHolds w q3 109 [.func (.func 83) #[] #[]]))
    (C1 : Hid (∀ W, Below w.heap.size w W → Calls Tryz.prog 55 #[.pointer (some ⟨g, 0, none⟩), .string s] W fun e w' => e = .returned (.tuple #[.agg #[U z0, U z1, U z2, U z3], .int .i64 0]) ∧ Below W.heap.size W w')) (C2 : Hid (∀ W, Below w.heap.size w W → Calls Tryz.prog 83 #[.pointer (some ⟨g, 0, none⟩), .agg #[U x0, U x1, U x2, U x3], .agg #[U z0, U z1, U z2, U z3]] W fun e w' => e = .returned (.tuple #[.string t, .int .i64 c]) ∧ Below W.heap.size W w')) :
    Calls Tryz.prog 96 #[.pointer (some ⟨g, 0, none⟩), .agg #[U x0, U x1, U x2, U x3], .pointer (some ⟨q1, 0, none⟩), .pointer (some ⟨q2, 0, none⟩), .pointer (some ⟨q3, 0, none⟩)] w fun e w' => e = .returned (.tuple #[.string t, .int .i64 c]) ∧ Below w.heap.size w w' := by
  have hb := nB w (.cells #[U x0, U x1, U x2, U x3] 81)
  have B : Hid (Below w.heap.size w (w.alloc (.cells #[U x0, U x1, U x2, U x3] 81))) := hb
  have Jx : Hid (IHolds (w.alloc (.cells #[U x0, U x1, U x2, U x3] 81)) w.heap.size 81 [U x0, U x1, U x2, U x3]) := IHolds.new w 81 _
  replace J1 := aJ J1 hb
  replace J2 := aJ J2 hb
  replace J3 := aJ J3 hb
  clear hb
  have zs0 : (w.alloc (.cells #[U x0, U x1, U x2, U x3] 81)).cell? ⟨q1, 0, none⟩ = some (.func (.func 55) #[] #[]) := J1.out.cell 0 (by simp)
  have zs1 : (w.alloc (.cells #[U x0, U x1, U x2, U x3] 81)).cell? ⟨q2, 0, none⟩ = some (.string s) := J2.out.cell 0 (by simp)
  go_enter Tryz.func96, Tryz.ntmps96
  go_wp2_with fail
  clear zs0 zs1
  generalize (w.alloc (.cells #[U x0, U x1, U x2, U x3] 81)) = V0 at *
  refine (C1.out V0 B.out).mono ?_
  rintro e U1 ⟨rfl, hb⟩
  replace B := aB B hb
  replace Jx := aJ Jx hb
  replace J3 := aJ J3 hb
  clear hb
  have hb := nB U1 (.cells #[U z0, U z1, U z2, U z3] 81)
  have ne_x : Hid (w.heap.size ≠ U1.heap.size) := nJ Jx
  replace B := aB B hb
  replace J3 := aJ J3 hb
  replace Jx := aJ Jx hb
  clear hb J1 J2
  have zs0 : (U1.alloc (.cells #[U z0, U z1, U z2, U z3] 81)).cell? ⟨q3, 0, none⟩ = some (.func (.func 83) #[] #[]) := J3.out.cell 0 (by simp)
  have zx0 : (U1.alloc (.cells #[U z0, U z1, U z2, U z3] 81)).cell? ⟨w.heap.size, 0, none⟩ = some (U x0) := Jx.out.cell 0 (by simp)
  have zx1 : (U1.alloc (.cells #[U z0, U z1, U z2, U z3] 81)).cell? ⟨w.heap.size, 1, none⟩ = some (U x1) := Jx.out.cell 1 (by simp)
  have zx2 : (U1.alloc (.cells #[U z0, U z1, U z2, U z3] 81)).cell? ⟨w.heap.size, 2, none⟩ = some (U x2) := Jx.out.cell 2 (by simp)
  have zx3 : (U1.alloc (.cells #[U z0, U z1, U z2, U z3] 81)).cell? ⟨w.heap.size, 3, none⟩ = some (U x3) := Jx.out.cell 3 (by simp)
  go_wp2_with fail
  clear zs0 zx0 zx1 zx2 zx3
  refine (C2.out (U1.alloc (.cells #[U z0, U z1, U z2, U z3] 81)) B.out).mono ?_
  rintro e V9 ⟨rfl, hb⟩
  replace B := aB B hb
  clear hb
  go_wp2_with fail
  go_ret2
  exact ⟨rfl, B.out⟩
set_option maxRecDepth 100000 in
set_option maxHeartbeats 2000000 in
theorem clos96_59_76 {w : World} {g q1 q2 q3  : Nat} {s t : ByteArray} {x0 x1 x2 x3 z0 z1 z2 z3 : Nat} {c : Int} (J1 : Hid (IHolds w q1 124 [.func (.func 57) #[] #[]])) (J2 : Hid (IHolds w q2 9 [.string s])) (J3 : Hid (IHolds w q3 109 [.func (.func 80) #[] #[]]))
    (C1 : Hid (∀ W, Below w.heap.size w W → Calls Tryz.prog 57 #[.pointer (some ⟨g, 0, none⟩), .string s] W fun e w' => e = .returned (.tuple #[.agg #[U z0, U z1, U z2, U z3], .int .i64 0]) ∧ Below W.heap.size W w')) (C2 : Hid (∀ W, Below w.heap.size w W → Calls Tryz.prog 80 #[.pointer (some ⟨g, 0, none⟩), .agg #[U x0, U x1, U x2, U x3], .agg #[U z0, U z1, U z2, U z3]] W fun e w' => e = .returned (.tuple #[.string t, .int .i64 c]) ∧ Below W.heap.size W w')) :
    Calls Tryz.prog 96 #[.pointer (some ⟨g, 0, none⟩), .agg #[U x0, U x1, U x2, U x3], .pointer (some ⟨q1, 0, none⟩), .pointer (some ⟨q2, 0, none⟩), .pointer (some ⟨q3, 0, none⟩)] w fun e w' => e = .returned (.tuple #[.string t, .int .i64 c]) ∧ Below w.heap.size w w' := by
  have hb := nB w (.cells #[U x0, U x1, U x2, U x3] 81)
  have B : Hid (Below w.heap.size w (w.alloc (.cells #[U x0, U x1, U x2, U x3] 81))) := hb
  have Jx : Hid (IHolds (w.alloc (.cells #[U x0, U x1, U x2, U x3] 81)) w.heap.size 81 [U x0, U x1, U x2, U x3]) := IHolds.new w 81 _
  replace J1 := aJ J1 hb
  replace J2 := aJ J2 hb
  replace J3 := aJ J3 hb
  clear hb
  have zs0 : (w.alloc (.cells #[U x0, U x1, U x2, U x3] 81)).cell? ⟨q1, 0, none⟩ = some (.func (.func 57) #[] #[]) := J1.out.cell 0 (by simp)
  have zs1 : (w.alloc (.cells #[U x0, U x1, U x2, U x3] 81)).cell? ⟨q2, 0, none⟩ = some (.string s) := J2.out.cell 0 (by simp)
  go_enter Tryz.func96, Tryz.ntmps96
  go_wp2_with fail
  clear zs0 zs1
  generalize (w.alloc (.cells #[U x0, U x1, U x2, U x3] 81)) = V0 at *
  refine (C1.out V0 B.out).mono ?_
  rintro e U1 ⟨rfl, hb⟩
  replace B := aB B hb
  replace Jx := aJ Jx hb
  replace J3 := aJ J3 hb
  clear hb
  have hb := nB U1 (.cells #[U z0, U z1, U z2, U z3] 81)
  have ne_x : Hid (w.heap.size ≠ U1.heap.size) := nJ Jx
  replace B := aB B hb
  replace J3 := aJ J3 hb
  replace Jx := aJ Jx hb
  clear hb J1 J2
  have zs0 : (U1.alloc (.cells #[U z0, U z1, U z2, U z3] 81)).cell? ⟨q3, 0, none⟩ = some (.func (.func 80) #[] #[]) := J3.out.cell 0 (by simp)
  have zx0 : (U1.alloc (.cells #[U z0, U z1, U z2, U z3] 81)).cell? ⟨w.heap.size, 0, none⟩ = some (U x0) := Jx.out.cell 0 (by simp)
  have zx1 : (U1.alloc (.cells #[U z0, U z1, U z2, U z3] 81)).cell? ⟨w.heap.size, 1, none⟩ = some (U x1) := Jx.out.cell 1 (by simp)
  have zx2 : (U1.alloc (.cells #[U z0, U z1, U z2, U z3] 81)).cell? ⟨w.heap.size, 2, none⟩ = some (U x2) := Jx.out.cell 2 (by simp)
  have zx3 : (U1.alloc (.cells #[U z0, U z1, U z2, U z3] 81)).cell? ⟨w.heap.size, 3, none⟩ = some (U x3) := Jx.out.cell 3 (by simp)
  go_wp2_with fail
  clear zs0 zx0 zx1 zx2 zx3
  refine (C2.out (U1.alloc (.cells #[U z0, U z1, U z2, U z3] 81)) B.out).mono ?_
  rintro e V9 ⟨rfl, hb⟩
  replace B := aB B hb
  clear hb
  go_wp2_with fail
  go_ret2
  exact ⟨rfl, B.out⟩
set_option maxRecDepth 100000 in
set_option maxHeartbeats 2000000 in
theorem clos96_61_bad {w : World} {g q1 q2 q3  : Nat} {s : ByteArray} {x0 x1 x2 x3 z0 z1 z2 z3 : Nat} {c : Int} (hc : (c != 0) = true) (hc1 : c ≠ 0) (J1 : Hid (IHolds w q1 124 [.func (.func 55) #[] #[]])) (J2 : Hid (IHolds w q2 9 [.string s])) 
    (C1 : Hid (∀ W, Below w.heap.size w W → Calls Tryz.prog 55 #[.pointer (some ⟨g, 0, none⟩), .string s] W fun e w' => e = .returned (.tuple #[.agg #[U z0, U z1, U z2, U z3], .int .i64 c]) ∧ Below W.heap.size W w'))  :
    Calls Tryz.prog 96 #[.pointer (some ⟨g, 0, none⟩), .agg #[U x0, U x1, U x2, U x3], .pointer (some ⟨q1, 0, none⟩), .pointer (some ⟨q2, 0, none⟩), .pointer (some ⟨q3, 0, none⟩)] w fun e w' => e = .returned (.tuple #[.string ⟨#[]⟩, .int .i64 c]) ∧ Below w.heap.size w w' := by
  have hb := nB w (.cells #[U x0, U x1, U x2, U x3] 81)
  have B : Hid (Below w.heap.size w (w.alloc (.cells #[U x0, U x1, U x2, U x3] 81))) := hb
  have Jx : Hid (IHolds (w.alloc (.cells #[U x0, U x1, U x2, U x3] 81)) w.heap.size 81 [U x0, U x1, U x2, U x3]) := IHolds.new w 81 _
  replace J1 := aJ J1 hb
  replace J2 := aJ J2 hb
  clear hb
  have zs0 : (w.alloc (.cells #[U x0, U x1, U x2, U x3] 81)).cell? ⟨q1, 0, none⟩ = some (.func (.func 55) #[] #[]) := J1.out.cell 0 (by simp)
  have zs1 : (w.alloc (.cells #[U x0, U x1, U x2, U x3] 81)).cell? ⟨q2, 0, none⟩ = some (.string s) := J2.out.cell 0 (by simp)
  go_enter Tryz.func96, Tryz.ntmps96
  go_wp2_with fail
  clear zs0 zs1
  generalize (w.alloc (.cells #[U x0, U x1, U x2, U x3] 81)) = V0 at *
  refine (C1.out V0 B.out).mono ?_
  rintro e U1 ⟨rfl, hb⟩
  replace B := aB B hb
  replace Jx := aJ Jx hb
  clear hb
  replace B := aB B (nB U1 (.cells #[U z0, U z1, U z2, U z3] 81))
  go_wp2_with fail
  go_ret2
  exact ⟨rfl, B.out⟩
end Go.Proofs.YtohpbclofcflaaaGreat
