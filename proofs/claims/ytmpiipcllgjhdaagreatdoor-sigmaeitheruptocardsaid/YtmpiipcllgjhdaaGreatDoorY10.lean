/- What is handed in is read, and what comes of one or two of them. -/
import Derived.Test.YtmpiipcllgjhdaaGreatDoorY09
import Derived.Test.YtmpiipcllgjhdaaGreatDoorY05
import Derived.Test.YtmpiipcllgjhdaaGreatDoorY04
set_option linter.unusedSimpArgs false
set_option linter.unusedVariables false
namespace Go.Proofs.YtmpiipcllgjhdaaGreatDoor
open Go.RowKit Go.Deep Go.PlainAid

set_option maxRecDepth 100000 in
set_option maxHeartbeats 2000000 in
theorem on48_88 {w : World} {z : Int} {G : Array Value} {p1 p2 p3 : Nat} {t : ByteArray} {c : Int} (hG : gz.size = G.size) (hi : (Tryz.prog.info? 111).map (·.size) = some G.size) (h1 : G.all (·.oneCell') = true)
    (CG : Hid (∀ W, Calls Tryz.prog 62 #[.int .i64 z] W fun e w' => e = .returned (.tuple #[.agg G, .bool true]) ∧ Below W.heap.size W w')) (HF : Hid (∀ W g, IHolds W g 111 G.toList → Below w.heap.size w W → Calls Tryz.prog 104 #[.pointer (some ⟨g, 0, none⟩), .pointer (some ⟨p1, 0, none⟩), .pointer (some ⟨p2, 0, none⟩), .pointer (some ⟨p3, 0, none⟩)] W fun e w' => e = .returned (.tuple #[.string t, .int .i64 c]) ∧ Below W.heap.size W w')) :
    Calls Tryz.prog 33 #[.int .i64 z, .func (.func 104) #[] #[.pointer (some ⟨p1, 0, none⟩), .pointer (some ⟨p2, 0, none⟩), .pointer (some ⟨p3, 0, none⟩)]] w fun e w' => e = .returned (.tuple #[.string t, .int .i64 c]) ∧ Below w.heap.size w w' := by
  go_enter Tryz.func33, Tryz.ntmps33
  go_wp2_with fail
  refine (CG.out w).mono ?_
  rintro e U1 ⟨rfl, hb⟩
  have B : Hid (Below w.heap.size w U1) := hb
  clear hb
  have hg : (U1.alloc (.cells gz 111)).heap[U1.heap.size]? = some (.cells gz 111 (0, 0)) := by
    have h := IHolds.new U1 111 gz.toList
    unfold IHolds at h
    rw [Array.toArray_toList] at h
    exact h
  have J : Hid (IHolds (U1.alloc (.cells G 111)) U1.heap.size 111 G.toList) := by
    have h := IHolds.new U1 111 G.toList
    rw [Array.toArray_toList] at h
    exact h
  replace B := aB B (nB U1 (.cells G 111))
  go_wp2_with (refine wpList_store_row rfl 111 (.tmp 6) (.tmp 12) rfl U1.heap.size G rfl rfl 111 gz hg hi hG h1 ?_; rw [World.setRow_alloc_new]; clear hg)
  generalize U1.alloc (.cells G 111) = U2 at *
  refine (HF.out U2 _ J.out B.out).mono ?_
  rintro e U3 ⟨rfl, hb⟩
  replace B := aB B hb
  clear hb
  go_wp2_with fail
  go_ret2
  exact ⟨rfl, B.out⟩
set_option maxRecDepth 100000 in
set_option maxHeartbeats 2000000 in
theorem clos88_59_96 {w : World} {g p1 p2 p3 q1 q2 q3 : Nat} {s t : ByteArray} {z0 z1 z2 z3 : Nat} {c : Int} (J1 : Hid (IHolds w p1 117 [.func (.func 32) #[] #[]])) (J2 : Hid (IHolds w p2 9 [.string s])) (J3 : Hid (IHolds w p3 119 [.func (.func 67) #[] #[.pointer (some ⟨q1, 0, none⟩), .pointer (some ⟨q2, 0, none⟩), .pointer (some ⟨q3, 0, none⟩)]]))
    (C1 : Hid (∀ W, Below w.heap.size w W → Calls Tryz.prog 32 #[.pointer (some ⟨g, 0, none⟩), .string s] W fun e w' => e = .returned (.tuple #[.agg #[U z0, U z1, U z2, U z3], .int .i64 0]) ∧ Below W.heap.size W w')) (C2 : Hid (∀ W, Below w.heap.size w W → Calls Tryz.prog 67 #[.pointer (some ⟨g, 0, none⟩), .agg #[U z0, U z1, U z2, U z3], .pointer (some ⟨q1, 0, none⟩), .pointer (some ⟨q2, 0, none⟩), .pointer (some ⟨q3, 0, none⟩)] W fun e w' => e = .returned (.tuple #[.string t, .int .i64 c]) ∧ Below W.heap.size W w')) :
    Calls Tryz.prog 104 #[.pointer (some ⟨g, 0, none⟩), .pointer (some ⟨p1, 0, none⟩), .pointer (some ⟨p2, 0, none⟩), .pointer (some ⟨p3, 0, none⟩)] w fun e w' => e = .returned (.tuple #[.string t, .int .i64 c]) ∧ Below w.heap.size w w' := by
  have B : Hid (Below w.heap.size w w) := Below.refl _ _
  have zs0 : w.cell? ⟨p1, 0, none⟩ = some (.func (.func 32) #[] #[]) := J1.out.cell 0 (by simp)
  have zs1 : w.cell? ⟨p2, 0, none⟩ = some (.string s) := J2.out.cell 0 (by simp)
  go_enter Tryz.func104, Tryz.ntmps104
  go_wp2_with fail
  clear zs0 zs1
  refine (C1.out w B.out).mono ?_
  rintro e U1 ⟨rfl, hb⟩
  replace B := aB B hb
  replace J1 := aJ J1 hb
  replace J2 := aJ J2 hb
  replace J3 := aJ J3 hb
  clear hb
  have hb := nB U1 (.cells #[U z0, U z1, U z2, U z3] 73)
  replace B := aB B hb
  replace J3 := aJ J3 hb
  clear hb J1 J2
  have zs0 : (U1.alloc (.cells #[U z0, U z1, U z2, U z3] 73)).cell? ⟨p3, 0, none⟩ = some (.func (.func 67) #[] #[.pointer (some ⟨q1, 0, none⟩), .pointer (some ⟨q2, 0, none⟩), .pointer (some ⟨q3, 0, none⟩)]) := J3.out.cell 0 (by simp)
  go_wp2_with fail
  clear zs0
  refine (C2.out (U1.alloc (.cells #[U z0, U z1, U z2, U z3] 73)) B.out).mono ?_
  rintro e V9 ⟨rfl, hb⟩
  replace B := aB B hb
  clear hb
  go_wp2_with fail
  go_ret2
  exact ⟨rfl, B.out⟩
set_option maxRecDepth 100000 in
set_option maxHeartbeats 2000000 in
theorem clos88_61_96 {w : World} {g p1 p2 p3 q1 q2 q3 : Nat} {s t : ByteArray} {z0 z1 z2 z3 : Nat} {c : Int} (J1 : Hid (IHolds w p1 117 [.func (.func 36) #[] #[]])) (J2 : Hid (IHolds w p2 9 [.string s])) (J3 : Hid (IHolds w p3 119 [.func (.func 67) #[] #[.pointer (some ⟨q1, 0, none⟩), .pointer (some ⟨q2, 0, none⟩), .pointer (some ⟨q3, 0, none⟩)]]))
    (C1 : Hid (∀ W, Below w.heap.size w W → Calls Tryz.prog 36 #[.pointer (some ⟨g, 0, none⟩), .string s] W fun e w' => e = .returned (.tuple #[.agg #[U z0, U z1, U z2, U z3], .int .i64 0]) ∧ Below W.heap.size W w')) (C2 : Hid (∀ W, Below w.heap.size w W → Calls Tryz.prog 67 #[.pointer (some ⟨g, 0, none⟩), .agg #[U z0, U z1, U z2, U z3], .pointer (some ⟨q1, 0, none⟩), .pointer (some ⟨q2, 0, none⟩), .pointer (some ⟨q3, 0, none⟩)] W fun e w' => e = .returned (.tuple #[.string t, .int .i64 c]) ∧ Below W.heap.size W w')) :
    Calls Tryz.prog 104 #[.pointer (some ⟨g, 0, none⟩), .pointer (some ⟨p1, 0, none⟩), .pointer (some ⟨p2, 0, none⟩), .pointer (some ⟨p3, 0, none⟩)] w fun e w' => e = .returned (.tuple #[.string t, .int .i64 c]) ∧ Below w.heap.size w w' := by
  have B : Hid (Below w.heap.size w w) := Below.refl _ _
  have zs0 : w.cell? ⟨p1, 0, none⟩ = some (.func (.func 36) #[] #[]) := J1.out.cell 0 (by simp)
  have zs1 : w.cell? ⟨p2, 0, none⟩ = some (.string s) := J2.out.cell 0 (by simp)
  go_enter Tryz.func104, Tryz.ntmps104
  go_wp2_with fail
  clear zs0 zs1
  refine (C1.out w B.out).mono ?_
  rintro e U1 ⟨rfl, hb⟩
  replace B := aB B hb
  replace J1 := aJ J1 hb
  replace J2 := aJ J2 hb
  replace J3 := aJ J3 hb
  clear hb
  have hb := nB U1 (.cells #[U z0, U z1, U z2, U z3] 73)
  replace B := aB B hb
  replace J3 := aJ J3 hb
  clear hb J1 J2
  have zs0 : (U1.alloc (.cells #[U z0, U z1, U z2, U z3] 73)).cell? ⟨p3, 0, none⟩ = some (.func (.func 67) #[] #[.pointer (some ⟨q1, 0, none⟩), .pointer (some ⟨q2, 0, none⟩), .pointer (some ⟨q3, 0, none⟩)]) := J3.out.cell 0 (by simp)
  go_wp2_with fail
  clear zs0
  refine (C2.out (U1.alloc (.cells #[U z0, U z1, U z2, U z3] 73)) B.out).mono ?_
  rintro e V9 ⟨rfl, hb⟩
  replace B := aB B hb
  clear hb
  go_wp2_with fail
  go_ret2
  exact ⟨rfl, B.out⟩
set_option maxRecDepth 100000 in
set_option maxHeartbeats 2000000 in
theorem clos96_59_91 {w : World} {g q1 q2 q3 r1 : Nat} {s t : ByteArray} {x0 x1 x2 x3 z0 z1 z2 z3 : Nat} {c : Int} (J1 : Hid (IHolds w q1 117 [.func (.func 32) #[] #[]])) (J2 : Hid (IHolds w q2 9 [.string s])) (J3 : Hid (IHolds w q3 84 [.func (.func 148) #[] #[.pointer (some ⟨r1, 0, none⟩)]]))
    (C1 : Hid (∀ W, Below w.heap.size w W → Calls Tryz.prog 32 #[.pointer (some ⟨g, 0, none⟩), .string s] W fun e w' => e = .returned (.tuple #[.agg #[U z0, U z1, U z2, U z3], .int .i64 0]) ∧ Below W.heap.size W w')) (C2 : Hid (∀ W, Below w.heap.size w W → Calls Tryz.prog 148 #[.pointer (some ⟨g, 0, none⟩), .agg #[U x0, U x1, U x2, U x3], .agg #[U z0, U z1, U z2, U z3], .pointer (some ⟨r1, 0, none⟩)] W fun e w' => e = .returned (.tuple #[.string t, .int .i64 c]) ∧ Below W.heap.size W w')) :
    Calls Tryz.prog 67 #[.pointer (some ⟨g, 0, none⟩), .agg #[U x0, U x1, U x2, U x3], .pointer (some ⟨q1, 0, none⟩), .pointer (some ⟨q2, 0, none⟩), .pointer (some ⟨q3, 0, none⟩)] w fun e w' => e = .returned (.tuple #[.string t, .int .i64 c]) ∧ Below w.heap.size w w' := by
  have hb := nB w (.cells #[U x0, U x1, U x2, U x3] 73)
  have B : Hid (Below w.heap.size w (w.alloc (.cells #[U x0, U x1, U x2, U x3] 73))) := hb
  have Jx : Hid (IHolds (w.alloc (.cells #[U x0, U x1, U x2, U x3] 73)) w.heap.size 73 [U x0, U x1, U x2, U x3]) := IHolds.new w 73 _
  replace J1 := aJ J1 hb
  replace J2 := aJ J2 hb
  replace J3 := aJ J3 hb
  clear hb
  have zs0 : (w.alloc (.cells #[U x0, U x1, U x2, U x3] 73)).cell? ⟨q1, 0, none⟩ = some (.func (.func 32) #[] #[]) := J1.out.cell 0 (by simp)
  have zs1 : (w.alloc (.cells #[U x0, U x1, U x2, U x3] 73)).cell? ⟨q2, 0, none⟩ = some (.string s) := J2.out.cell 0 (by simp)
  go_enter Tryz.func67, Tryz.ntmps67
  go_wp2_with fail
  clear zs0 zs1
  generalize (w.alloc (.cells #[U x0, U x1, U x2, U x3] 73)) = V0 at *
  refine (C1.out V0 B.out).mono ?_
  rintro e U1 ⟨rfl, hb⟩
  replace B := aB B hb
  replace Jx := aJ Jx hb
  replace J3 := aJ J3 hb
  clear hb
  have hb := nB U1 (.cells #[U z0, U z1, U z2, U z3] 73)
  have ne_x : Hid (w.heap.size ≠ U1.heap.size) := nJ Jx
  replace B := aB B hb
  replace J3 := aJ J3 hb
  replace Jx := aJ Jx hb
  clear hb J1 J2
  have zs0 : (U1.alloc (.cells #[U z0, U z1, U z2, U z3] 73)).cell? ⟨q3, 0, none⟩ = some (.func (.func 148) #[] #[.pointer (some ⟨r1, 0, none⟩)]) := J3.out.cell 0 (by simp)
  have zx0 : (U1.alloc (.cells #[U z0, U z1, U z2, U z3] 73)).cell? ⟨w.heap.size, 0, none⟩ = some (U x0) := Jx.out.cell 0 (by simp)
  have zx1 : (U1.alloc (.cells #[U z0, U z1, U z2, U z3] 73)).cell? ⟨w.heap.size, 1, none⟩ = some (U x1) := Jx.out.cell 1 (by simp)
  have zx2 : (U1.alloc (.cells #[U z0, U z1, U z2, U z3] 73)).cell? ⟨w.heap.size, 2, none⟩ = some (U x2) := Jx.out.cell 2 (by simp)
  have zx3 : (U1.alloc (.cells #[U z0, U z1, U z2, U z3] 73)).cell? ⟨w.heap.size, 3, none⟩ = some (U x3) := Jx.out.cell 3 (by simp)
  go_wp2_with fail
  clear zs0 zx0 zx1 zx2 zx3
  refine (C2.out (U1.alloc (.cells #[U z0, U z1, U z2, U z3] 73)) B.out).mono ?_
  rintro e V9 ⟨rfl, hb⟩
  replace B := aB B hb
  clear hb
  go_wp2_with fail
  go_ret2
  exact ⟨rfl, B.out⟩
set_option maxRecDepth 100000 in
set_option maxHeartbeats 2000000 in
theorem clos96_59_76 {w : World} {g q1 q2 q3  : Nat} {s t : ByteArray} {x0 x1 x2 x3 z0 z1 z2 z3 : Nat} {c : Int} (J1 : Hid (IHolds w q1 117 [.func (.func 32) #[] #[]])) (J2 : Hid (IHolds w q2 9 [.string s])) (J3 : Hid (IHolds w q3 84 [.func (.func 38) #[] #[]]))
    (C1 : Hid (∀ W, Below w.heap.size w W → Calls Tryz.prog 32 #[.pointer (some ⟨g, 0, none⟩), .string s] W fun e w' => e = .returned (.tuple #[.agg #[U z0, U z1, U z2, U z3], .int .i64 0]) ∧ Below W.heap.size W w')) (C2 : Hid (∀ W, Below w.heap.size w W → Calls Tryz.prog 38 #[.pointer (some ⟨g, 0, none⟩), .agg #[U x0, U x1, U x2, U x3], .agg #[U z0, U z1, U z2, U z3]] W fun e w' => e = .returned (.tuple #[.string t, .int .i64 c]) ∧ Below W.heap.size W w')) :
    Calls Tryz.prog 67 #[.pointer (some ⟨g, 0, none⟩), .agg #[U x0, U x1, U x2, U x3], .pointer (some ⟨q1, 0, none⟩), .pointer (some ⟨q2, 0, none⟩), .pointer (some ⟨q3, 0, none⟩)] w fun e w' => e = .returned (.tuple #[.string t, .int .i64 c]) ∧ Below w.heap.size w w' := by
  have hb := nB w (.cells #[U x0, U x1, U x2, U x3] 73)
  have B : Hid (Below w.heap.size w (w.alloc (.cells #[U x0, U x1, U x2, U x3] 73))) := hb
  have Jx : Hid (IHolds (w.alloc (.cells #[U x0, U x1, U x2, U x3] 73)) w.heap.size 73 [U x0, U x1, U x2, U x3]) := IHolds.new w 73 _
  replace J1 := aJ J1 hb
  replace J2 := aJ J2 hb
  replace J3 := aJ J3 hb
  clear hb
  have zs0 : (w.alloc (.cells #[U x0, U x1, U x2, U x3] 73)).cell? ⟨q1, 0, none⟩ = some (.func (.func 32) #[] #[]) := J1.out.cell 0 (by simp)
  have zs1 : (w.alloc (.cells #[U x0, U x1, U x2, U x3] 73)).cell? ⟨q2, 0, none⟩ = some (.string s) := J2.out.cell 0 (by simp)
  go_enter Tryz.func67, Tryz.ntmps67
  go_wp2_with fail
  clear zs0 zs1
  generalize (w.alloc (.cells #[U x0, U x1, U x2, U x3] 73)) = V0 at *
  refine (C1.out V0 B.out).mono ?_
  rintro e U1 ⟨rfl, hb⟩
  replace B := aB B hb
  replace Jx := aJ Jx hb
  replace J3 := aJ J3 hb
  clear hb
  have hb := nB U1 (.cells #[U z0, U z1, U z2, U z3] 73)
  have ne_x : Hid (w.heap.size ≠ U1.heap.size) := nJ Jx
  replace B := aB B hb
  replace J3 := aJ J3 hb
  replace Jx := aJ Jx hb
  clear hb J1 J2
  have zs0 : (U1.alloc (.cells #[U z0, U z1, U z2, U z3] 73)).cell? ⟨q3, 0, none⟩ = some (.func (.func 38) #[] #[]) := J3.out.cell 0 (by simp)
  have zx0 : (U1.alloc (.cells #[U z0, U z1, U z2, U z3] 73)).cell? ⟨w.heap.size, 0, none⟩ = some (U x0) := Jx.out.cell 0 (by simp)
  have zx1 : (U1.alloc (.cells #[U z0, U z1, U z2, U z3] 73)).cell? ⟨w.heap.size, 1, none⟩ = some (U x1) := Jx.out.cell 1 (by simp)
  have zx2 : (U1.alloc (.cells #[U z0, U z1, U z2, U z3] 73)).cell? ⟨w.heap.size, 2, none⟩ = some (U x2) := Jx.out.cell 2 (by simp)
  have zx3 : (U1.alloc (.cells #[U z0, U z1, U z2, U z3] 73)).cell? ⟨w.heap.size, 3, none⟩ = some (U x3) := Jx.out.cell 3 (by simp)
  go_wp2_with fail
  clear zs0 zx0 zx1 zx2 zx3
  refine (C2.out (U1.alloc (.cells #[U z0, U z1, U z2, U z3] 73)) B.out).mono ?_
  rintro e V9 ⟨rfl, hb⟩
  replace B := aB B hb
  clear hb
  go_wp2_with fail
  go_ret2
  exact ⟨rfl, B.out⟩
set_option maxRecDepth 100000 in
set_option maxHeartbeats 2000000 in
theorem clos91_71 {w : World} {g r1 : Nat} {t : ByteArray} {x0 x1 x2 x3 m0 m1 m2 m3 v0 v1 v2 v3 : Nat} (Jh : Hid (IHolds w r1 181 [.func (.func 132) #[] #[]]))
    (C1 : Hid (∀ W, Below w.heap.size w W → Calls Tryz.prog 132 #[.pointer (some ⟨g, 1, none⟩), .agg #[U x0, U x1, U x2, U x3], .agg #[U m0, U m1, U m2, U m3]] W fun e w' => e = .returned (.agg #[U v0, U v1, U v2, U v3]) ∧ Below W.heap.size W w')) (C2 : Hid (∀ W, Below w.heap.size w W → Calls Tryz.prog 65 #[.pointer (some ⟨g, 0, none⟩), .agg #[U v0, U v1, U v2, U v3]] W fun e w' => e = .returned (.tuple #[.string t, .int .i64 0]) ∧ Below W.heap.size W w')) :
    Calls Tryz.prog 148 #[.pointer (some ⟨g, 0, none⟩), .agg #[U x0, U x1, U x2, U x3], .agg #[U m0, U m1, U m2, U m3], .pointer (some ⟨r1, 0, none⟩)] w fun e w' => e = .returned (.tuple #[.string t, .int .i64 0]) ∧ Below w.heap.size w w' := by
  have hh0 := Jh.out.lt
  go_enter Tryz.func148, Tryz.ntmps148
  go_wp2_with fail
  obtain ⟨U1, hU1⟩ : ∃ X, X = ((w.alloc (.cells #[U x0, U x1, U x2, U x3] 73)).alloc (.cells #[U m0, U m1, U m2, U m3] 73)) := ⟨_, rfl⟩
  have Jx : Hid (IHolds U1 (w.heap.size) 73 [U x0, U x1, U x2, U x3]) := by
    have q := IHolds.new w 73 [U x0, U x1, U x2, U x3]
    show IHolds _ _ _ _
    rw [hU1]
    exact (q.alloc _)
  have Jm : Hid (IHolds U1 (w.heap.size + 1) 73 [U m0, U m1, U m2, U m3]) := by
    have q := IHolds.new (w.alloc (.cells #[U x0, U x1, U x2, U x3] 73)) 73 [U m0, U m1, U m2, U m3]
    simp only [World.size_alloc, Nat.add_assoc, Nat.reduceAdd] at q
    show IHolds _ _ _ _
    rw [hU1]
    exact q
  have B : Hid (Below w.heap.size w U1) := by
    show Below _ _ _
    rw [hU1]
    exact (((Below.refl _ w).alloc (Nat.le_refl _) _).alloc (by simp only [World.size_alloc]; omega) _)
  rw [← hU1]
  clear hU1
  replace Jh := aJ Jh B.out
  have hb := dB U1
  replace B := aB B hb
  replace Jh := aJ Jh hb
  replace Jx := aJ Jx hb
  replace Jm := aJ Jm hb
  clear hb
  refine wp_region_held_drew (S := fun W => (IHolds W (r1) 181 [(.func (.func 132) #[] #[])]) ∧ (IHolds W (w.heap.size) 73 [U x0, U x1, U x2, U x3]) ∧ (IHolds W (w.heap.size + 1) 73 [U m0, U m1, U m2, U m3])) (by kernel_rfl) ⟨Jh.out, Jx.out, Jm.out⟩ (fun hHeld1 => ?_)
  generalize U1.drew = U2 at *
  refine tk (i := 0) (v := .pointer (some ⟨g, 0, none⟩)) rfl (by kernel_rfl) (fun _ _ _ h => h) rfl ?_ hHeld1 ?_
  · intro W hS; go_simp
  simp only [Act.put, y1, y2, y3, y4, y5, y6, y7]
  refine tk (i := 1) (v := (.func (.func 132) #[] #[])) rfl (by kernel_rfl) (fun _ _ _ h => h) rfl ?_ hHeld1 ?_
  · intro W hS; have zh_0 : W.cell? ⟨r1, 0, none⟩ = some ((.func (.func 132) #[] #[])) := IHolds.cell (l := [(.func (.func 132) #[] #[])]) (t := 181) (b := r1) (w := W) (hS.1) 0 (by simp); go_simp
  simp only [Act.put, y1, y2, y3, y4, y5, y6, y7]
  refine tk (i := 2) (v := .pointer (some ⟨g, 0, none⟩)) rfl (by kernel_rfl) (fun _ _ _ h => h) rfl ?_ hHeld1 ?_
  · intro W hS; go_simp
  simp only [Act.put, y1, y2, y3, y4, y5, y6, y7]
  refine tk (i := 5) (v := .agg #[U x0, U x1, U x2, U x3]) rfl (by kernel_rfl) (fun _ _ _ h => h) rfl ?_ hHeld1 ?_
  · intro W hS; have zx_0 : W.cell? ⟨w.heap.size, 0, none⟩ = some (U x0) := IHolds.cell (l := [U x0, U x1, U x2, U x3]) (t := 73) (b := w.heap.size) (w := W) (hS.2.1) 0 (by simp); have zx_1 : W.cell? ⟨w.heap.size, 1, none⟩ = some (U x1) := IHolds.cell (l := [U x0, U x1, U x2, U x3]) (t := 73) (b := w.heap.size) (w := W) (hS.2.1) 1 (by simp); have zx_2 : W.cell? ⟨w.heap.size, 2, none⟩ = some (U x2) := IHolds.cell (l := [U x0, U x1, U x2, U x3]) (t := 73) (b := w.heap.size) (w := W) (hS.2.1) 2 (by simp); have zx_3 : W.cell? ⟨w.heap.size, 3, none⟩ = some (U x3) := IHolds.cell (l := [U x0, U x1, U x2, U x3]) (t := 73) (b := w.heap.size) (w := W) (hS.2.1) 3 (by simp); go_simp
  simp only [Act.put, y1, y2, y3, y4, y5, y6, y7]
  refine tk (i := 6) (v := .agg #[U m0, U m1, U m2, U m3]) rfl (by kernel_rfl) (fun _ _ _ h => h) rfl ?_ hHeld1 ?_
  · intro W hS; have zm_0 : W.cell? ⟨w.heap.size + 1, 0, none⟩ = some (U m0) := IHolds.cell (l := [U m0, U m1, U m2, U m3]) (t := 73) (b := w.heap.size + 1) (w := W) (hS.2.2) 0 (by simp); have zm_1 : W.cell? ⟨w.heap.size + 1, 1, none⟩ = some (U m1) := IHolds.cell (l := [U m0, U m1, U m2, U m3]) (t := 73) (b := w.heap.size + 1) (w := W) (hS.2.2) 1 (by simp); have zm_2 : W.cell? ⟨w.heap.size + 1, 2, none⟩ = some (U m2) := IHolds.cell (l := [U m0, U m1, U m2, U m3]) (t := 73) (b := w.heap.size + 1) (w := W) (hS.2.2) 2 (by simp); have zm_3 : W.cell? ⟨w.heap.size + 1, 3, none⟩ = some (U m3) := IHolds.cell (l := [U m0, U m1, U m2, U m3]) (t := 73) (b := w.heap.size + 1) (w := W) (hS.2.2) 3 (by simp); go_simp
  simp only [Act.put, y1, y2, y3, y4, y5, y6, y7]
  refine tk (i := 3) (v := .pointer (some ⟨g, 0, none⟩)) rfl (by kernel_rfl) (fun _ _ _ h => h) rfl ?_ hHeld1 ?_
  · intro W hS; go_simp
  simp only [Act.put, y1, y2, y3, y4, y5, y6, y7]
  refine tk (i := 4) (v := .pointer (some ⟨g, 1, none⟩)) rfl (by kernel_rfl) (fun _ _ _ h => h) rfl ?_ hHeld1 ?_
  · intro W hS; go_simp
  simp only [Act.put, y1, y2, y3, y4, y5, y6, y7]
  refine wpAnyH_ready (rs := [7]) (by kernel_rfl) (by simp) ?_
  refine AllReadyH.cons rfl (fun K hK => ?_) AllReadyH.nil
  clear hHeld1
  go_simp
  refine (C1.out U2 B.out).mono ?_
  rintro e U3 ⟨rfl, hb⟩
  replace B := aB B hb
  replace Jh := aJ Jh hb
  replace Jx := aJ Jx hb
  replace Jm := aJ Jm hb
  clear hb
  go_wp2_with fail
  refine hK.out _ _ (⟨Jh.out, Jx.out, Jm.out⟩) (fun hHeld2 => ?_)
  clear hK K
  try simp only [Act.put, y1, y2, y3, y4, y5, y6, y7]
  refine wpAnyH_ready (rs := [8]) (by kernel_rfl) (by simp) ?_
  refine AllReadyH.cons rfl (fun K hK => ?_) AllReadyH.nil
  clear hHeld2
  go_simp
  refine (C2.out U3 B.out).mono ?_
  rintro e U4 ⟨rfl, hb⟩
  replace B := aB B hb
  replace Jh := aJ Jh hb
  replace Jx := aJ Jx hb
  replace Jm := aJ Jm hb
  clear hb
  go_wp2_with fail
  refine hK.out _ _ (⟨Jh.out, Jx.out, Jm.out⟩) (fun hHeld3 => ?_)
  clear hK K
  try simp only [Act.put, y1, y2, y3, y4, y5, y6, y7]
  refine tk (i := 9) (v := (.string t)) rfl (by kernel_rfl) (fun _ _ _ h => h) rfl ?_ hHeld3 ?_
  · intro W hS; go_simp
  simp only [Act.put, y1, y2, y3, y4, y5, y6, y7]
  refine tk (i := 10) (v := (.int .i64 0)) rfl (by kernel_rfl) (fun _ _ _ h => h) rfl ?_ hHeld3 ?_
  · intro W hS; go_simp
  simp only [Act.put, y1, y2, y3, y4, y5, y6, y7]
  refine tk (i := 11) (v := (.string t)) rfl (by kernel_rfl) (fun _ _ _ h => h) rfl ?_ hHeld3 ?_
  · intro W hS; go_simp
  simp only [Act.put, y1, y2, y3, y4, y5, y6, y7]
  refine tk (i := 12) (v := (.int .i64 0)) rfl (by kernel_rfl) (fun _ _ _ h => h) rfl ?_ hHeld3 ?_
  · intro W hS; go_simp
  simp only [Act.put, y1, y2, y3, y4, y5, y6, y7]
  refine wpAnyH_done (by kernel_rfl) ?_ _
  clear hHeld3
  go_wp2_with fail
  go_ret2
  exact ⟨rfl, B.out⟩
set_option maxRecDepth 100000 in
set_option maxHeartbeats 2000000 in
theorem clos91_72 {w : World} {g r1 : Nat} {t : ByteArray} {x0 x1 x2 x3 m0 m1 m2 m3 v0 v1 v2 v3 : Nat} (Jh : Hid (IHolds w r1 181 [.func (.func 142) #[] #[]]))
    (C1 : Hid (∀ W, Below w.heap.size w W → Calls Tryz.prog 142 #[.pointer (some ⟨g, 1, none⟩), .agg #[U x0, U x1, U x2, U x3], .agg #[U m0, U m1, U m2, U m3]] W fun e w' => e = .returned (.agg #[U v0, U v1, U v2, U v3]) ∧ Below W.heap.size W w')) (C2 : Hid (∀ W, Below w.heap.size w W → Calls Tryz.prog 65 #[.pointer (some ⟨g, 0, none⟩), .agg #[U v0, U v1, U v2, U v3]] W fun e w' => e = .returned (.tuple #[.string t, .int .i64 0]) ∧ Below W.heap.size W w')) :
    Calls Tryz.prog 148 #[.pointer (some ⟨g, 0, none⟩), .agg #[U x0, U x1, U x2, U x3], .agg #[U m0, U m1, U m2, U m3], .pointer (some ⟨r1, 0, none⟩)] w fun e w' => e = .returned (.tuple #[.string t, .int .i64 0]) ∧ Below w.heap.size w w' := by
  have hh0 := Jh.out.lt
  go_enter Tryz.func148, Tryz.ntmps148
  go_wp2_with fail
  obtain ⟨U1, hU1⟩ : ∃ X, X = ((w.alloc (.cells #[U x0, U x1, U x2, U x3] 73)).alloc (.cells #[U m0, U m1, U m2, U m3] 73)) := ⟨_, rfl⟩
  have Jx : Hid (IHolds U1 (w.heap.size) 73 [U x0, U x1, U x2, U x3]) := by
    have q := IHolds.new w 73 [U x0, U x1, U x2, U x3]
    show IHolds _ _ _ _
    rw [hU1]
    exact (q.alloc _)
  have Jm : Hid (IHolds U1 (w.heap.size + 1) 73 [U m0, U m1, U m2, U m3]) := by
    have q := IHolds.new (w.alloc (.cells #[U x0, U x1, U x2, U x3] 73)) 73 [U m0, U m1, U m2, U m3]
    simp only [World.size_alloc, Nat.add_assoc, Nat.reduceAdd] at q
    show IHolds _ _ _ _
    rw [hU1]
    exact q
  have B : Hid (Below w.heap.size w U1) := by
    show Below _ _ _
    rw [hU1]
    exact (((Below.refl _ w).alloc (Nat.le_refl _) _).alloc (by simp only [World.size_alloc]; omega) _)
  rw [← hU1]
  clear hU1
  replace Jh := aJ Jh B.out
  have hb := dB U1
  replace B := aB B hb
  replace Jh := aJ Jh hb
  replace Jx := aJ Jx hb
  replace Jm := aJ Jm hb
  clear hb
  refine wp_region_held_drew (S := fun W => (IHolds W (r1) 181 [(.func (.func 142) #[] #[])]) ∧ (IHolds W (w.heap.size) 73 [U x0, U x1, U x2, U x3]) ∧ (IHolds W (w.heap.size + 1) 73 [U m0, U m1, U m2, U m3])) (by kernel_rfl) ⟨Jh.out, Jx.out, Jm.out⟩ (fun hHeld1 => ?_)
  generalize U1.drew = U2 at *
  refine tk (i := 0) (v := .pointer (some ⟨g, 0, none⟩)) rfl (by kernel_rfl) (fun _ _ _ h => h) rfl ?_ hHeld1 ?_
  · intro W hS; go_simp
  simp only [Act.put, y1, y2, y3, y4, y5, y6, y7]
  refine tk (i := 1) (v := (.func (.func 142) #[] #[])) rfl (by kernel_rfl) (fun _ _ _ h => h) rfl ?_ hHeld1 ?_
  · intro W hS; have zh_0 : W.cell? ⟨r1, 0, none⟩ = some ((.func (.func 142) #[] #[])) := IHolds.cell (l := [(.func (.func 142) #[] #[])]) (t := 181) (b := r1) (w := W) (hS.1) 0 (by simp); go_simp
  simp only [Act.put, y1, y2, y3, y4, y5, y6, y7]
  refine tk (i := 2) (v := .pointer (some ⟨g, 0, none⟩)) rfl (by kernel_rfl) (fun _ _ _ h => h) rfl ?_ hHeld1 ?_
  · intro W hS; go_simp
  simp only [Act.put, y1, y2, y3, y4, y5, y6, y7]
  refine tk (i := 5) (v := .agg #[U x0, U x1, U x2, U x3]) rfl (by kernel_rfl) (fun _ _ _ h => h) rfl ?_ hHeld1 ?_
  · intro W hS; have zx_0 : W.cell? ⟨w.heap.size, 0, none⟩ = some (U x0) := IHolds.cell (l := [U x0, U x1, U x2, U x3]) (t := 73) (b := w.heap.size) (w := W) (hS.2.1) 0 (by simp); have zx_1 : W.cell? ⟨w.heap.size, 1, none⟩ = some (U x1) := IHolds.cell (l := [U x0, U x1, U x2, U x3]) (t := 73) (b := w.heap.size) (w := W) (hS.2.1) 1 (by simp); have zx_2 : W.cell? ⟨w.heap.size, 2, none⟩ = some (U x2) := IHolds.cell (l := [U x0, U x1, U x2, U x3]) (t := 73) (b := w.heap.size) (w := W) (hS.2.1) 2 (by simp); have zx_3 : W.cell? ⟨w.heap.size, 3, none⟩ = some (U x3) := IHolds.cell (l := [U x0, U x1, U x2, U x3]) (t := 73) (b := w.heap.size) (w := W) (hS.2.1) 3 (by simp); go_simp
  simp only [Act.put, y1, y2, y3, y4, y5, y6, y7]
  refine tk (i := 6) (v := .agg #[U m0, U m1, U m2, U m3]) rfl (by kernel_rfl) (fun _ _ _ h => h) rfl ?_ hHeld1 ?_
  · intro W hS; have zm_0 : W.cell? ⟨w.heap.size + 1, 0, none⟩ = some (U m0) := IHolds.cell (l := [U m0, U m1, U m2, U m3]) (t := 73) (b := w.heap.size + 1) (w := W) (hS.2.2) 0 (by simp); have zm_1 : W.cell? ⟨w.heap.size + 1, 1, none⟩ = some (U m1) := IHolds.cell (l := [U m0, U m1, U m2, U m3]) (t := 73) (b := w.heap.size + 1) (w := W) (hS.2.2) 1 (by simp); have zm_2 : W.cell? ⟨w.heap.size + 1, 2, none⟩ = some (U m2) := IHolds.cell (l := [U m0, U m1, U m2, U m3]) (t := 73) (b := w.heap.size + 1) (w := W) (hS.2.2) 2 (by simp); have zm_3 : W.cell? ⟨w.heap.size + 1, 3, none⟩ = some (U m3) := IHolds.cell (l := [U m0, U m1, U m2, U m3]) (t := 73) (b := w.heap.size + 1) (w := W) (hS.2.2) 3 (by simp); go_simp
  simp only [Act.put, y1, y2, y3, y4, y5, y6, y7]
  refine tk (i := 3) (v := .pointer (some ⟨g, 0, none⟩)) rfl (by kernel_rfl) (fun _ _ _ h => h) rfl ?_ hHeld1 ?_
  · intro W hS; go_simp
  simp only [Act.put, y1, y2, y3, y4, y5, y6, y7]
  refine tk (i := 4) (v := .pointer (some ⟨g, 1, none⟩)) rfl (by kernel_rfl) (fun _ _ _ h => h) rfl ?_ hHeld1 ?_
  · intro W hS; go_simp
  simp only [Act.put, y1, y2, y3, y4, y5, y6, y7]
  refine wpAnyH_ready (rs := [7]) (by kernel_rfl) (by simp) ?_
  refine AllReadyH.cons rfl (fun K hK => ?_) AllReadyH.nil
  clear hHeld1
  go_simp
  refine (C1.out U2 B.out).mono ?_
  rintro e U3 ⟨rfl, hb⟩
  replace B := aB B hb
  replace Jh := aJ Jh hb
  replace Jx := aJ Jx hb
  replace Jm := aJ Jm hb
  clear hb
  go_wp2_with fail
  refine hK.out _ _ (⟨Jh.out, Jx.out, Jm.out⟩) (fun hHeld2 => ?_)
  clear hK K
  try simp only [Act.put, y1, y2, y3, y4, y5, y6, y7]
  refine wpAnyH_ready (rs := [8]) (by kernel_rfl) (by simp) ?_
  refine AllReadyH.cons rfl (fun K hK => ?_) AllReadyH.nil
  clear hHeld2
  go_simp
  refine (C2.out U3 B.out).mono ?_
  rintro e U4 ⟨rfl, hb⟩
  replace B := aB B hb
  replace Jh := aJ Jh hb
  replace Jx := aJ Jx hb
  replace Jm := aJ Jm hb
  clear hb
  go_wp2_with fail
  refine hK.out _ _ (⟨Jh.out, Jx.out, Jm.out⟩) (fun hHeld3 => ?_)
  clear hK K
  try simp only [Act.put, y1, y2, y3, y4, y5, y6, y7]
  refine tk (i := 9) (v := (.string t)) rfl (by kernel_rfl) (fun _ _ _ h => h) rfl ?_ hHeld3 ?_
  · intro W hS; go_simp
  simp only [Act.put, y1, y2, y3, y4, y5, y6, y7]
  refine tk (i := 10) (v := (.int .i64 0)) rfl (by kernel_rfl) (fun _ _ _ h => h) rfl ?_ hHeld3 ?_
  · intro W hS; go_simp
  simp only [Act.put, y1, y2, y3, y4, y5, y6, y7]
  refine tk (i := 11) (v := (.string t)) rfl (by kernel_rfl) (fun _ _ _ h => h) rfl ?_ hHeld3 ?_
  · intro W hS; go_simp
  simp only [Act.put, y1, y2, y3, y4, y5, y6, y7]
  refine tk (i := 12) (v := (.int .i64 0)) rfl (by kernel_rfl) (fun _ _ _ h => h) rfl ?_ hHeld3 ?_
  · intro W hS; go_simp
  simp only [Act.put, y1, y2, y3, y4, y5, y6, y7]
  refine wpAnyH_done (by kernel_rfl) ?_ _
  clear hHeld3
  go_wp2_with fail
  go_ret2
  exact ⟨rfl, B.out⟩
end Go.Proofs.YtmpiipcllgjhdaaGreatDoor

/- withOne, withTwo, reckon, and the faces that hang on them. -/
namespace Go.Proofs.YtmpiipcllgjhdaaGreatDoor
open Go.RowKit Go.Deep Go.PlainAid

set_option maxRecDepth 100000 in
set_option maxHeartbeats 2000000 in
theorem withOne_any {w : World} {z c : Int} {t : ByteArray} {rd tn : Nat} {caps : Array Value} {a : ByteArray}
    (C : Hid (∀ W p1 p2 p3, IHolds W p1 117 [.func (.func rd) #[] #[]] → IHolds W p2 9 [.string a] → IHolds W p3 119 [.func (.func tn) #[] caps] → Below w.heap.size w W → Calls Tryz.prog 33 #[.int .i64 z, .func (.func 104) #[] #[.pointer (some ⟨p1, 0, none⟩), .pointer (some ⟨p2, 0, none⟩), .pointer (some ⟨p3, 0, none⟩)]] W fun e w' => e = .returned (.tuple #[.string t, .int .i64 c]) ∧ Below W.heap.size W w')) :
    Calls Tryz.prog 66 #[.int .i64 z, .func (.func rd) #[] #[], .string a, .func (.func tn) #[] caps] w fun e w' => e = .returned (.tuple #[.string t, .int .i64 c]) ∧ Below w.heap.size w w' := by
  have Jp1 : Hid (IHolds (((w.alloc (.cells #[.func (.func rd) #[] #[]] 117)).alloc (.cells #[.string a] 9)).alloc (.cells #[.func (.func tn) #[] caps] 119)) (w.heap.size) 117 [.func (.func rd) #[] #[]]) := by
    have q := IHolds.new w 117 [.func (.func rd) #[] #[]]
    exact ((q.alloc _).alloc _)
  have Jp2 : Hid (IHolds (((w.alloc (.cells #[.func (.func rd) #[] #[]] 117)).alloc (.cells #[.string a] 9)).alloc (.cells #[.func (.func tn) #[] caps] 119)) (w.heap.size + 1) 9 [.string a]) := by
    have q := IHolds.new (w.alloc (.cells #[.func (.func rd) #[] #[]] 117)) 9 [.string a]
    simp only [World.size_alloc, Nat.add_assoc, Nat.reduceAdd] at q
    exact (q.alloc _)
  have Jp3 : Hid (IHolds (((w.alloc (.cells #[.func (.func rd) #[] #[]] 117)).alloc (.cells #[.string a] 9)).alloc (.cells #[.func (.func tn) #[] caps] 119)) (w.heap.size + 2) 119 [.func (.func tn) #[] caps]) := by
    have q := IHolds.new ((w.alloc (.cells #[.func (.func rd) #[] #[]] 117)).alloc (.cells #[.string a] 9)) 119 [.func (.func tn) #[] caps]
    simp only [World.size_alloc, Nat.add_assoc, Nat.reduceAdd] at q
    exact q
  have B : Hid (Below w.heap.size w (((w.alloc (.cells #[.func (.func rd) #[] #[]] 117)).alloc (.cells #[.string a] 9)).alloc (.cells #[.func (.func tn) #[] caps] 119))) := ((((Below.refl _ w).alloc (Nat.le_refl _) _).alloc (by simp only [World.size_alloc]; omega) _).alloc (by simp only [World.size_alloc]; omega) _)
  go_enter Tryz.func66, Tryz.ntmps66
  go_wp2_with fail
  generalize (((w.alloc (.cells #[.func (.func rd) #[] #[]] 117)).alloc (.cells #[.string a] 9)).alloc (.cells #[.func (.func tn) #[] caps] 119)) = V0 at *
  refine (C.out V0 _ _ _ Jp1.out Jp2.out Jp3.out B.out).mono ?_
  rintro e V1 ⟨rfl, hb⟩
  replace B := aB B hb
  clear hb
  go_wp2_with fail
  go_ret2
  exact ⟨rfl, B.out⟩
set_option maxRecDepth 100000 in
set_option maxHeartbeats 2000000 in
theorem withTwo_any {w : World} {z c : Int} {t : ByteArray} {rd rd2 tn : Nat} {caps : Array Value} {a b : ByteArray}
    (C : Hid (∀ W q1 q2 q3, IHolds W q1 117 [.func (.func rd2) #[] #[]] → IHolds W q2 9 [.string b] → IHolds W q3 84 [.func (.func tn) #[] caps] → Below w.heap.size w W → Calls Tryz.prog 66 #[.int .i64 z, .func (.func rd) #[] #[], .string a, .func (.func 67) #[] #[.pointer (some ⟨q1, 0, none⟩), .pointer (some ⟨q2, 0, none⟩), .pointer (some ⟨q3, 0, none⟩)]] W fun e w' => e = .returned (.tuple #[.string t, .int .i64 c]) ∧ Below W.heap.size W w')) :
    Calls Tryz.prog 37 #[.int .i64 z, .func (.func rd) #[] #[], .string a, .func (.func rd2) #[] #[], .string b, .func (.func tn) #[] caps] w fun e w' => e = .returned (.tuple #[.string t, .int .i64 c]) ∧ Below w.heap.size w w' := by
  have Jq1 : Hid (IHolds (((w.alloc (.cells #[.func (.func rd2) #[] #[]] 117)).alloc (.cells #[.string b] 9)).alloc (.cells #[.func (.func tn) #[] caps] 84)) (w.heap.size) 117 [.func (.func rd2) #[] #[]]) := by
    have q := IHolds.new w 117 [.func (.func rd2) #[] #[]]
    exact ((q.alloc _).alloc _)
  have Jq2 : Hid (IHolds (((w.alloc (.cells #[.func (.func rd2) #[] #[]] 117)).alloc (.cells #[.string b] 9)).alloc (.cells #[.func (.func tn) #[] caps] 84)) (w.heap.size + 1) 9 [.string b]) := by
    have q := IHolds.new (w.alloc (.cells #[.func (.func rd2) #[] #[]] 117)) 9 [.string b]
    simp only [World.size_alloc, Nat.add_assoc, Nat.reduceAdd] at q
    exact (q.alloc _)
  have Jq3 : Hid (IHolds (((w.alloc (.cells #[.func (.func rd2) #[] #[]] 117)).alloc (.cells #[.string b] 9)).alloc (.cells #[.func (.func tn) #[] caps] 84)) (w.heap.size + 2) 84 [.func (.func tn) #[] caps]) := by
    have q := IHolds.new ((w.alloc (.cells #[.func (.func rd2) #[] #[]] 117)).alloc (.cells #[.string b] 9)) 84 [.func (.func tn) #[] caps]
    simp only [World.size_alloc, Nat.add_assoc, Nat.reduceAdd] at q
    exact q
  have B : Hid (Below w.heap.size w (((w.alloc (.cells #[.func (.func rd2) #[] #[]] 117)).alloc (.cells #[.string b] 9)).alloc (.cells #[.func (.func tn) #[] caps] 84))) := ((((Below.refl _ w).alloc (Nat.le_refl _) _).alloc (by simp only [World.size_alloc]; omega) _).alloc (by simp only [World.size_alloc]; omega) _)
  go_enter Tryz.func37, Tryz.ntmps37
  go_wp2_with fail
  generalize (((w.alloc (.cells #[.func (.func rd2) #[] #[]] 117)).alloc (.cells #[.string b] 9)).alloc (.cells #[.func (.func tn) #[] caps] 84)) = V0 at *
  refine (C.out V0 _ _ _ Jq1.out Jq2.out Jq3.out B.out).mono ?_
  rintro e V1 ⟨rfl, hb⟩
  replace B := aB B hb
  clear hb
  go_wp2_with fail
  go_ret2
  exact ⟨rfl, B.out⟩
set_option maxRecDepth 100000 in
set_option maxHeartbeats 2000000 in
theorem reckon_any {w : World} {z c : Int} {t : ByteArray} {how : Nat} {a b : ByteArray}
    (C : Hid (∀ W r1, IHolds W r1 181 [.func (.func how) #[] #[]] → Below w.heap.size w W → Calls Tryz.prog 37 #[.int .i64 z, .func (.func 32) #[] #[], .string a, .func (.func 32) #[] #[], .string b, .func (.func 148) #[] #[.pointer (some ⟨r1, 0, none⟩)]] W fun e w' => e = .returned (.tuple #[.string t, .int .i64 c]) ∧ Below W.heap.size W w')) :
    Calls Tryz.prog 131 #[.int .i64 z, .string a, .string b, .func (.func how) #[] #[]] w fun e w' => e = .returned (.tuple #[.string t, .int .i64 c]) ∧ Below w.heap.size w w' := by
  have Jr1 : Hid (IHolds (w.alloc (.cells #[.func (.func how) #[] #[]] 181)) (w.heap.size) 181 [.func (.func how) #[] #[]]) := by
    have q := IHolds.new w 181 [.func (.func how) #[] #[]]
    exact q
  have B : Hid (Below w.heap.size w (w.alloc (.cells #[.func (.func how) #[] #[]] 181))) := ((Below.refl _ w).alloc (Nat.le_refl _) _)
  go_enter Tryz.func131, Tryz.ntmps131
  go_wp2_with fail
  generalize (w.alloc (.cells #[.func (.func how) #[] #[]] 181)) = V0 at *
  refine (C.out V0 _ Jr1.out B.out).mono ?_
  rintro e V1 ⟨rfl, hb⟩
  replace B := aB B hb
  clear hb
  go_wp2_with fail
  go_ret2
  exact ⟨rfl, B.out⟩
set_option maxRecDepth 100000 in
set_option maxHeartbeats 2000000 in
theorem sub_face {w : World} {z c : Int} {t : ByteArray} {a b : ByteArray}
    (C : Hid (Calls Tryz.prog 131 #[.int .i64 z, .string a, .string b, .func (.func 132) #[] #[]] w fun e w' => e = .returned (.tuple #[.string t, .int .i64 c]) ∧ Below w.heap.size w w')) :
    Calls Tryz.prog 100 #[.int .i64 z, .string a, .string b] w fun e w' => e = .returned (.tuple #[.string t, .int .i64 c]) ∧ Below w.heap.size w w' := by
  go_enter Tryz.func100, Tryz.ntmps100
  go_wp2_with fail
  refine C.out.mono ?_
  rintro e V1 ⟨rfl, hb⟩
  have B : Hid (Below w.heap.size w V1) := hb
  clear hb
  go_wp2_with fail
  go_ret2
  exact ⟨rfl, B.out⟩
set_option maxRecDepth 100000 in
set_option maxHeartbeats 2000000 in
theorem mul_face {w : World} {z c : Int} {t : ByteArray} {a b : ByteArray}
    (C : Hid (Calls Tryz.prog 131 #[.int .i64 z, .string a, .string b, .func (.func 142) #[] #[]] w fun e w' => e = .returned (.tuple #[.string t, .int .i64 c]) ∧ Below w.heap.size w w')) :
    Calls Tryz.prog 124 #[.int .i64 z, .string a, .string b] w fun e w' => e = .returned (.tuple #[.string t, .int .i64 c]) ∧ Below w.heap.size w w' := by
  go_enter Tryz.func124, Tryz.ntmps124
  go_wp2_with fail
  refine C.out.mono ?_
  rintro e V1 ⟨rfl, hb⟩
  have B : Hid (Below w.heap.size w V1) := hb
  clear hb
  go_wp2_with fail
  go_ret2
  exact ⟨rfl, B.out⟩
set_option maxRecDepth 100000 in
set_option maxHeartbeats 2000000 in
theorem power_face {w : World} {z c : Int} {t : ByteArray} {a b : ByteArray}
    (C : Hid (Calls Tryz.prog 37 #[.int .i64 z, .func (.func 36) #[] #[], .string a, .func (.func 32) #[] #[], .string b, .func (.func 38) #[] #[]] w fun e w' => e = .returned (.tuple #[.string t, .int .i64 c]) ∧ Below w.heap.size w w')) :
    Calls Tryz.prog 17 #[.int .i64 z, .string a, .string b] w fun e w' => e = .returned (.tuple #[.string t, .int .i64 c]) ∧ Below w.heap.size w w' := by
  go_enter Tryz.func17, Tryz.ntmps17
  go_wp2_with fail
  refine C.out.mono ?_
  rintro e V1 ⟨rfl, hb⟩
  have B : Hid (Below w.heap.size w V1) := hb
  clear hb
  go_wp2_with fail
  go_ret2
  exact ⟨rfl, B.out⟩
end Go.Proofs.YtmpiipcllgjhdaaGreatDoor

/- Brought within, taken out again, and the product. -/
namespace Go.Proofs.YtmpiipcllgjhdaaGreatDoor
open Go.RowKit Go.Deep Go.PlainAid

set_option maxRecDepth 100000 in
set_option maxHeartbeats 2000000 in
theorem enter_words {w : World} {g o Wd M low one sq : Nat} (F : Hid (FH w g o Wd M low one sq)) (x0 x1 x2 x3 v0 v1 v2 v3 : Nat) (C1 : Hid (∀ W, FH W g o Wd M low one sq → Calls Tryz.prog 109 #[.pointer (some ⟨g, o, none⟩), .agg #[U x0, U x1, U x2, U x3], .agg #[U (w4 sq 0), U (w4 sq 1), U (w4 sq 2), U (w4 sq 3)]] W fun e w' => e = .returned (.agg #[U v0, U v1, U v2, U v3]) ∧ Below W.heap.size W w')) :
    Calls Tryz.prog 107 #[.pointer (some ⟨g, o, none⟩), .agg #[U x0, U x1, U x2, U x3]] w fun e w' => e = .returned (.agg #[U v0, U v1, U v2, U v3]) ∧ Below w.heap.size w w' := by
  go_enter Tryz.func107, Tryz.ntmps107
  go_wp2_with fail
  have neF_x : Hid (g ≠ w.heap.size + 0) := by have h := F.out.lt; show _ ≠ _; omega
  have neF_r : Hid (g ≠ w.heap.size + 1) := by have h := F.out.lt; show _ ≠ _; omega
  obtain ⟨U1, hU1⟩ : ∃ X, X = ((w.alloc (.cells #[U x0, U x1, U x2, U x3] 73)).alloc (.cells #[.int .u64 0, .int .u64 0, .int .u64 0, .int .u64 0] 73)) := ⟨_, rfl⟩
  have Jx : Hid (IHolds U1 (w.heap.size) 73 [U x0, U x1, U x2, U x3]) := by
    have q := IHolds.new w 73 [U x0, U x1, U x2, U x3]
    show IHolds _ _ _ _
    rw [hU1]
    exact (q.alloc _)
  have Jr : Hid (IHolds U1 (w.heap.size + 1) 73 [.int .u64 0, .int .u64 0, .int .u64 0, .int .u64 0]) := by
    have q := IHolds.new (w.alloc (.cells #[U x0, U x1, U x2, U x3] 73)) 73 [.int .u64 0, .int .u64 0, .int .u64 0, .int .u64 0]
    simp only [World.size_alloc, Nat.add_assoc, Nat.reduceAdd] at q
    show IHolds _ _ _ _
    rw [hU1]
    exact q
  have B : Hid (Below w.heap.size w U1) := by
    show Below _ _ _
    rw [hU1]
    exact (((Below.refl _ w).alloc (Nat.le_refl _) _).alloc (by simp only [World.size_alloc]; omega) _)
  rw [← hU1]
  clear hU1
  replace F := aF F (show Below w.heap.size w U1 from B.out)
  have hb := dB U1
  replace F := aF F hb
  replace B := aB B hb
  replace Jx := aJ Jx hb
  replace Jr := aJ Jr hb
  clear hb
  refine wp_region_held_drew (S := fun W => (IHolds W (w.heap.size) 73 [U x0, U x1, U x2, U x3]) ∧ (FH W g o Wd M low one sq)) (by kernel_rfl) ⟨Jx.out, F.out⟩ (fun hHeld1 => ?_)
  generalize U1.drew = U2 at *
  refine tk (i := 0) (v := .pointer (some ⟨g, o, none⟩)) rfl (by kernel_rfl) (fun _ _ _ h => h) rfl ?_ hHeld1 ?_
  · intro W hS; go_simp
  simp only [Act.put, y1, y2, y3, y4, y5, y6, y7]
  refine tk (i := 1) (v := .agg #[U x0, U x1, U x2, U x3]) rfl (by kernel_rfl) (fun _ _ _ h => h) rfl ?_ hHeld1 ?_
  · intro W hS; have zx_0 : W.cell? ⟨w.heap.size, 0, none⟩ = some (U x0) := IHolds.cell (l := [U x0, U x1, U x2, U x3]) (t := 73) (b := w.heap.size) (w := W) (hS.1) 0 (by simp); have zx_1 : W.cell? ⟨w.heap.size, 1, none⟩ = some (U x1) := IHolds.cell (l := [U x0, U x1, U x2, U x3]) (t := 73) (b := w.heap.size) (w := W) (hS.1) 1 (by simp); have zx_2 : W.cell? ⟨w.heap.size, 2, none⟩ = some (U x2) := IHolds.cell (l := [U x0, U x1, U x2, U x3]) (t := 73) (b := w.heap.size) (w := W) (hS.1) 2 (by simp); have zx_3 : W.cell? ⟨w.heap.size, 3, none⟩ = some (U x3) := IHolds.cell (l := [U x0, U x1, U x2, U x3]) (t := 73) (b := w.heap.size) (w := W) (hS.1) 3 (by simp); go_simp
  simp only [Act.put, y1, y2, y3, y4, y5, y6, y7]
  refine tk (i := 2) (v := .pointer (some ⟨g, o, none⟩)) rfl (by kernel_rfl) (fun _ _ _ h => h) rfl ?_ hHeld1 ?_
  · intro W hS; go_simp
  simp only [Act.put, y1, y2, y3, y4, y5, y6, y7]
  refine tk (i := 3) (v := .pointer (some ⟨g, o, none⟩)) rfl (by kernel_rfl) (fun _ _ _ h => h) rfl ?_ hHeld1 ?_
  · intro W hS; go_simp
  simp only [Act.put, y1, y2, y3, y4, y5, y6, y7]
  refine tk (i := 4) (v := .pointer (some ⟨g, o + 10, none⟩)) rfl (by kernel_rfl) (fun _ _ _ h => h) rfl ?_ hHeld1 ?_
  · intro W hS; go_simp
  simp only [Act.put, y1, y2, y3, y4, y5, y6, y7]
  refine tk (i := 5) (v := .agg #[U (w4 sq 0), U (w4 sq 1), U (w4 sq 2), U (w4 sq 3)]) rfl (by kernel_rfl) (fun _ _ _ h => h) rfl ?_ hHeld1 ?_
  · intro W hS; have fz := hS.2; have fz0 := fz.c0; have fz1 := fz.m0; have fz2 := fz.m1; have fz3 := fz.m2; have fz4 := fz.m3; have fz5 := fz.lo; have fz6 := fz.o0; have fz7 := fz.o1; have fz8 := fz.o2; have fz9 := fz.o3; have fz10 := fz.s0; have fz11 := fz.s1; have fz12 := fz.s2; have fz13 := fz.s3; go_simp
  simp only [Act.put, y1, y2, y3, y4, y5, y6, y7]
  refine wpAnyH_ready (rs := [6]) (by kernel_rfl) (by simp) ?_
  refine AllReadyH.cons rfl (fun K hK => ?_) AllReadyH.nil
  clear hHeld1
  go_simp
  refine (C1.out U2 F.out).mono ?_
  rintro e U3 ⟨rfl, hb⟩
  replace F := aF F hb
  replace B := aB B hb
  replace Jx := aJ Jx hb
  replace Jr := aJ Jr hb
  clear hb
  go_wp2_with fail
  refine hK.out _ _ (⟨Jx.out, F.out⟩) (fun hHeld2 => ?_)
  clear hK K
  try simp only [Act.put, y1, y2, y3, y4, y5, y6, y7]
  refine wpAnyH_ready (rs := [7]) (by kernel_rfl) (by simp) ?_
  refine AllReadyH.cons rfl (fun K hK => ?_) AllReadyH.nil
  clear hHeld2
  have zr_0 : U3.cell? ⟨w.heap.size + 1, 0, none⟩ = some (.int .u64 0) := IHolds.cell (l := [.int .u64 0, .int .u64 0, .int .u64 0, .int .u64 0]) (t := 73) (b := w.heap.size + 1) (w := U3) (Jr.out) 0 (by simp)
  have zr_1 : U3.cell? ⟨w.heap.size + 1, 1, none⟩ = some (.int .u64 0) := IHolds.cell (l := [.int .u64 0, .int .u64 0, .int .u64 0, .int .u64 0]) (t := 73) (b := w.heap.size + 1) (w := U3) (Jr.out) 1 (by simp)
  have zr_2 : U3.cell? ⟨w.heap.size + 1, 2, none⟩ = some (.int .u64 0) := IHolds.cell (l := [.int .u64 0, .int .u64 0, .int .u64 0, .int .u64 0]) (t := 73) (b := w.heap.size + 1) (w := U3) (Jr.out) 2 (by simp)
  have zr_3 : U3.cell? ⟨w.heap.size + 1, 3, none⟩ = some (.int .u64 0) := IHolds.cell (l := [.int .u64 0, .int .u64 0, .int .u64 0, .int .u64 0]) (t := 73) (b := w.heap.size + 1) (w := U3) (Jr.out) 3 (by simp)
  have f0 := fJ Jr
  have hBut : But (w.heap.size + 1) U3 ((((U3.setCell ⟨w.heap.size + 1, 0, none⟩ (U v0)).setCell ⟨w.heap.size + 1, 1, none⟩ (U v1)).setCell ⟨w.heap.size + 1, 2, none⟩ (U v2)).setCell ⟨w.heap.size + 1, 3, none⟩ (U v3)) := (((((But.refl _ U3).setCell 0 (U v0)).setCell 1 (U v1)).setCell 2 (U v2)).setCell 3 (U v3))
  replace F := tF F hBut neF_r.out
  have I4 : Hid (IHolds _ (w.heap.size + 1) 73 [U v0, U v1, U v2, U v3]) := ((((Jr.out.set 0 (U v0)).set 1 (U v1)).set 2 (U v2)).set 3 (U v3))
  replace B : Hid (Below w.heap.size w ((((U3.setCell ⟨w.heap.size + 1, 0, none⟩ (U v0)).setCell ⟨w.heap.size + 1, 1, none⟩ (U v1)).setCell ⟨w.heap.size + 1, 2, none⟩ (U v2)).setCell ⟨w.heap.size + 1, 3, none⟩ (U v3))) := ((((B.out.setCell (by first | exact Nat.le_refl _ | exact ge_r.out | (show w.heap.size ≤ w.heap.size + 1; omega)) _).setCell (by first | exact Nat.le_refl _ | exact ge_r.out | (show w.heap.size ≤ w.heap.size + 1; omega)) _).setCell (by first | exact Nat.le_refl _ | exact ge_r.out | (show w.heap.size ≤ w.heap.size + 1; omega)) _).setCell (by first | exact Nat.le_refl _ | exact ge_r.out | (show w.heap.size ≤ w.heap.size + 1; omega)) _)
  replace Jx := tJ Jx hBut (by omega)
  replace Jr := I4
  clear I4 hBut
  go_simp
  try go_wp2_with fail
  clear zr_0 zr_1 zr_2 zr_3
  clear f0
  generalize ((((U3.setCell ⟨w.heap.size + 1, 0, none⟩ (U v0)).setCell ⟨w.heap.size + 1, 1, none⟩ (U v1)).setCell ⟨w.heap.size + 1, 2, none⟩ (U v2)).setCell ⟨w.heap.size + 1, 3, none⟩ (U v3)) = U4 at *
  refine hK.out _ _ (⟨Jx.out, F.out⟩) (fun hHeld3 => ?_)
  clear hK K
  try simp only [Act.put, y1, y2, y3, y4, y5, y6, y7]
  refine wpAnyH_done (by kernel_rfl) ?_ _
  clear hHeld3
  try go_wp2_with fail
  have E0 : Hid (U4.cell? ⟨w.heap.size + 1, 0, none⟩ = some (U v0)) := IHolds.cell (l := [U v0, U v1, U v2, U v3]) (t := 73) (b := w.heap.size + 1) (w := U4) Jr.out 0 (by simp)
  have E1 : Hid (U4.cell? ⟨w.heap.size + 1, 1, none⟩ = some (U v1)) := IHolds.cell (l := [U v0, U v1, U v2, U v3]) (t := 73) (b := w.heap.size + 1) (w := U4) Jr.out 1 (by simp)
  have E2 : Hid (U4.cell? ⟨w.heap.size + 1, 2, none⟩ = some (U v2)) := IHolds.cell (l := [U v0, U v1, U v2, U v3]) (t := 73) (b := w.heap.size + 1) (w := U4) Jr.out 2 (by simp)
  have E3 : Hid (U4.cell? ⟨w.heap.size + 1, 3, none⟩ = some (U v3)) := IHolds.cell (l := [U v0, U v1, U v2, U v3]) (t := 73) (b := w.heap.size + 1) (w := U4) Jr.out 3 (by simp)
  exact bodyPost_ret (v := .agg #[U v0, U v1, U v2, U v3]) (by simp [results, Tryz.results107, go_sem, E0.out, E1.out, E2.out, E3.out]) rfl ⟨rfl, B.out⟩
set_option maxRecDepth 100000 in
set_option maxHeartbeats 2000000 in
theorem leave_words {w : World} {g o Wd M low one sq : Nat} (F : Hid (FH w g o Wd M low one sq)) (x0 x1 x2 x3 v0 v1 v2 v3 : Nat) (C1 : Hid (∀ W, FH W g o Wd M low one sq → Calls Tryz.prog 109 #[.pointer (some ⟨g, o, none⟩), .agg #[U x0, U x1, U x2, U x3], .agg #[.int .u64 1, .int .u64 0, .int .u64 0, .int .u64 0]] W fun e w' => e = .returned (.agg #[U v0, U v1, U v2, U v3]) ∧ Below W.heap.size W w')) :
    Calls Tryz.prog 111 #[.pointer (some ⟨g, o, none⟩), .agg #[U x0, U x1, U x2, U x3]] w fun e w' => e = .returned (.agg #[U v0, U v1, U v2, U v3]) ∧ Below w.heap.size w w' := by
  go_enter Tryz.func111, Tryz.ntmps111
  go_wp2_with fail
  have neF_x : Hid (g ≠ w.heap.size + 0) := by have h := F.out.lt; show _ ≠ _; omega
  have neF_r : Hid (g ≠ w.heap.size + 1) := by have h := F.out.lt; show _ ≠ _; omega
  obtain ⟨U1, hU1⟩ : ∃ X, X = ((w.alloc (.cells #[U x0, U x1, U x2, U x3] 73)).alloc (.cells #[.int .u64 0, .int .u64 0, .int .u64 0, .int .u64 0] 73)) := ⟨_, rfl⟩
  have Jx : Hid (IHolds U1 (w.heap.size) 73 [U x0, U x1, U x2, U x3]) := by
    have q := IHolds.new w 73 [U x0, U x1, U x2, U x3]
    show IHolds _ _ _ _
    rw [hU1]
    exact (q.alloc _)
  have Jr : Hid (IHolds U1 (w.heap.size + 1) 73 [.int .u64 0, .int .u64 0, .int .u64 0, .int .u64 0]) := by
    have q := IHolds.new (w.alloc (.cells #[U x0, U x1, U x2, U x3] 73)) 73 [.int .u64 0, .int .u64 0, .int .u64 0, .int .u64 0]
    simp only [World.size_alloc, Nat.add_assoc, Nat.reduceAdd] at q
    show IHolds _ _ _ _
    rw [hU1]
    exact q
  have B : Hid (Below w.heap.size w U1) := by
    show Below _ _ _
    rw [hU1]
    exact (((Below.refl _ w).alloc (Nat.le_refl _) _).alloc (by simp only [World.size_alloc]; omega) _)
  rw [← hU1]
  clear hU1
  replace F := aF F (show Below w.heap.size w U1 from B.out)
  have zx_0 : U1.cell? ⟨w.heap.size, 0, none⟩ = some (U x0) := IHolds.cell (l := [U x0, U x1, U x2, U x3]) (t := 73) (b := w.heap.size) (w := U1) (Jx.out) 0 (by simp)
  have zx_1 : U1.cell? ⟨w.heap.size, 1, none⟩ = some (U x1) := IHolds.cell (l := [U x0, U x1, U x2, U x3]) (t := 73) (b := w.heap.size) (w := U1) (Jx.out) 1 (by simp)
  have zx_2 : U1.cell? ⟨w.heap.size, 2, none⟩ = some (U x2) := IHolds.cell (l := [U x0, U x1, U x2, U x3]) (t := 73) (b := w.heap.size) (w := U1) (Jx.out) 2 (by simp)
  have zx_3 : U1.cell? ⟨w.heap.size, 3, none⟩ = some (U x3) := IHolds.cell (l := [U x0, U x1, U x2, U x3]) (t := 73) (b := w.heap.size) (w := U1) (Jx.out) 3 (by simp)
  go_wp2_with fail
  clear zx_0 zx_1 zx_2 zx_3
  refine (C1.out U1 F.out).mono ?_
  rintro e U2 ⟨rfl, hb⟩
  replace F := aF F hb
  replace B := aB B hb
  replace Jx := aJ Jx hb
  replace Jr := aJ Jr hb
  clear hb
  have zr_0 : U2.cell? ⟨w.heap.size + 1, 0, none⟩ = some (.int .u64 0) := IHolds.cell (l := [.int .u64 0, .int .u64 0, .int .u64 0, .int .u64 0]) (t := 73) (b := w.heap.size + 1) (w := U2) (Jr.out) 0 (by simp)
  have zr_1 : U2.cell? ⟨w.heap.size + 1, 1, none⟩ = some (.int .u64 0) := IHolds.cell (l := [.int .u64 0, .int .u64 0, .int .u64 0, .int .u64 0]) (t := 73) (b := w.heap.size + 1) (w := U2) (Jr.out) 1 (by simp)
  have zr_2 : U2.cell? ⟨w.heap.size + 1, 2, none⟩ = some (.int .u64 0) := IHolds.cell (l := [.int .u64 0, .int .u64 0, .int .u64 0, .int .u64 0]) (t := 73) (b := w.heap.size + 1) (w := U2) (Jr.out) 2 (by simp)
  have zr_3 : U2.cell? ⟨w.heap.size + 1, 3, none⟩ = some (.int .u64 0) := IHolds.cell (l := [.int .u64 0, .int .u64 0, .int .u64 0, .int .u64 0]) (t := 73) (b := w.heap.size + 1) (w := U2) (Jr.out) 3 (by simp)
  have f0 := fJ Jr
  have hBut : But (w.heap.size + 1) U2 ((((U2.setCell ⟨w.heap.size + 1, 0, none⟩ (U v0)).setCell ⟨w.heap.size + 1, 1, none⟩ (U v1)).setCell ⟨w.heap.size + 1, 2, none⟩ (U v2)).setCell ⟨w.heap.size + 1, 3, none⟩ (U v3)) := (((((But.refl _ U2).setCell 0 (U v0)).setCell 1 (U v1)).setCell 2 (U v2)).setCell 3 (U v3))
  replace F := tF F hBut neF_r.out
  have I4 : Hid (IHolds _ (w.heap.size + 1) 73 [U v0, U v1, U v2, U v3]) := ((((Jr.out.set 0 (U v0)).set 1 (U v1)).set 2 (U v2)).set 3 (U v3))
  replace B : Hid (Below w.heap.size w ((((U2.setCell ⟨w.heap.size + 1, 0, none⟩ (U v0)).setCell ⟨w.heap.size + 1, 1, none⟩ (U v1)).setCell ⟨w.heap.size + 1, 2, none⟩ (U v2)).setCell ⟨w.heap.size + 1, 3, none⟩ (U v3))) := ((((B.out.setCell (by first | exact Nat.le_refl _ | exact ge_r.out | (show w.heap.size ≤ w.heap.size + 1; omega)) _).setCell (by first | exact Nat.le_refl _ | exact ge_r.out | (show w.heap.size ≤ w.heap.size + 1; omega)) _).setCell (by first | exact Nat.le_refl _ | exact ge_r.out | (show w.heap.size ≤ w.heap.size + 1; omega)) _).setCell (by first | exact Nat.le_refl _ | exact ge_r.out | (show w.heap.size ≤ w.heap.size + 1; omega)) _)
  replace Jx := tJ Jx hBut (by omega)
  replace Jr := I4
  clear I4 hBut
  go_wp2_with fail
  clear zr_0 zr_1 zr_2 zr_3
  clear f0
  generalize ((((U2.setCell ⟨w.heap.size + 1, 0, none⟩ (U v0)).setCell ⟨w.heap.size + 1, 1, none⟩ (U v1)).setCell ⟨w.heap.size + 1, 2, none⟩ (U v2)).setCell ⟨w.heap.size + 1, 3, none⟩ (U v3)) = U3 at *
  have E0 : Hid (U3.cell? ⟨w.heap.size + 1, 0, none⟩ = some (U v0)) := IHolds.cell (l := [U v0, U v1, U v2, U v3]) (t := 73) (b := w.heap.size + 1) (w := U3) Jr.out 0 (by simp)
  have E1 : Hid (U3.cell? ⟨w.heap.size + 1, 1, none⟩ = some (U v1)) := IHolds.cell (l := [U v0, U v1, U v2, U v3]) (t := 73) (b := w.heap.size + 1) (w := U3) Jr.out 1 (by simp)
  have E2 : Hid (U3.cell? ⟨w.heap.size + 1, 2, none⟩ = some (U v2)) := IHolds.cell (l := [U v0, U v1, U v2, U v3]) (t := 73) (b := w.heap.size + 1) (w := U3) Jr.out 2 (by simp)
  have E3 : Hid (U3.cell? ⟨w.heap.size + 1, 3, none⟩ = some (U v3)) := IHolds.cell (l := [U v0, U v1, U v2, U v3]) (t := 73) (b := w.heap.size + 1) (w := U3) Jr.out 3 (by simp)
  exact bodyPost_ret (v := .agg #[U v0, U v1, U v2, U v3]) (by simp [results, Tryz.results111, go_sem, E0.out, E1.out, E2.out, E3.out]) rfl ⟨rfl, B.out⟩
set_option maxRecDepth 100000 in
set_option maxHeartbeats 2000000 in
theorem ftimes_words {w : World} {g o Wd M low one sq : Nat} (F : Hid (FH w g o Wd M low one sq)) (x0 x1 x2 x3 m0 m1 m2 m3 z0 z1 z2 z3 v0 v1 v2 v3 : Nat) (C1 : Hid (∀ W, FH W g o Wd M low one sq → Calls Tryz.prog 107 #[.pointer (some ⟨g, o, none⟩), .agg #[U x0, U x1, U x2, U x3]] W fun e w' => e = .returned (.agg #[U z0, U z1, U z2, U z3]) ∧ Below W.heap.size W w')) (C2 : Hid (∀ W, FH W g o Wd M low one sq → Calls Tryz.prog 109 #[.pointer (some ⟨g, o, none⟩), .agg #[U z0, U z1, U z2, U z3], .agg #[U m0, U m1, U m2, U m3]] W fun e w' => e = .returned (.agg #[U v0, U v1, U v2, U v3]) ∧ Below W.heap.size W w')) :
    Calls Tryz.prog 142 #[.pointer (some ⟨g, o, none⟩), .agg #[U x0, U x1, U x2, U x3], .agg #[U m0, U m1, U m2, U m3]] w fun e w' => e = .returned (.agg #[U v0, U v1, U v2, U v3]) ∧ Below w.heap.size w w' := by
  go_enter Tryz.func142, Tryz.ntmps142
  go_wp2_with fail
  have neF_x : Hid (g ≠ w.heap.size + 0) := by have h := F.out.lt; show _ ≠ _; omega
  have neF_m : Hid (g ≠ w.heap.size + 1) := by have h := F.out.lt; show _ ≠ _; omega
  have neF_r : Hid (g ≠ w.heap.size + 2) := by have h := F.out.lt; show _ ≠ _; omega
  obtain ⟨U1, hU1⟩ : ∃ X, X = (((w.alloc (.cells #[U x0, U x1, U x2, U x3] 73)).alloc (.cells #[U m0, U m1, U m2, U m3] 73)).alloc (.cells #[.int .u64 0, .int .u64 0, .int .u64 0, .int .u64 0] 73)) := ⟨_, rfl⟩
  have Jx : Hid (IHolds U1 (w.heap.size) 73 [U x0, U x1, U x2, U x3]) := by
    have q := IHolds.new w 73 [U x0, U x1, U x2, U x3]
    show IHolds _ _ _ _
    rw [hU1]
    exact ((q.alloc _).alloc _)
  have Jm : Hid (IHolds U1 (w.heap.size + 1) 73 [U m0, U m1, U m2, U m3]) := by
    have q := IHolds.new (w.alloc (.cells #[U x0, U x1, U x2, U x3] 73)) 73 [U m0, U m1, U m2, U m3]
    simp only [World.size_alloc, Nat.add_assoc, Nat.reduceAdd] at q
    show IHolds _ _ _ _
    rw [hU1]
    exact (q.alloc _)
  have Jr : Hid (IHolds U1 (w.heap.size + 2) 73 [.int .u64 0, .int .u64 0, .int .u64 0, .int .u64 0]) := by
    have q := IHolds.new ((w.alloc (.cells #[U x0, U x1, U x2, U x3] 73)).alloc (.cells #[U m0, U m1, U m2, U m3] 73)) 73 [.int .u64 0, .int .u64 0, .int .u64 0, .int .u64 0]
    simp only [World.size_alloc, Nat.add_assoc, Nat.reduceAdd] at q
    show IHolds _ _ _ _
    rw [hU1]
    exact q
  have B : Hid (Below w.heap.size w U1) := by
    show Below _ _ _
    rw [hU1]
    exact ((((Below.refl _ w).alloc (Nat.le_refl _) _).alloc (by simp only [World.size_alloc]; omega) _).alloc (by simp only [World.size_alloc]; omega) _)
  rw [← hU1]
  clear hU1
  replace F := aF F (show Below w.heap.size w U1 from B.out)
  have hb := dB U1
  replace F := aF F hb
  replace B := aB B hb
  replace Jx := aJ Jx hb
  replace Jm := aJ Jm hb
  replace Jr := aJ Jr hb
  clear hb
  refine wp_region_held_drew (S := fun W => (IHolds W (w.heap.size) 73 [U x0, U x1, U x2, U x3]) ∧ (IHolds W (w.heap.size + 1) 73 [U m0, U m1, U m2, U m3]) ∧ (FH W g o Wd M low one sq)) (by kernel_rfl) ⟨Jx.out, Jm.out, F.out⟩ (fun hHeld1 => ?_)
  generalize U1.drew = U2 at *
  refine tk (i := 0) (v := .pointer (some ⟨g, o, none⟩)) rfl (by kernel_rfl) (fun _ _ _ h => h) rfl ?_ hHeld1 ?_
  · intro W hS; go_simp
  simp only [Act.put, y1, y2, y3, y4, y5, y6, y7]
  refine tk (i := 1) (v := .pointer (some ⟨g, o, none⟩)) rfl (by kernel_rfl) (fun _ _ _ h => h) rfl ?_ hHeld1 ?_
  · intro W hS; go_simp
  simp only [Act.put, y1, y2, y3, y4, y5, y6, y7]
  refine tk (i := 2) (v := .agg #[U x0, U x1, U x2, U x3]) rfl (by kernel_rfl) (fun _ _ _ h => h) rfl ?_ hHeld1 ?_
  · intro W hS; have zx_0 : W.cell? ⟨w.heap.size, 0, none⟩ = some (U x0) := IHolds.cell (l := [U x0, U x1, U x2, U x3]) (t := 73) (b := w.heap.size) (w := W) (hS.1) 0 (by simp); have zx_1 : W.cell? ⟨w.heap.size, 1, none⟩ = some (U x1) := IHolds.cell (l := [U x0, U x1, U x2, U x3]) (t := 73) (b := w.heap.size) (w := W) (hS.1) 1 (by simp); have zx_2 : W.cell? ⟨w.heap.size, 2, none⟩ = some (U x2) := IHolds.cell (l := [U x0, U x1, U x2, U x3]) (t := 73) (b := w.heap.size) (w := W) (hS.1) 2 (by simp); have zx_3 : W.cell? ⟨w.heap.size, 3, none⟩ = some (U x3) := IHolds.cell (l := [U x0, U x1, U x2, U x3]) (t := 73) (b := w.heap.size) (w := W) (hS.1) 3 (by simp); go_simp
  simp only [Act.put, y1, y2, y3, y4, y5, y6, y7]
  refine tk (i := 4) (v := .agg #[U m0, U m1, U m2, U m3]) rfl (by kernel_rfl) (fun _ _ _ h => h) rfl ?_ hHeld1 ?_
  · intro W hS; have zm_0 : W.cell? ⟨w.heap.size + 1, 0, none⟩ = some (U m0) := IHolds.cell (l := [U m0, U m1, U m2, U m3]) (t := 73) (b := w.heap.size + 1) (w := W) (hS.2.1) 0 (by simp); have zm_1 : W.cell? ⟨w.heap.size + 1, 1, none⟩ = some (U m1) := IHolds.cell (l := [U m0, U m1, U m2, U m3]) (t := 73) (b := w.heap.size + 1) (w := W) (hS.2.1) 1 (by simp); have zm_2 : W.cell? ⟨w.heap.size + 1, 2, none⟩ = some (U m2) := IHolds.cell (l := [U m0, U m1, U m2, U m3]) (t := 73) (b := w.heap.size + 1) (w := W) (hS.2.1) 2 (by simp); have zm_3 : W.cell? ⟨w.heap.size + 1, 3, none⟩ = some (U m3) := IHolds.cell (l := [U m0, U m1, U m2, U m3]) (t := 73) (b := w.heap.size + 1) (w := W) (hS.2.1) 3 (by simp); go_simp
  simp only [Act.put, y1, y2, y3, y4, y5, y6, y7]
  refine wpAnyH_ready (rs := [3]) (by kernel_rfl) (by simp) ?_
  refine AllReadyH.cons rfl (fun K hK => ?_) AllReadyH.nil
  clear hHeld1
  go_simp
  refine (C1.out U2 F.out).mono ?_
  rintro e U3 ⟨rfl, hb⟩
  replace F := aF F hb
  replace B := aB B hb
  replace Jx := aJ Jx hb
  replace Jm := aJ Jm hb
  replace Jr := aJ Jr hb
  clear hb
  go_wp2_with fail
  refine hK.out _ _ (⟨Jx.out, Jm.out, F.out⟩) (fun hHeld2 => ?_)
  clear hK K
  try simp only [Act.put, y1, y2, y3, y4, y5, y6, y7]
  refine wpAnyH_ready (rs := [5]) (by kernel_rfl) (by simp) ?_
  refine AllReadyH.cons rfl (fun K hK => ?_) AllReadyH.nil
  clear hHeld2
  go_simp
  refine (C2.out U3 F.out).mono ?_
  rintro e U4 ⟨rfl, hb⟩
  replace F := aF F hb
  replace B := aB B hb
  replace Jx := aJ Jx hb
  replace Jm := aJ Jm hb
  replace Jr := aJ Jr hb
  clear hb
  go_wp2_with fail
  refine hK.out _ _ (⟨Jx.out, Jm.out, F.out⟩) (fun hHeld3 => ?_)
  clear hK K
  try simp only [Act.put, y1, y2, y3, y4, y5, y6, y7]
  refine wpAnyH_ready (rs := [6]) (by kernel_rfl) (by simp) ?_
  refine AllReadyH.cons rfl (fun K hK => ?_) AllReadyH.nil
  clear hHeld3
  have zr_0 : U4.cell? ⟨w.heap.size + 2, 0, none⟩ = some (.int .u64 0) := IHolds.cell (l := [.int .u64 0, .int .u64 0, .int .u64 0, .int .u64 0]) (t := 73) (b := w.heap.size + 2) (w := U4) (Jr.out) 0 (by simp)
  have zr_1 : U4.cell? ⟨w.heap.size + 2, 1, none⟩ = some (.int .u64 0) := IHolds.cell (l := [.int .u64 0, .int .u64 0, .int .u64 0, .int .u64 0]) (t := 73) (b := w.heap.size + 2) (w := U4) (Jr.out) 1 (by simp)
  have zr_2 : U4.cell? ⟨w.heap.size + 2, 2, none⟩ = some (.int .u64 0) := IHolds.cell (l := [.int .u64 0, .int .u64 0, .int .u64 0, .int .u64 0]) (t := 73) (b := w.heap.size + 2) (w := U4) (Jr.out) 2 (by simp)
  have zr_3 : U4.cell? ⟨w.heap.size + 2, 3, none⟩ = some (.int .u64 0) := IHolds.cell (l := [.int .u64 0, .int .u64 0, .int .u64 0, .int .u64 0]) (t := 73) (b := w.heap.size + 2) (w := U4) (Jr.out) 3 (by simp)
  have f0 := fJ Jr
  have hBut : But (w.heap.size + 2) U4 ((((U4.setCell ⟨w.heap.size + 2, 0, none⟩ (U v0)).setCell ⟨w.heap.size + 2, 1, none⟩ (U v1)).setCell ⟨w.heap.size + 2, 2, none⟩ (U v2)).setCell ⟨w.heap.size + 2, 3, none⟩ (U v3)) := (((((But.refl _ U4).setCell 0 (U v0)).setCell 1 (U v1)).setCell 2 (U v2)).setCell 3 (U v3))
  replace F := tF F hBut neF_r.out
  have I4 : Hid (IHolds _ (w.heap.size + 2) 73 [U v0, U v1, U v2, U v3]) := ((((Jr.out.set 0 (U v0)).set 1 (U v1)).set 2 (U v2)).set 3 (U v3))
  replace B : Hid (Below w.heap.size w ((((U4.setCell ⟨w.heap.size + 2, 0, none⟩ (U v0)).setCell ⟨w.heap.size + 2, 1, none⟩ (U v1)).setCell ⟨w.heap.size + 2, 2, none⟩ (U v2)).setCell ⟨w.heap.size + 2, 3, none⟩ (U v3))) := ((((B.out.setCell (by first | exact Nat.le_refl _ | exact ge_r.out | (show w.heap.size ≤ w.heap.size + 2; omega)) _).setCell (by first | exact Nat.le_refl _ | exact ge_r.out | (show w.heap.size ≤ w.heap.size + 2; omega)) _).setCell (by first | exact Nat.le_refl _ | exact ge_r.out | (show w.heap.size ≤ w.heap.size + 2; omega)) _).setCell (by first | exact Nat.le_refl _ | exact ge_r.out | (show w.heap.size ≤ w.heap.size + 2; omega)) _)
  replace Jx := tJ Jx hBut (by omega)
  replace Jm := tJ Jm hBut (by omega)
  replace Jr := I4
  clear I4 hBut
  go_simp
  try go_wp2_with fail
  clear zr_0 zr_1 zr_2 zr_3
  clear f0
  generalize ((((U4.setCell ⟨w.heap.size + 2, 0, none⟩ (U v0)).setCell ⟨w.heap.size + 2, 1, none⟩ (U v1)).setCell ⟨w.heap.size + 2, 2, none⟩ (U v2)).setCell ⟨w.heap.size + 2, 3, none⟩ (U v3)) = U5 at *
  refine hK.out _ _ (⟨Jx.out, Jm.out, F.out⟩) (fun hHeld4 => ?_)
  clear hK K
  try simp only [Act.put, y1, y2, y3, y4, y5, y6, y7]
  refine wpAnyH_done (by kernel_rfl) ?_ _
  clear hHeld4
  try go_wp2_with fail
  have E0 : Hid (U5.cell? ⟨w.heap.size + 2, 0, none⟩ = some (U v0)) := IHolds.cell (l := [U v0, U v1, U v2, U v3]) (t := 73) (b := w.heap.size + 2) (w := U5) Jr.out 0 (by simp)
  have E1 : Hid (U5.cell? ⟨w.heap.size + 2, 1, none⟩ = some (U v1)) := IHolds.cell (l := [U v0, U v1, U v2, U v3]) (t := 73) (b := w.heap.size + 2) (w := U5) Jr.out 1 (by simp)
  have E2 : Hid (U5.cell? ⟨w.heap.size + 2, 2, none⟩ = some (U v2)) := IHolds.cell (l := [U v0, U v1, U v2, U v3]) (t := 73) (b := w.heap.size + 2) (w := U5) Jr.out 2 (by simp)
  have E3 : Hid (U5.cell? ⟨w.heap.size + 2, 3, none⟩ = some (U v3)) := IHolds.cell (l := [U v0, U v1, U v2, U v3]) (t := 73) (b := w.heap.size + 2) (w := U5) Jr.out 3 (by simp)
  exact bodyPost_ret (v := .agg #[U v0, U v1, U v2, U v3]) (by simp [results, Tryz.results142, go_sem, E0.out, E1.out, E2.out, E3.out]) rfl ⟨rfl, B.out⟩
theorem enterA {w : World} {g o Wd M low one sq Ri a : Nat} (F : FH w g o Wd M low one sq) (fl : Fld Wd M low one sq Ri) (ha : a < BB ^ Wd) :
    Calls Tryz.prog 107 #[.pointer (some ⟨g, o, none⟩), A4 a] w fun e w' => e = .returned (A4 (a * BB ^ Wd % M)) ∧ Below w.heap.size w w' :=
  enter_words F _ _ _ _ _ _ _ _ (fun W hF => joined_sq hF fl ha)
theorem Fld.in_words {Wd M low one sq Ri a : Nat} (fl : Fld Wd M low one sq Ri) (h : a < M) : a < BB ^ Wd := by
  have := fl.m9
  omega
theorem Fld.in_mod {Wd M low one sq Ri : Nat} (fl : Fld Wd M low one sq Ri) (a : Nat) : a % M < BB ^ Wd := fl.in_words (Nat.mod_lt _ (by have := fl.m2; omega))
theorem joined_both {w : World} {g o Wd M low one sq Ri a b : Nat} (F : FH w g o Wd M low one sq) (fl : Fld Wd M low one sq Ri) :
    Calls Tryz.prog 109 #[.pointer (some ⟨g, o, none⟩), A4 (a * BB ^ Wd % M), A4 (b * BB ^ Wd % M)] w fun e w' => e = .returned (A4 (a * b * BB ^ Wd % M)) ∧ Below w.heap.size w w' := by
  have hm := fl.m2
  refine (joined_any F fl (fl.in_mod _) (Nat.mod_lt _ (by omega))).mono ?_
  rintro e w' ⟨⟨r, rfl, h⟩, hb⟩
  rw [fl.both h]
  exact ⟨rfl, hb⟩
theorem leaveA {w : World} {g o Wd M low one sq Ri a : Nat} (F : FH w g o Wd M low one sq) (fl : Fld Wd M low one sq Ri) :
    Calls Tryz.prog 111 #[.pointer (some ⟨g, o, none⟩), A4 (a * BB ^ Wd % M)] w fun e w' => e = .returned (A4 (a % M)) ∧ Below w.heap.size w w' := by
  refine leave_words F _ _ _ _ _ _ _ _ (fun W hF => ?_)
  have hm := fl.m2
  have e1 : Value.agg #[.int .u64 1, .int .u64 0, .int .u64 0, .int .u64 0] = A4 1 := A4_small (k := 1) (by rw [BB_eq]; omega)
  rw [e1]
  refine (joined_any hF fl (fl.in_mod _) (by omega)).mono ?_
  rintro e w' ⟨⟨r, rfl, h⟩, hb⟩
  rw [fl.leave h]
  exact ⟨rfl, hb⟩
theorem ftimesA {w : World} {g o Wd M low one sq Ri a b : Nat} (F : FH w g o Wd M low one sq) (fl : Fld Wd M low one sq Ri) (ha : a < BB ^ Wd) (hb : b < M) :
    Calls Tryz.prog 142 #[.pointer (some ⟨g, o, none⟩), A4 a, A4 b] w fun e w' => e = .returned (A4 (a * b % M)) ∧ Below w.heap.size w w' := by
  refine ftimes_words F _ _ _ _ _ _ _ _ _ _ _ _ _ _ _ _ (fun W hF => enterA hF fl ha) (fun W hF => ?_)
  refine (joined_any hF fl (fl.in_mod _) hb).mono ?_
  rintro e w' ⟨⟨r, rfl, h⟩, hb⟩
  rw [fl.of_entered h]
  exact ⟨rfl, hb⟩
end Go.Proofs.YtmpiipcllgjhdaaGreatDoor

/- How many digits a number has. -/
namespace Go.Proofs.YtmpiipcllgjhdaaGreatDoor
open Go.RowKit Go.Deep Go.PlainAid

theorem len_up {x y t s : Nat} (h : y < 2 ^ t) (hy : y = x / 2 ^ s) : x < 2 ^ (s + t) := by
  rw [Nat.pow_add]
  have h1 : x < 2 ^ s * (x / 2 ^ s + 1) := Nat.lt_mul_div_succ x (Nat.pow_pos (by omega))
  have h2 : 2 ^ s * (x / 2 ^ s + 1) ≤ 2 ^ s * 2 ^ t := Nat.mul_le_mul_left _ (by omega)
  omega
set_option maxRecDepth 100000 in
set_option maxHeartbeats 4000000 in
theorem len64_any (x : Nat) (hx : x < 18446744073709551616) (w : World) :
    Calls Tryz.prog 135 #[U x] w fun e w' => (∃ L : Nat, e = .returned (.int .i64 (L : Int)) ∧ x < 2 ^ L ∧ L ≤ 64) ∧ w' = w := by
  go_enter Tryz.func135, Tryz.ntmps135
  generalize hT : ByteArray.mk (List.toArray _) = T
  have hs : T.size = 256 := by rw [← hT]; kernel_rfl
  have hv : Hid (∀ i : Fin 256, i.val < 2 ^ (T.data.toList.getD i.val 0).toNat ∧ (T.data.toList.getD i.val 0).toNat ≤ 8) := by show ∀ _, _; rw [← hT]; decide +kernel
  clear hT
  have hb := get_bt T
  have HB : Hid (∀ y : Nat, y < 256 → ∃ t : Nat, bt T y = (t : Int) ∧ y < 2 ^ t ∧ t ≤ 8) := by
    show ∀ _, _
    intro y hy
    refine ⟨(T.data.toList.getD y 0).toNat, ?_, hv.out ⟨y, hy⟩⟩
    have hl : y < T.data.toList.length := by show y < T.size; omega
    rw [bt_list T y (by omega), List.getD_eq_getElem?_getD, List.getElem?_eq_getElem hl]
    rfl
  clear hv
  by_cases ha : 4294967296 ≤ x
  · by_cases hb1 : 65536 ≤ x / 4294967296
    · by_cases hc : 256 ≤ x / 4294967296 / 65536
      · obtain ⟨p, hp⟩ : ∃ y, y = x / 4294967296 := ⟨_, rfl⟩
        have kp : (x : Int) / 4294967296 = (p : Int) := by omega
        have tp : (4294967296 : Int) ≤ (x : Int) := by omega
        obtain ⟨q, hq⟩ : ∃ y, y = p / 65536 := ⟨_, rfl⟩
        have kq : (p : Int) / 65536 = (q : Int) := by omega
        have tq : (65536 : Int) ≤ (p : Int) := by omega
        obtain ⟨r, hr⟩ : ∃ y, y = q / 256 := ⟨_, rfl⟩
        have kr : (q : Int) / 256 = (r : Int) := by omega
        have tr : (256 : Int) ≤ (q : Int) := by omega
        have y9 : r < 256 := by omega
        obtain ⟨t, kt, t1, t2⟩ := HB.out r y9
        have HE : Hid (x < 2 ^ (56 + t)) := len_up (y := r) t1 (by simp only [Nat.reducePow]; omega)
        have km : (r : Int) % 256 = (r : Int) := by omega
        clear HB hp hq hr
        go_wp2_with fail
        go_ret
        exact ⟨⟨56 + t, by first | done | rfl | go_num, HE.out, by omega⟩, rfl⟩
      · obtain ⟨p, hp⟩ : ∃ y, y = x / 4294967296 := ⟨_, rfl⟩
        have kp : (x : Int) / 4294967296 = (p : Int) := by omega
        have tp : (4294967296 : Int) ≤ (x : Int) := by omega
        obtain ⟨q, hq⟩ : ∃ y, y = p / 65536 := ⟨_, rfl⟩
        have kq : (p : Int) / 65536 = (q : Int) := by omega
        have tq : (65536 : Int) ≤ (p : Int) := by omega
        have tr : ¬ (256 : Int) ≤ (q : Int) := by omega
        have y9 : q < 256 := by omega
        obtain ⟨t, kt, t1, t2⟩ := HB.out q y9
        have HE : Hid (x < 2 ^ (48 + t)) := len_up (y := q) t1 (by simp only [Nat.reducePow]; omega)
        have km : (q : Int) % 256 = (q : Int) := by omega
        clear HB hp hq
        go_wp2_with fail
        go_ret
        exact ⟨⟨48 + t, by first | done | rfl | go_num, HE.out, by omega⟩, rfl⟩
    · by_cases hc : 256 ≤ x / 4294967296
      · obtain ⟨p, hp⟩ : ∃ y, y = x / 4294967296 := ⟨_, rfl⟩
        have kp : (x : Int) / 4294967296 = (p : Int) := by omega
        have tp : (4294967296 : Int) ≤ (x : Int) := by omega
        have tq : ¬ (65536 : Int) ≤ (p : Int) := by omega
        obtain ⟨r, hr⟩ : ∃ y, y = p / 256 := ⟨_, rfl⟩
        have kr : (p : Int) / 256 = (r : Int) := by omega
        have tr : (256 : Int) ≤ (p : Int) := by omega
        have y9 : r < 256 := by omega
        obtain ⟨t, kt, t1, t2⟩ := HB.out r y9
        have HE : Hid (x < 2 ^ (40 + t)) := len_up (y := r) t1 (by simp only [Nat.reducePow]; omega)
        have km : (r : Int) % 256 = (r : Int) := by omega
        clear HB hp hr
        go_wp2_with fail
        go_ret
        exact ⟨⟨40 + t, by first | done | rfl | go_num, HE.out, by omega⟩, rfl⟩
      · obtain ⟨p, hp⟩ : ∃ y, y = x / 4294967296 := ⟨_, rfl⟩
        have kp : (x : Int) / 4294967296 = (p : Int) := by omega
        have tp : (4294967296 : Int) ≤ (x : Int) := by omega
        have tq : ¬ (65536 : Int) ≤ (p : Int) := by omega
        have tr : ¬ (256 : Int) ≤ (p : Int) := by omega
        have y9 : p < 256 := by omega
        obtain ⟨t, kt, t1, t2⟩ := HB.out p y9
        have HE : Hid (x < 2 ^ (32 + t)) := len_up (y := p) t1 (by simp only [Nat.reducePow]; omega)
        have km : (p : Int) % 256 = (p : Int) := by omega
        clear HB hp
        go_wp2_with fail
        go_ret
        exact ⟨⟨32 + t, by first | done | rfl | go_num, HE.out, by omega⟩, rfl⟩
  · by_cases hb1 : 65536 ≤ x
    · by_cases hc : 256 ≤ x / 65536
      · have tp : ¬ (4294967296 : Int) ≤ (x : Int) := by omega
        obtain ⟨q, hq⟩ : ∃ y, y = x / 65536 := ⟨_, rfl⟩
        have kq : (x : Int) / 65536 = (q : Int) := by omega
        have tq : (65536 : Int) ≤ (x : Int) := by omega
        obtain ⟨r, hr⟩ : ∃ y, y = q / 256 := ⟨_, rfl⟩
        have kr : (q : Int) / 256 = (r : Int) := by omega
        have tr : (256 : Int) ≤ (q : Int) := by omega
        have y9 : r < 256 := by omega
        obtain ⟨t, kt, t1, t2⟩ := HB.out r y9
        have HE : Hid (x < 2 ^ (24 + t)) := len_up (y := r) t1 (by simp only [Nat.reducePow]; omega)
        have km : (r : Int) % 256 = (r : Int) := by omega
        clear HB hq hr
        go_wp2_with fail
        go_ret
        exact ⟨⟨24 + t, by first | done | rfl | go_num, HE.out, by omega⟩, rfl⟩
      · have tp : ¬ (4294967296 : Int) ≤ (x : Int) := by omega
        obtain ⟨q, hq⟩ : ∃ y, y = x / 65536 := ⟨_, rfl⟩
        have kq : (x : Int) / 65536 = (q : Int) := by omega
        have tq : (65536 : Int) ≤ (x : Int) := by omega
        have tr : ¬ (256 : Int) ≤ (q : Int) := by omega
        have y9 : q < 256 := by omega
        obtain ⟨t, kt, t1, t2⟩ := HB.out q y9
        have HE : Hid (x < 2 ^ (16 + t)) := len_up (y := q) t1 (by simp only [Nat.reducePow]; omega)
        have km : (q : Int) % 256 = (q : Int) := by omega
        clear HB hq
        go_wp2_with fail
        go_ret
        exact ⟨⟨16 + t, by first | done | rfl | go_num, HE.out, by omega⟩, rfl⟩
    · by_cases hc : 256 ≤ x
      · have tp : ¬ (4294967296 : Int) ≤ (x : Int) := by omega
        have tq : ¬ (65536 : Int) ≤ (x : Int) := by omega
        obtain ⟨r, hr⟩ : ∃ y, y = x / 256 := ⟨_, rfl⟩
        have kr : (x : Int) / 256 = (r : Int) := by omega
        have tr : (256 : Int) ≤ (x : Int) := by omega
        have y9 : r < 256 := by omega
        obtain ⟨t, kt, t1, t2⟩ := HB.out r y9
        have HE : Hid (x < 2 ^ (8 + t)) := len_up (y := r) t1 (by simp only [Nat.reducePow]; omega)
        have km : (r : Int) % 256 = (r : Int) := by omega
        clear HB hr
        go_wp2_with fail
        go_ret
        exact ⟨⟨8 + t, by first | done | rfl | go_num, HE.out, by omega⟩, rfl⟩
      · have tp : ¬ (4294967296 : Int) ≤ (x : Int) := by omega
        have tq : ¬ (65536 : Int) ≤ (x : Int) := by omega
        have tr : ¬ (256 : Int) ≤ (x : Int) := by omega
        have y9 : x < 256 := by omega
        obtain ⟨t, kt, t1, t2⟩ := HB.out x y9
        have HE : Hid (x < 2 ^ (0 + t)) := len_up (y := x) t1 (by simp only [Nat.reducePow]; omega)
        have km : (x : Int) % 256 = (x : Int) := by omega
        clear HB 
        go_wp2_with fail
        go_ret
        exact ⟨⟨t, by first | rfl | go_num, by simpa using HE.out, by omega⟩, rfl⟩
/-- A digit to the base 16. -/
def dgt (n p : Nat) : Nat := n / 16 ^ p % 16
theorem dgt_lt (n p : Nat) : dgt n p < 16 := Nat.mod_lt _ (by omega)
theorem word_digit (n p q r : Nat) (hq : q = p * 4 / 64) (hr : r = p * 4 % 64) : w4 n q / 2 ^ r % 16 = dgt n p := by
  unfold w4 dgt
  have e : 16 ^ p = BB ^ q * 2 ^ r := by
    rw [show (16 : Nat) = 2 ^ 4 from rfl, ← Nat.pow_mul, show BB = 2 ^ 64 from rfl, ← Nat.pow_mul, ← Nat.pow_add]
    congr 1
    omega
  rw [e, ← Nat.div_div_eq_div_mul]
  generalize n / BB ^ q = y
  have hB : BB = 2 ^ r * (16 * 2 ^ (60 - r)) := by
    rw [show (16 : Nat) = 2 ^ 4 from rfl, ← Nat.pow_add, ← Nat.pow_add, show BB = 2 ^ 64 from rfl]
    congr 1
    omega
  rw [hB, Nat.mod_mul_right_div_self, Nat.mod_mul_right_mod]
set_option maxRecDepth 100000 in
set_option maxHeartbeats 2000000 in
theorem digit_any (w : World) {n p : Nat} (hp : p < 64) : Calls Tryz.prog 110 #[A4 n, .int .i64 (p : Int)] w fun e w' => e = .returned (.int .i64 (dgt n p : Int)) ∧ Below w.heap.size w w' := by
  show Calls Tryz.prog 110 #[.agg #[U (w4 n 0), U (w4 n 1), U (w4 n 2), U (w4 n 3)], .int .i64 (p : Int)] w _
  obtain ⟨a, ha⟩ : ∃ a, a = p * 4 := ⟨_, rfl⟩
  obtain ⟨q, hq⟩ : ∃ q, q = a / 64 := ⟨_, rfl⟩
  obtain ⟨r, hr⟩ : ∃ r, r = a % 64 := ⟨_, rfl⟩
  have e := word_digit n p q r (by omega) (by omega)
  have W0e : Hid (IHolds (w.alloc (.cells #[U (w4 n 0), U (w4 n 1), U (w4 n 2), U (w4 n 3)] 73)) w.heap.size 73 (us (ws4 n))) := IHolds.new w 73 (us (ws4 n))
  have B : Hid (Below w.heap.size w (w.alloc (.cells #[U (w4 n 0), U (w4 n 1), U (w4 n 2), U (w4 n 3)] 73))) := nB _ _
  have c : (w.alloc (.cells #[U (w4 n 0), U (w4 n 1), U (w4 n 2), U (w4 n 3)] 73)).cell? ⟨w.heap.size, q, none⟩ = some (U (w4 n q)) := by
    have := us_cell W0e.out q (by rw [ws4_length]; omega)
    rw [ws4_getD n q (by omega)] at this
    exact this
  have u9 : w4 n q < 18446744073709551616 := w4_lt n q
  have d9 := dgt_lt n p
  have HD : Hid (dgt n p = dgt n p) := rfl
  generalize dgt n p = d at *
  generalize hX : w4 n q = u at *
  obtain ⟨y, hy⟩ : ∃ y, y = u / 2 ^ r := ⟨_, rfl⟩
  have y9 : y < 18446744073709551616 := by rw [hy]; exact Nat.lt_of_le_of_lt (Nat.div_le_self _ _) u9
  have ky : (u : Int) / 2 ^ r = (y : Int) := by rw [hy]; norm_cast
  have ky2 : (u : Int) >>> r = (y : Int) := by rw [hy, Int.shiftRight_eq_div_pow]; norm_cast
  have kd : bits .and .u64 (y : Int) 15 = (d : Int) := by
    have h := bits_and_u64_nat y 15 y9 (by omega)
    have e2 : y &&& 15 = d := by rw [show y &&& 15 = y % 16 from Nat.and_two_pow_sub_one_eq_mod y 4, hy, e]
    rw [e2] at h
    exact h
  have ka : (p : Int) * 4 = (a : Int) := by omega
  have kq : (a : Int) / 64 = (q : Int) := by omega
  have kq2 : (a : Int).tdiv 64 = (q : Int) := by rw [Int.tdiv_eq_ediv_of_nonneg (by omega)]; omega
  have kr : (a : Int) % 64 = (r : Int) := by omega
  have kr2 : (a : Int).tmod 64 = (r : Int) := by rw [Int.tmod_eq_emod_of_nonneg (by omega)]; omega
  have a9 : a ≤ 252 := by omega
  have q9 : (q : Int) < 4 := by omega
  have r9 : r ≤ 63 := by omega
  clear hX hy e ha hq hr W0e
  go_enter Tryz.func110, Tryz.ntmps110
  go_wp2_with fail
  go_ret
  exact ⟨by first | rfl | go_num, B.out⟩
theorem dig_len {n i L D : Nat} (h0 : n < BB ^ (i + 1)) (hx : w4 n i < 2 ^ L) (hD : 64 * i + L ≤ 4 * D) : n < 16 ^ D := by
  have e : w4 n i = n / BB ^ i := by
    unfold w4
    refine Nat.mod_eq_of_lt (Nat.div_lt_of_lt_mul ?_)
    rw [← Nat.pow_succ]; exact h0
  rw [e] at hx
  have h1 : n < BB ^ i * (n / BB ^ i + 1) := Nat.lt_mul_div_succ n (BBp i)
  have h2 : BB ^ i * (n / BB ^ i + 1) ≤ BB ^ i * 2 ^ L := Nat.mul_le_mul_left _ (by omega)
  have h3 : BB ^ i * 2 ^ L = 2 ^ (64 * i + L) := by rw [show BB = 2 ^ 64 from rfl, ← Nat.pow_mul, ← Nat.pow_add]
  have h4 : 2 ^ (64 * i + L) ≤ 2 ^ (4 * D) := Nat.pow_le_pow_right (by omega) hD
  rw [Nat.pow_mul 2 4 D, show (2 : Nat) ^ 4 = 16 from rfl] at h4
  rw [h3] at h2
  exact Nat.lt_of_lt_of_le h1 (Nat.le_trans h2 h4)
theorem dig_next {n i : Nat} (h0 : n < BB ^ (i + 1)) (hx : w4 n i = 0) : n < BB ^ i := by
  have e : w4 n i = n / BB ^ i := by
    unfold w4
    refine Nat.mod_eq_of_lt (Nat.div_lt_of_lt_mul ?_)
    rw [← Nat.pow_succ]; exact h0
  rw [e] at hx
  have h1 : n < BB ^ i * (n / BB ^ i + 1) := Nat.lt_mul_div_succ n (BBp i)
  rw [hx] at h1
  omega
set_option maxRecDepth 100000 in
set_option maxHeartbeats 2000000 in
theorem digits_any (w : World) {n : Nat} (hn : n < BB ^ 4) : Calls Tryz.prog 108 #[A4 n] w fun e w' => (∃ D : Nat, e = .returned (.int .i64 (D : Int)) ∧ n < 16 ^ D ∧ D ≤ 64) ∧ Below w.heap.size w w' := by
  show Calls Tryz.prog 108 #[.agg #[U (w4 n 0), U (w4 n 1), U (w4 n 2), U (w4 n 3)]] w _
  have J0 : Hid (IHolds (w.alloc (.cells #[U (w4 n 0), U (w4 n 1), U (w4 n 2), U (w4 n 3)] 73)) w.heap.size 73 (us (ws4 n))) := IHolds.new w 73 (us (ws4 n))
  have B0 : Hid (Below w.heap.size w (w.alloc (.cells #[U (w4 n 0), U (w4 n 1), U (w4 n 2), U (w4 n 3)] 73))) := nB _ _
  have HN : Hid (n < BB ^ 4) := hn
  clear hn
  go_enter Tryz.func108, Tryz.ntmps108
  go_wp2_with fail
  generalize w.alloc (.cells #[U (w4 n 0), U (w4 n 1), U (w4 n 2), U (w4 n 3)] 73) = W0 at *
  go_loopg [3] 4 (fun gk v3 wr => ∃ i : Nat, i = gk ∧ v3 = .int .i64 ((i : Int) - 1) ∧ i ≤ 4 ∧ n < BB ^ i ∧ IHolds wr w.heap.size 73 (us (ws4 n)) ∧ Below w.heap.size w wr)
  case atStart => exact ⟨4, rfl, rfl, by omega, HN.out, J0.out, B0.out⟩
  case round =>
    clear HN J0 B0
    obtain ⟨i, rfl, rfl, hi4, hn, hJ, hB⟩ := hrel
    have J : Hid (IHolds wr w.heap.size 73 (us (ws4 n))) := hJ
    have B : Hid (Below w.heap.size w wr) := hB
    have HN : Hid (n < BB ^ i) := hn
    clear hJ hB hn
    by_cases h0 : 0 < i
    · obtain ⟨j, hj⟩ : ∃ j, j = i - 1 := ⟨_, rfl⟩
      have kj : (i : Int) - 1 = (j : Int) := by omega
      have j4 : (j : Int) < 4 := by omega
      have Hj : Hid (i = j + 1) := by show _ = _; omega
      have HN2 : Hid (n < BB ^ (j + 1)) := by show _ < _; rw [← Hj.out]; exact HN.out
      have c : wr.cell? ⟨w.heap.size, j, none⟩ = some (U (w4 n j)) := by
        have := us_cell J.out j (by rw [ws4_length]; omega)
        rw [ws4_getD n j (by omega)] at this
        exact this
      have u9 : w4 n j < 18446744073709551616 := w4_lt n j
      have HL' : Hid (∀ (L D : Nat), w4 n j < 2 ^ L → 64 * j + L ≤ 4 * D → n < 16 ^ D) := fun L D h1 h2 => dig_len HN2.out h1 h2
      have HX' : Hid (w4 n j = 0 → n < BB ^ j) := dig_next HN2.out
      generalize w4 n j = u at *
      by_cases hu : u = 0
      · have HX2 : Hid (n < BB ^ j) := HX'.out hu
        subst hu
        clear hj HL' HX' HN HN2
        go_wp2_with fail
        go_roundg (i - 1)
        case measure => omega
        case rel => exact ⟨j, by have := Hj.out; omega, by go_num, by omega, HX2.out, J.out, B.out⟩
      · have hu1 : ((u : Int) != 0) = true := bne_iff_ne.2 (by omega)
        have hu2 : ¬ (u : Int) = 0 := by omega
        obtain ⟨m, hm⟩ : ∃ m, m = j * 64 := ⟨_, rfl⟩
        have km : (j : Int) * 64 = (m : Int) := by omega
        have m9 : m ≤ 192 := by omega
        have Hm : Hid (m = j * 64) := hm
        clear hm hj
        go_wp2_with fail
        refine (len64_any u u9 wr).mono ?_
        rintro e w' ⟨⟨L, rfl, hL, L9⟩, hw⟩
        rw [hw]
        obtain ⟨D, hD⟩ : ∃ D, D = (m + L + 4 - 1) / 4 := ⟨_, rfl⟩
        have HD : Hid (n < 16 ^ D) := HL'.out L D hL (by have := Hm.out; omega)
        have D9 : D ≤ 64 := by omega
        obtain ⟨m1, hm1⟩ : ∃ m1, m1 = m + L := ⟨_, rfl⟩
        have k1 : (m : Int) + (L : Int) = (m1 : Int) := by omega
        obtain ⟨m2, hm2⟩ : ∃ m2, m2 = m1 + 4 := ⟨_, rfl⟩
        have k2 : (m1 : Int) + 4 = (m2 : Int) := by omega
        obtain ⟨m3, hm3⟩ : ∃ m3, m3 = m2 - 1 := ⟨_, rfl⟩
        have k3 : (m2 : Int) - 1 = (m3 : Int) := by omega
        have k4 : (m3 : Int) / 4 = (D : Int) := by omega
        have k5 : (m3 : Int).tdiv 4 = (D : Int) := by rw [Int.tdiv_eq_ediv_of_nonneg (by omega)]; omega
        have b1 : m1 ≤ 1000 := by omega
        have b2 : m2 ≤ 1000 := by omega
        have b3 : m3 ≤ 1000 := by omega
        clear hD hm1 hm2 hm3 hw HL' HX' HN HN2 hL
        go_wp2_with fail
        go_ret
        exact ⟨⟨D, by first | rfl | go_num, HD.out, D9⟩, B.out⟩
    · obtain rfl : i = 0 := by omega
      have HZ : Hid (n = 0) := by have := HN.out; show _ = _; simpa using this
      clear HN
      go_wp2_with fail
      go_ret
      exact ⟨⟨0, by first | rfl | go_num, by rw [HZ.out]; decide, by omega⟩, B.out⟩
end Go.Proofs.YtmpiipcllgjhdaaGreatDoor

/- The powers of a number by each digit. -/
namespace Go.Proofs.YtmpiipcllgjhdaaGreatDoor
open Go.RowKit Go.Deep Go.PlainAid

/-- The cells of a number's first powers, within. -/
def tabC (R M a : Nat) : Nat → List Value
  | 0 => []
  | k + 1 => tabC R M a k ++ us (ws4 (a ^ k * R % M))
theorem tabC_length (R M a k : Nat) : (tabC R M a k).length = k * 4 := by
  induction k with
  | zero => rfl
  | succ k ih => rw [tabC, List.length_append, ih]; simp [us, ws4]; omega
theorem us4_at (x j : Nat) (hj : j < 4) : (us (ws4 x))[j]? = some (U (w4 x j)) := by
  match j, hj with
  | 0, _ => rfl
  | 1, _ => rfl
  | 2, _ => rfl
  | 3, _ => rfl
theorem tabC_at (R M a k d j : Nat) (hd : d < k) (hj : j < 4) : (tabC R M a k)[d * 4 + j]? = some (U (w4 (a ^ d * R % M) j)) := by
  induction k with
  | zero => omega
  | succ k ih =>
    rw [tabC]
    by_cases h : d < k
    · rw [List.getElem?_append_left (by rw [tabC_length]; omega)]
      exact ih h
    · have e : d = k := by omega
      subst e
      rw [List.getElem?_append_right (by rw [tabC_length]; omega), tabC_length, show d * 4 + j - d * 4 = j by omega]
      exact us4_at _ j hj
/-- A row of numbers of the call's own: where it lies. -/
theorem owned_at {w : World} {base : Nat} {v : Value} {k R M a : Nat} (h : w.ownsRow base 73 4 v k (tabC R M a k)) (hk : 0 < k) :
    ∃ gk cap, v = .slice (some ⟨gk, 0, none⟩) k cap ∧ k ≤ cap ∧ cap ≤ 9223372036854775807 ∧ base ≤ gk ∧ ∀ d j, d < k → j < 4 → w.cell? ⟨gk, d * 4 + j, none⟩ = some (U (w4 (a ^ d * R % M) j)) := by
  obtain ⟨_, ⟨rfl, h0⟩ | ⟨gk, cap, cur, rfl, hb, hg, hc, hm, hs, ht⟩⟩ := h
  · omega
  · refine ⟨gk, cap, rfl, hc, hm, hb, ?_⟩
    intro d j hd hj
    have e := tabC_at R M a k d j hd hj
    rw [← ht, List.getElem?_take_of_lt (by omega), Array.getElem?_toList] at e
    simp only [World.cell?, hg]
    simpa using e
theorem addr_add (b j : Nat) : (⟨b, 0, none⟩ : Addr).add j = ⟨b, j, none⟩ := by
  by_cases h : j = 0
  · subst h; simp [Addr.add]
  · simp [Addr.add, h]
theorem own_below {w w' : World} {base : Nat} {e : TypeId} {size : Nat} {v : Value} {n : Nat} {xs : List Value} (h : w.ownsRow base e size v n xs) (hb : Below w.heap.size w w') : w'.ownsRow base e size v n xs := by
  obtain ⟨hl, ⟨rfl, h0⟩ | ⟨g, cap, cur, rfl, h1, hg, h2⟩⟩ := h
  · exact ⟨hl, Or.inl ⟨rfl, h0⟩⟩
  · exact ⟨hl, Or.inr ⟨g, cap, cur, rfl, h1, by rw [hb.block _ (Array.getElem?_eq_some_iff.1 hg).1]; exact hg, h2⟩⟩
/-- No digit ahead of place p is above m. -/
def UpTo (n p m : Nat) : Prop := ∀ q, q < p → dgt n q ≤ m
theorem UpTo.step {n p m : Nat} (h : UpTo n p m) {k : Nat} (h1 : m ≤ k) (h2 : dgt n p ≤ k) : UpTo n (p + 1) k := by
  intro q hq
  by_cases e : q < p
  · exact Nat.le_trans (h q e) h1
  · have : q = p := by omega
    subst this; exact h2
/-- The table of a number's powers that go with the digits of n. -/
def TabV (w : World) (base R M a n : Nat) (v : Value) : Prop :=
  ∃ gk cap k, v = .slice (some ⟨gk, 0, none⟩) k cap ∧ base ≤ gk ∧ k ≤ cap ∧ cap ≤ 9223372036854775807 ∧ (∀ p, p < 64 → dgt n p < k) ∧ ∀ d j, d < k → j < 4 → w.cell? ⟨gk, d * 4 + j, none⟩ = some (U (w4 (a ^ d * R % M) j))
theorem Tryz.info66 : (Tryz.prog.info? 73).map (fun i => (i.zero, i.size, i.bytes)) = some (some (.agg #[.int .u64 0, .int .u64 0, .int .u64 0, .int .u64 0]), 4, 32) := by kernel_rfl
theorem make105x : ∃ TL : List Value, TL.length = 64 ∧ (∀ i, i < 4 → TL[i]? = some (.int .u64 0)) ∧ ∀ w : World, (Instr.makeSlice 121 (.int .i64 1) (.int .i64 16)).run Tryz.prog w = .ok (.slice (some ⟨w.heap.size, 0, none⟩) 1 16) (w.alloc (.cells TL.toArray 73)) := by
  refine ⟨List.replicate 64 (.int .u64 0), by simp, ?_, ?_⟩
  · intro i hi
    rw [List.getElem?_replicate, if_pos (by omega)]
  intro w
  obtain ⟨i0, hi0, hz0, hz1, hz2⟩ := info_parts Tryz.info66
  have := run_make (P := Tryz.prog) w 121 73 i0 _ Tryz.underlying121 hi0 hz0 .i64 .i64 1 16 (by omega) (by omega) (by rw [hz2]; omega) (by omega)
  rw [this, hz1]
  have e : madeCells (Value.agg #[.int .u64 0, .int .u64 0, .int .u64 0, .int .u64 0]).cells (Int.toNat 16 * 4) = (List.replicate 64 (Value.int .u64 0)).toArray := by kernel_rfl
  rw [e]
  rfl
theorem first_row {W : World} {b base : Nat} {TL : List Value} {x0 x1 x2 x3 : Value} (h : IHolds W b 73 ((((TL.set 0 x0).set 1 x1).set 2 x2).set 3 x3)) (hl : TL.length = 64) (hb : base ≤ b) :
    W.ownsRow base 73 4 (.slice (some ⟨b, 0, none⟩) 1 16) 1 [x0, x1, x2, x3] := by
  obtain ⟨y0, y1, y2, y3, r, rfl⟩ : ∃ y0 y1 y2 y3 r, TL = y0 :: y1 :: y2 :: y3 :: r := by
    match TL, hl with
    | y0 :: y1 :: y2 :: y3 :: r, _ => exact ⟨_, _, _, _, _, rfl⟩
  simp only [List.set_cons_zero, List.set_cons_succ] at h
  refine ⟨rfl, Or.inr ⟨b, 16, (x0 :: x1 :: x2 :: x3 :: r).toArray, rfl, hb, h, by omega, by unfold maxLen; omega, ?_, ?_⟩⟩
  · simpa using hl
  · simp
set_option maxRecDepth 100000 in
set_option maxHeartbeats 500000 in
theorem table_any {w : World} {g o Wd M low one sq Ri a n : Nat} (F : Hid (FH w g o Wd M low one sq)) (fl : Fld Wd M low one sq Ri) (hn : n < BB ^ 4) :
    Calls Tryz.prog 106 #[.pointer (some ⟨g, o, none⟩), A4 (a * BB ^ Wd % M), A4 n] w fun e w' => (∃ v, e = .returned v ∧ TabV w' w.heap.size (BB ^ Wd) M a n v) ∧ Below w.heap.size w w' := by
  obtain ⟨X, hX⟩ : ∃ X, X = a * BB ^ Wd % M := ⟨_, rfl⟩
  rw [← hX]
  show Calls Tryz.prog 106 #[.pointer (some ⟨g, o, none⟩), .agg #[U (w4 X 0), U (w4 X 1), U (w4 X 2), U (w4 X 3)], .agg #[U (w4 n 0), U (w4 n 1), U (w4 n 2), U (w4 n 3)]] w _
  have HO : Hid (one = a ^ 0 * BB ^ Wd % M) := by show _ = _; rw [fl.o, Nat.pow_zero, Nat.one_mul]
  have CJ : Hid (∀ W d, FH W g o Wd M low one sq → Calls Tryz.prog 109 #[.pointer (some ⟨g, o, none⟩), A4 (a ^ d * BB ^ Wd % M), A4 X] W fun e w' => e = .returned (A4 (a ^ (d + 1) * BB ^ Wd % M)) ∧ Below W.heap.size W w') := fun W d hF => by
    rw [hX, Nat.pow_succ]; exact joined_both hF fl
  have CD : Hid (∀ W, Calls Tryz.prog 108 #[.agg #[U (w4 n 0), U (w4 n 1), U (w4 n 2), U (w4 n 3)]] W fun e w' => (∃ D : Nat, e = .returned (.int .i64 (D : Int)) ∧ n < 16 ^ D ∧ D ≤ 64) ∧ Below W.heap.size W w') := fun W => digits_any W hn
  have CG : Hid (∀ W (p : Nat), p < 64 → Calls Tryz.prog 110 #[.agg #[U (w4 n 0), U (w4 n 1), U (w4 n 2), U (w4 n 3)], .int .i64 (p : Int)] W fun e w' => e = .returned (.int .i64 (dgt n p : Int)) ∧ Below W.heap.size W w') := fun W p hp => digit_any W hp
  clear fl hX hn
  generalize BB ^ Wd = R at *
  have JX : Hid (IHolds ((w.alloc (.cells #[U (w4 X 0), U (w4 X 1), U (w4 X 2), U (w4 X 3)] 73)).alloc (.cells #[U (w4 n 0), U (w4 n 1), U (w4 n 2), U (w4 n 3)] 73)) w.heap.size 73 [U (w4 X 0), U (w4 X 1), U (w4 X 2), U (w4 X 3)]) := (IHolds.new w 73 [U (w4 X 0), U (w4 X 1), U (w4 X 2), U (w4 X 3)]).alloc _
  have JN : Hid (IHolds ((w.alloc (.cells #[U (w4 X 0), U (w4 X 1), U (w4 X 2), U (w4 X 3)] 73)).alloc (.cells #[U (w4 n 0), U (w4 n 1), U (w4 n 2), U (w4 n 3)] 73)) (w.heap.size + 1) 73 [U (w4 n 0), U (w4 n 1), U (w4 n 2), U (w4 n 3)]) := by
    have q := IHolds.new (w.alloc (.cells #[U (w4 X 0), U (w4 X 1), U (w4 X 2), U (w4 X 3)] 73)) 73 [U (w4 n 0), U (w4 n 1), U (w4 n 2), U (w4 n 3)]
    rw [World.size_alloc] at q
    exact q
  have B : Hid (Below w.heap.size w ((w.alloc (.cells #[U (w4 X 0), U (w4 X 1), U (w4 X 2), U (w4 X 3)] 73)).alloc (.cells #[U (w4 n 0), U (w4 n 1), U (w4 n 2), U (w4 n 3)] 73))) := ((Below.refl _ w).alloc (Nat.le_refl _) _).alloc (by simp only [World.size_alloc]; omega) _
  have hgl : g < w.heap.size := F.out.lt
  replace F := aF F B.out
  go_enter Tryz.func106, Tryz.ntmps106
  have zn0 := IHolds.cell JN.out 0 (by simp)
  have zn1 := IHolds.cell JN.out 1 (by simp)
  have zn2 := IHolds.cell JN.out 2 (by simp)
  have zn3 := IHolds.cell JN.out 3 (by simp)
  simp only [List.getElem_cons_zero, List.getElem_cons_succ] at zn0 zn1 zn2 zn3
  go_wp2_with fail
  clear zn0 zn1 zn2 zn3
  generalize ((w.alloc (.cells #[U (w4 X 0), U (w4 X 1), U (w4 X 2), U (w4 X 3)] 73)).alloc (.cells #[U (w4 n 0), U (w4 n 1), U (w4 n 2), U (w4 n 3)] 73)) = U0 at *
  obtain ⟨b0, hb0⟩ : ∃ b, b = w.heap.size := ⟨_, rfl⟩
  rw [← hb0] at JX JN hgl ⊢
  have Hb0 : Hid (b0 = w.heap.size) := hb0
  clear hb0
  refine (CD.out U0).mono ?_
  rintro e V1 ⟨⟨D, rfl, hD, hD9⟩, hb⟩
  have HD : Hid (n < 16 ^ D) := hD
  have B1 : Hid (Below U0.heap.size U0 V1) := hb
  clear CD hD hb
  go_wp2_with fail
  go_loopg [7, 13] D (fun gk v7 v13 wr => ∃ (p m : Nat), gk + p = D ∧ v7 = .int .i64 (m : Int) ∧ v13 = .int .i64 (p : Int) ∧ m < 16 ∧ UpTo n p m ∧ Below U0.heap.size U0 wr)
  case atStart => exact ⟨0, 0, by omega, rfl, rfl, by omega, fun q h => by omega, B1.out⟩
  case round =>
    clear B1
    obtain ⟨p, m, hk, rfl, rfl, hm, hU, hB⟩ := hrel
    have HU : Hid (UpTo n p m) := hU
    have B1 : Hid (Below U0.heap.size U0 wr) := hB
    clear hU hB
    by_cases hp : p < D
    · have hp1 : (p : Int) < (D : Int) := by omega
      have J1 : Hid (IHolds wr (b0 + 1) 73 [U (w4 n 0), U (w4 n 1), U (w4 n 2), U (w4 n 3)]) := JN.out.of_below B1.out
      have zn0 := IHolds.cell J1.out 0 (by simp)
      have zn1 := IHolds.cell J1.out 1 (by simp)
      have zn2 := IHolds.cell J1.out 2 (by simp)
      have zn3 := IHolds.cell J1.out 3 (by simp)
      simp only [List.getElem_cons_zero, List.getElem_cons_succ] at zn0 zn1 zn2 zn3
      have CG1 := CG.out wr p (by omega)
      have d9 := dgt_lt n p
      obtain ⟨d, hd⟩ : ∃ d, d = dgt n p := ⟨_, rfl⟩
      rw [← hd] at CG1 d9
      have Hd : Hid (dgt n p = d) := hd.symm
      have CG2 : Hid (Calls Tryz.prog 110 #[.agg #[U (w4 n 0), U (w4 n 1), U (w4 n 2), U (w4 n 3)], .int .i64 (p : Int)] wr fun e w' => e = .returned (.int .i64 (d : Int)) ∧ Below wr.heap.size wr w') := CG1
      clear CG1 hd
      go_wp2_with fail
      clear zn0 zn1 zn2 zn3 J1
      refine CG2.out.mono ?_
      rintro e V2 ⟨rfl, hb⟩
      have B2 : Hid (Below U0.heap.size U0 V2) := aB B1 hb
      clear hb CG2 B1
      by_cases hmd : m < d
      · have k1 : (m : Int) < (d : Int) := by omega
        have k2 : max (m : Int) (d : Int) = (d : Int) := by omega
        go_wp2_with fail
        go_roundg (gk - 1)
        case measure => omega
        case rel => exact ⟨p + 1, d, by omega, by first | rfl | go_num, by first | rfl | go_num, by omega, HU.out.step (by omega) (Nat.le_of_eq Hd.out), B2.out⟩
      · have k1 : ¬ (m : Int) < (d : Int) := by omega
        have k2 : max (m : Int) (d : Int) = (m : Int) := by omega
        go_wp2_with fail
        go_roundg (gk - 1)
        case measure => omega
        case rel => exact ⟨p + 1, m, by omega, by first | rfl | go_num, by first | rfl | go_num, by omega, HU.out.step (by omega) (by rw [Hd.out]; omega), B2.out⟩
    · have hp1 : ¬ (p : Int) < (D : Int) := by omega
      have hT : ∀ q, q < 64 → dgt n q < m + 1 := by
        intro q hq
        by_cases h : q < p
        · have := HU.out q h; omega
        · have hz : dgt n q = 0 := by
            unfold dgt
            rw [Nat.div_eq_of_lt (Nat.lt_of_lt_of_le HD.out (Nat.pow_le_pow_right (by omega) (by omega)))]
          omega
      have HT : Hid (∀ q, q < 64 → dgt n q < m + 1) := hT
      clear hT HU HD hD9 hk CG JN
      obtain ⟨TL, hTL, hT0, hmk⟩ := make105x
      have Jt : Hid (IHolds (wr.alloc (.cells TL.toArray 73)) wr.heap.size 73 TL) := IHolds.new wr 73 TL
      have HTL : Hid (TL.length = 64) := hTL
      have ct : Hid (∀ i, i < 4 → (wr.alloc (.cells TL.toArray 73)).cell? ⟨wr.heap.size, i, none⟩ = some (.int .u64 0)) := by
        show ∀ _, _
        intro i hi
        have hl : i < TL.length := by omega
        have h := hT0 i hi
        rw [List.getElem?_eq_getElem hl] at h
        rw [Jt.out.cell i hl]
        exact h
      clear hTL hT0
      have B2 : Hid (Below U0.heap.size U0 (wr.alloc (.cells TL.toArray 73))) := aB B1 (nB _ _)
      have F1 : Hid (FH (wr.alloc (.cells TL.toArray 73)) g o Wd M low one sq) := aF F B2.out
      have gt : Hid (U0.heap.size ≤ wr.heap.size) := B1.out.size
      have fo0 := F1.out.o0
      have fo1 := F1.out.o1
      have fo2 := F1.out.o2
      have fo3 := F1.out.o3
      have ct0 := ct.out 0 (by omega)
      have ct1 := ct.out 1 (by omega)
      have ct2 := ct.out 2 (by omega)
      have ct3 := ct.out 3 (by omega)
      have f0 := fJ Jt
      have hmk1 := hmk wr
      clear B1 ct hmk
      generalize wr.alloc (.cells TL.toArray 73) = W1 at *
      generalize wr.heap.size = bt at *
      have Bx : Hid (Below U0.heap.size U0 ((((W1.setCell ⟨bt, 0, none⟩ (U (w4 one 0))).setCell ⟨bt, 1, none⟩ (U (w4 one 1))).setCell ⟨bt, 2, none⟩ (U (w4 one 2))).setCell ⟨bt, 3, none⟩ (U (w4 one 3)))) := (((B2.out.setCell gt.out _).setCell gt.out _).setCell gt.out _).setCell gt.out _
      have HR : Hid (World.ownsRow ((((W1.setCell ⟨bt, 0, none⟩ (U (w4 one 0))).setCell ⟨bt, 1, none⟩ (U (w4 one 1))).setCell ⟨bt, 2, none⟩ (U (w4 one 2))).setCell ⟨bt, 3, none⟩ (U (w4 one 3))) U0.heap.size 73 4 (.slice (some ⟨bt, 0, none⟩) 1 16) 1 (us (ws4 one))) := first_row ((((Jt.out.set 0 _).set 1 _).set 2 _).set 3 _) HTL.out gt.out
      clear Jt B2 F1
      go_wp2_with fail
      clear fo0 fo1 fo2 fo3 ct0 ct1 ct2 ct3 f0 hmk1
      generalize (((W1.setCell ⟨bt, 0, none⟩ (U (w4 one 0))).setCell ⟨bt, 1, none⟩ (U (w4 one 1))).setCell ⟨bt, 2, none⟩ (U (w4 one 2))).setCell ⟨bt, 3, none⟩ (U (w4 one 3)) = W2 at *
      have Bw : Hid (Below w.heap.size w U0) := B
      clear B HTL hp1 hp
      obtain ⟨i0, hi0, hz0, hz1, hz2⟩ := info_parts Tryz.info66
      have HR0 : Hid (W2.ownsRow U0.heap.size 73 4 (.slice (some ⟨bt, 0, none⟩) 1 16) (0 + 1) (tabC R M a (0 + 1))) := by
        show World.ownsRow _ _ _ _ _ _ _
        have e : tabC R M a (0 + 1) = us (ws4 one) := by rw [HO.out]; rfl
        rw [e]; exact HR.out
      clear HR HO
      go_loopg [9, 30] m (fun gj v9 v30 wq => ∃ (d : Nat) (v : Value), gj + d = m ∧ v = v9 ∧ v30 = .int .i64 (d : Int) ∧ wq.ownsRow U0.heap.size 73 4 v (d + 1) (tabC R M a (d + 1)) ∧ Below U0.heap.size U0 wq)
      case atStart => exact ⟨0, _, by omega, rfl, rfl, HR0.out, Bx.out⟩
      case round =>
        clear HR0 Bx
        obtain ⟨d, v, hd, hv, rfl, hR, hB⟩ := hrel
        subst hv
        have HR : Hid (wr.ownsRow U0.heap.size 73 4 v (d + 1) (tabC R M a (d + 1))) := hR
        have B1 : Hid (Below U0.heap.size U0 wr) := hB
        clear hR hB
        obtain ⟨gq, cap, hv, hc1, hc2, hgq, hcell⟩ := owned_at HR.out (by omega)
        subst hv
        have HC : Hid (∀ e j, e < d + 1 → j < 4 → wr.cell? ⟨gq, e * 4 + j, none⟩ = some (U (w4 (a ^ e * R % M) j))) := hcell
        have Hgq : Hid (U0.heap.size ≤ gq) := hgq
        clear hcell hgq
        by_cases hdm : d < m
        · have k1 : (d : Int) < (m : Int) := by omega
          obtain ⟨Y, hY⟩ : ∃ Y, Y = a ^ d * R % M := ⟨_, rfl⟩
          obtain ⟨Z, hZ⟩ : ∃ Z, Z = a ^ (d + 1) * R % M := ⟨_, rfl⟩
          have CJ1 : Hid (∀ W, FH W g o Wd M low one sq → Calls Tryz.prog 109 #[.pointer (some ⟨g, o, none⟩), .agg #[U (w4 Y 0), U (w4 Y 1), U (w4 Y 2), U (w4 Y 3)], .agg #[U (w4 X 0), U (w4 X 1), U (w4 X 2), U (w4 X 3)]] W fun e w' => e = .returned (.agg #[U (w4 Z 0), U (w4 Z 1), U (w4 Z 2), U (w4 Z 3)]) ∧ Below W.heap.size W w') := fun W hF => by
            have h := CJ.out W d hF
            rw [← hY, ← hZ] at h
            exact h
          have HN : Hid (tabC R M a (d + 1 + 1) = tabC R M a (d + 1) ++ [U (w4 Z 0), U (w4 Z 1), U (w4 Z 2), U (w4 Z 3)]) := by rw [hZ]; rfl
          have cy0 := HC.out d 0 (by omega) (by omega)
          have cy1 := HC.out d 1 (by omega) (by omega)
          have cy2 := HC.out d 2 (by omega) (by omega)
          have cy3 := HC.out d 3 (by omega) (by omega)
          rw [← hY] at cy0 cy1 cy2 cy3
          clear hY hZ
          have JX1 : Hid (IHolds wr b0 73 [U (w4 X 0), U (w4 X 1), U (w4 X 2), U (w4 X 3)]) := JX.out.of_below B1.out
          have F1 : Hid (FH wr g o Wd M low one sq) := aF F B1.out
          clear CJ HC
          obtain ⟨q, hq⟩ : ∃ q, q = d * 4 := ⟨_, rfl⟩
          rw [← hq] at cy0 cy1 cy2 cy3
          have kq : (d : Int) * 4 = (q : Int) := by omega
          have kq2 : ((d : Int) * 4).toNat = q := by omega
          have kq3 : (d : Int).toNat * 4 = q := by omega
          have Hq : Hid (q = d * 4) := hq
          clear hq
          go_wp2_with fail
          have hb := dB wr
          replace B1 := aB B1 hb
          replace JX1 := aJ JX1 hb
          replace F1 := aF F1 hb
          replace HR : Hid (wr.drew.ownsRow U0.heap.size 73 4 (.slice (some ⟨gq, 0, none⟩) (d + 1) cap) (d + 1) (tabC R M a (d + 1))) := HR
          replace cy0 : wr.drew.cell? ⟨gq, q + 0, none⟩ = some (U (w4 Y 0)) := cy0
          replace cy1 : wr.drew.cell? ⟨gq, q + 1, none⟩ = some (U (w4 Y 1)) := cy1
          replace cy2 : wr.drew.cell? ⟨gq, q + 2, none⟩ = some (U (w4 Y 2)) := cy2
          replace cy3 : wr.drew.cell? ⟨gq, q + 3, none⟩ = some (U (w4 Y 3)) := cy3
          clear hb
          refine wp_region_held_drew (S := fun W => IHolds W b0 73 [U (w4 X 0), U (w4 X 1), U (w4 X 2), U (w4 X 3)]) (by kernel_rfl) JX1.out (fun h1 => ?_)
          generalize wr.drew = U1 at *
          refine tk (i := 0) (v := .slice (some ⟨gq, 0, none⟩) (d + 1) cap) rfl (by kernel_rfl) (fun _ _ _ h => h) rfl ?_ h1 ?_
          · intro W hS; go_simp
          simp only [Act.put, y1, y2, y3, y4, y5, y6, y7]
          refine tk (i := 1) (v := .pointer (some ⟨g, o, none⟩)) rfl (by kernel_rfl) (fun _ _ _ h => h) rfl ?_ h1 ?_
          · intro W hS; go_simp
          simp only [Act.put, y1, y2, y3, y4, y5, y6, y7]
          refine tk (i := 2) (v := .slice (some ⟨gq, 0, none⟩) (d + 1) cap) rfl (by kernel_rfl) (fun _ _ _ h => h) rfl ?_ h1 ?_
          · intro W hS; go_simp
          simp only [Act.put, y1, y2, y3, y4, y5, y6, y7]
          refine tk (i := 3) (v := .int .i64 (d : Int)) rfl (by kernel_rfl) (fun _ _ _ h => h) rfl ?_ h1 ?_
          · intro W hS; go_simp
          simp only [Act.put, y1, y2, y3, y4, y5, y6, y7]
          refine tk (i := 4) (v := .pointer (some ⟨gq, q, none⟩)) rfl (by kernel_rfl) (fun _ _ _ h => h) rfl ?_ h1 ?_
          · intro W hS; have hlt : (d : Int) < (d : Int) + 1 := (by omega); go_simp
          simp only [Act.put, y1, y2, y3, y4, y5, y6, y7]
          refine tk (i := 6) (v := .agg #[U (w4 X 0), U (w4 X 1), U (w4 X 2), U (w4 X 3)]) rfl (by kernel_rfl) (fun _ _ _ h => h) rfl ?_ h1 ?_
          · intro W hS; have zx0 := IHolds.cell hS 0 (by simp); have zx1 := IHolds.cell hS 1 (by simp); have zx2 := IHolds.cell hS 2 (by simp); have zx3 := IHolds.cell hS 3 (by simp); simp only [List.getElem_cons_zero, List.getElem_cons_succ] at zx0 zx1 zx2 zx3; go_simp
          simp only [Act.put, y1, y2, y3, y4, y5, y6, y7]
          refine wpAnyH_ready (rs := [5]) (by kernel_rfl) (by simp) ?_
          refine AllReadyH.cons rfl (fun K hK => ?_) AllReadyH.nil
          clear h1
          replace cy0 : U1.cell? ⟨gq, q, none⟩ = some (U (w4 Y 0)) := cy0
          go_simp
          clear cy0 cy1 cy2 cy3
          refine hK.out _ _ JX1.out (fun h1 => ?_)
          clear hK K
          try simp only [Act.put, y1, y2, y3, y4, y5, y6, y7]
          refine wpAnyH_ready (rs := [7]) (by kernel_rfl) (by simp) ?_
          refine AllReadyH.cons rfl (fun K hK => ?_) AllReadyH.nil
          clear h1
          go_simp
          refine (CJ1.out U1 F1.out).mono ?_
          rintro e U2 ⟨rfl, hb⟩
          replace B1 := aB B1 hb
          replace JX1 := aJ JX1 hb
          replace F1 := aF F1 hb
          replace HR : Hid (U2.ownsRow U0.heap.size 73 4 (.slice (some ⟨gq, 0, none⟩) (d + 1) cap) (d + 1) (tabC R M a (d + 1))) := own_below HR.out hb
          clear hb CJ1
          go_wp2_with fail
          refine hK.out _ _ JX1.out (fun h1 => ?_)
          clear hK K
          try simp only [Act.put, y1, y2, y3, y4, y5, y6, y7]
          refine wpAnyH_ready (rs := [8]) (by kernel_rfl) (by simp) ?_
          refine AllReadyH.cons rfl (fun K hK => ?_) AllReadyH.nil
          clear h1
          go_simp
          have hb := nB U2 (.cells #[U (w4 Z 0), U (w4 Z 1), U (w4 Z 2), U (w4 Z 3)] 73)
          have HCN : Hid (∀ j u, [U (w4 Z 0), U (w4 Z 1), U (w4 Z 2), U (w4 Z 3)][j]? = some u → (U2.alloc (.cells #[U (w4 Z 0), U (w4 Z 1), U (w4 Z 2), U (w4 Z 3)] 73)).cell? ((⟨U2.heap.size, 0, none⟩ : Addr).add j) = some u) := by
            show ∀ _, _
            intro j u hu
            have hj : j < [U (w4 Z 0), U (w4 Z 1), U (w4 Z 2), U (w4 Z 3)].length := (List.getElem?_eq_some_iff.1 hu).1
            have q := (IHolds.new U2 73 [U (w4 Z 0), U (w4 Z 1), U (w4 Z 2), U (w4 Z 3)]).cell j hj
            rw [(List.getElem?_eq_some_iff.1 hu).2] at q
            have e : (⟨U2.heap.size, 0, none⟩ : Addr).add j = ⟨U2.heap.size, j, none⟩ := addr_add _ _
            rw [e]; exact q
          replace B1 := aB B1 hb
          replace JX1 := aJ JX1 hb
          replace F1 := aF F1 hb
          replace HR : Hid (World.ownsRow (U2.alloc (.cells #[U (w4 Z 0), U (w4 Z 1), U (w4 Z 2), U (w4 Z 3)] 73)) U0.heap.size 73 4 (.slice (some ⟨gq, 0, none⟩) (d + 1) cap) (d + 1) (tabC R M a (d + 1))) := own_below HR.out hb
          clear hb
          generalize (U2.alloc (.cells #[U (w4 Z 0), U (w4 Z 1), U (w4 Z 2), U (w4 Z 3)] 73)) = U3 at *
          generalize U2.heap.size = bn at *
          refine hK.out _ _ JX1.out (fun h1 => ?_)
          clear hK K
          try simp only [Act.put, y1, y2, y3, y4, y5, y6, y7]
          refine wpAnyH_ready (rs := [9]) (by kernel_rfl) (by simp) ?_
          refine AllReadyH.cons rfl (fun K hK => ?_) AllReadyH.nil
          clear h1
          refine wp_append_own _ (.tmp 33) (.tmp 41) 121 rfl U0.heap.size 73 i0 _ 4 32 Tryz.underlying121 hi0 hz0 hz1 hz2 rfl (by decide) (.slice (some ⟨gq, 0, none⟩) (d + 1) cap) (d + 1) (tabC R M a (d + 1)) rfl HR.out ⟨bn, 0, none⟩ 1 1 [U (w4 Z 0), U (w4 Z 1), U (w4 Z 2), U (w4 Z 3)] rfl rfl HCN.out (fun u hu => by simp at hu; rcases hu with rfl | rfl | rfl | rfl <;> rfl) (by unfold maxLen; omega) (by omega) B1.out.size ?_
          intro v1 U4 hown hgrow hnil
          have hB4 : Below U0.heap.size U0 U4 := B1.out.grown hgrow B1.out.size (fun k hk => (HR.out.lt k hk).1)
          have B4 : Hid (Below U0.heap.size U0 U4) := hB4
          rw [← HN.out] at hown
          have HR4 : Hid (U4.ownsRow U0.heap.size 73 4 v1 (d + 1 + 1) (tabC R M a (d + 1 + 1))) := hown
          replace JX1 : Hid (IHolds U4 b0 73 [U (w4 X 0), U (w4 X 1), U (w4 X 2), U (w4 X 3)]) := JX.out.of_below hB4
          clear hown hgrow hnil hB4 HCN HR B1 F1 HN
          refine hK.out _ _ JX1.out (fun h1 => ?_)
          clear hK K
          try simp only [Act.put, y1, y2, y3, y4, y5, y6, y7]
          refine wpAnyH_ready (rs := [10]) (by kernel_rfl) (by simp) ?_
          refine AllReadyH.cons rfl (fun K hK => ?_) AllReadyH.nil
          clear h1
          go_simp
          refine hK.out _ _ JX1.out (fun h1 => ?_)
          clear hK K
          try simp only [Act.put, y1, y2, y3, y4, y5, y6, y7]
          refine wpAnyH_done (by kernel_rfl) ?_ _
          clear h1
          go_wp2_with fail
          go_roundg (gk - 1)
          case measure => omega
          case rel => exact ⟨d + 1, v1, by omega, rfl, by first | rfl | go_num, HR4.out, B4.out⟩
        · have k1 : ¬ (d : Int) < (m : Int) := by omega
          have e : d = m := by omega
          subst e
          go_wp2_with fail
          go_ret
          refine ⟨⟨_, rfl, gq, cap, d + 1, rfl, ?_, hc1, hc2, HT.out, HC.out⟩, Bw.out.trans (B1.out.mono Bw.out.size)⟩
          exact Nat.le_trans Bw.out.size Hgq.out
end Go.Proofs.YtmpiipcllgjhdaaGreatDoor
