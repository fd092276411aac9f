/- What is handed in is read, and what comes of one or two of them. -/
import Derived.Test.YtlimogamjgehjaaGreatClos
set_option linter.unusedSimpArgs false
set_option linter.unusedVariables false
namespace Go.Proofs.YtlimogamjgehjaaGreat
open Go.RowKit Go.Deep Go.PlainAid

set_option maxRecDepth 100000 in
set_option maxHeartbeats 2000000 in
theorem on48_88 {w : World} {z : Int} {G : Array Value} {p1 p2 p3 : Nat} {t : ByteArray} {c : Int} (hG : gz.size = G.size) (hi : (Tryz.prog.info? 102).map (·.size) = some G.size) (h1 : G.all (·.oneCell') = true)
    (CG : Hid (∀ W, Calls Tryz.prog 85 #[.int .i64 z] W fun e w' => e = .returned (.tuple #[.agg G, .bool true]) ∧ Below W.heap.size W w')) (HF : Hid (∀ W g, IHolds W g 102 G.toList → Below w.heap.size w W → Calls Tryz.prog 100 #[.pointer (some ⟨g, 0, none⟩), .pointer (some ⟨p1, 0, none⟩), .pointer (some ⟨p2, 0, none⟩), .pointer (some ⟨p3, 0, none⟩)] W fun e w' => e = .returned (.tuple #[.string t, .int .i64 c]) ∧ Below W.heap.size W w')) :
    Calls Tryz.prog 74 #[.int .i64 z, .func (.func 100) #[] #[.pointer (some ⟨p1, 0, none⟩), .pointer (some ⟨p2, 0, none⟩), .pointer (some ⟨p3, 0, none⟩)]] w fun e w' => e = .returned (.tuple #[.string t, .int .i64 c]) ∧ Below w.heap.size w w' := by
  go_enter Tryz.func74, Tryz.ntmps74
  go_wp2_with fail
  refine (CG.out w).mono ?_
  rintro e U1 ⟨rfl, hb⟩
  have B : Hid (Below w.heap.size w U1) := hb
  clear hb
  have hg : (U1.alloc (.cells gz 102)).heap[U1.heap.size]? = some (.cells gz 102 (0, 0)) := by
    have h := IHolds.new U1 102 gz.toList
    unfold IHolds at h
    rw [Array.toArray_toList] at h
    exact h
  have J : Hid (IHolds (U1.alloc (.cells G 102)) U1.heap.size 102 G.toList) := by
    have h := IHolds.new U1 102 G.toList
    rw [Array.toArray_toList] at h
    exact h
  replace B := aB B (nB U1 (.cells G 102))
  go_wp2_with (refine wpList_store_row rfl 102 (.tmp 6) (.tmp 12) rfl U1.heap.size G rfl rfl 102 gz hg hi hG h1 ?_; rw [World.setRow_alloc_new]; clear hg)
  generalize U1.alloc (.cells G 102) = U2 at *
  refine (HF.out U2 _ J.out B.out).mono ?_
  rintro e U3 ⟨rfl, hb⟩
  replace B := aB B hb
  clear hb
  go_wp2_with fail
  go_ret2
  exact ⟨rfl, B.out⟩
set_option maxRecDepth 100000 in
set_option maxHeartbeats 2000000 in
theorem on48_88_no {w : World} {z : Int} {G : Array Value} {p1 p2 p3 : Nat}  (hG : gz.size = G.size) (hi : (Tryz.prog.info? 102).map (·.size) = some G.size) (h1 : G.all (·.oneCell') = true)
    (CG : Hid (∀ W, Calls Tryz.prog 85 #[.int .i64 z] W fun e w' => e = .returned (.tuple #[.agg G, .bool false]) ∧ Below W.heap.size W w'))  :
    Calls Tryz.prog 74 #[.int .i64 z, .func (.func 100) #[] #[.pointer (some ⟨p1, 0, none⟩), .pointer (some ⟨p2, 0, none⟩), .pointer (some ⟨p3, 0, none⟩)]] w fun e w' => e = .returned (.tuple #[.string ⟨#[]⟩, .int .i64 1]) ∧ Below w.heap.size w w' := by
  go_enter Tryz.func74, Tryz.ntmps74
  go_wp2_with fail
  refine (CG.out w).mono ?_
  rintro e U1 ⟨rfl, hb⟩
  have B : Hid (Below w.heap.size w U1) := hb
  clear hb
  have hg : (U1.alloc (.cells gz 102)).heap[U1.heap.size]? = some (.cells gz 102 (0, 0)) := by
    have h := IHolds.new U1 102 gz.toList
    unfold IHolds at h
    rw [Array.toArray_toList] at h
    exact h
  have J : Hid (IHolds (U1.alloc (.cells G 102)) U1.heap.size 102 G.toList) := by
    have h := IHolds.new U1 102 G.toList
    rw [Array.toArray_toList] at h
    exact h
  replace B := aB B (nB U1 (.cells G 102))
  go_wp2_with (refine wpList_store_row rfl 102 (.tmp 6) (.tmp 12) rfl U1.heap.size G rfl rfl 102 gz hg hi hG h1 ?_; rw [World.setRow_alloc_new]; clear hg)
  go_ret2
  exact ⟨rfl, B.out⟩
set_option maxRecDepth 100000 in
set_option maxHeartbeats 2000000 in
theorem clos88_59_66 {w : World} {g p1 p2 p3  : Nat} {s t : ByteArray} {z0 z1 z2 z3 : Nat} {c : Int} (J1 : Hid (IHolds w p1 122 [.func (.func 73) #[] #[]])) (J2 : Hid (IHolds w p2 9 [.string s])) (J3 : Hid (IHolds w p3 114 [.func (.func 87) #[] #[]]))
    (C1 : Hid (∀ W, Below w.heap.size w W → Calls Tryz.prog 73 #[.pointer (some ⟨g, 0, none⟩), .string s] W fun e w' => e = .returned (.tuple #[.agg #[U z0, U z1, U z2, U z3], .int .i64 0]) ∧ Below W.heap.size W w')) (C2 : Hid (∀ W, Below w.heap.size w W → Calls Tryz.prog 87 #[.pointer (some ⟨g, 0, none⟩), .agg #[U z0, U z1, U z2, U z3]] W fun e w' => e = .returned (.tuple #[.string t, .int .i64 c]) ∧ Below W.heap.size W w')) :
    Calls Tryz.prog 100 #[.pointer (some ⟨g, 0, none⟩), .pointer (some ⟨p1, 0, none⟩), .pointer (some ⟨p2, 0, none⟩), .pointer (some ⟨p3, 0, none⟩)] w fun e w' => e = .returned (.tuple #[.string t, .int .i64 c]) ∧ Below w.heap.size w w' := by
  have B : Hid (Below w.heap.size w w) := Below.refl _ _
  have zs0 : w.cell? ⟨p1, 0, none⟩ = some (.func (.func 73) #[] #[]) := J1.out.cell 0 (by simp)
  have zs1 : w.cell? ⟨p2, 0, none⟩ = some (.string s) := J2.out.cell 0 (by simp)
  go_enter Tryz.func100, Tryz.ntmps100
  go_wp2_with fail
  clear zs0 zs1
  refine (C1.out w B.out).mono ?_
  rintro e U1 ⟨rfl, hb⟩
  replace B := aB B hb
  replace J1 := aJ J1 hb
  replace J2 := aJ J2 hb
  replace J3 := aJ J3 hb
  clear hb
  have hb := nB U1 (.cells #[U z0, U z1, U z2, U z3] 92)
  replace B := aB B hb
  replace J3 := aJ J3 hb
  clear hb J1 J2
  have zs0 : (U1.alloc (.cells #[U z0, U z1, U z2, U z3] 92)).cell? ⟨p3, 0, none⟩ = some (.func (.func 87) #[] #[]) := J3.out.cell 0 (by simp)
  go_wp2_with fail
  clear zs0
  refine (C2.out (U1.alloc (.cells #[U z0, U z1, U z2, U z3] 92)) B.out).mono ?_
  rintro e V9 ⟨rfl, hb⟩
  replace B := aB B hb
  clear hb
  go_wp2_with fail
  go_ret2
  exact ⟨rfl, B.out⟩
set_option maxRecDepth 100000 in
set_option maxHeartbeats 2000000 in
theorem clos88_59_96 {w : World} {g p1 p2 p3 q1 q2 q3 : Nat} {s t : ByteArray} {z0 z1 z2 z3 : Nat} {c : Int} (J1 : Hid (IHolds w p1 122 [.func (.func 73) #[] #[]])) (J2 : Hid (IHolds w p2 9 [.string s])) (J3 : Hid (IHolds w p3 114 [.func (.func 104) #[] #[.pointer (some ⟨q1, 0, none⟩), .pointer (some ⟨q2, 0, none⟩), .pointer (some ⟨q3, 0, none⟩)]]))
    (C1 : Hid (∀ W, Below w.heap.size w W → Calls Tryz.prog 73 #[.pointer (some ⟨g, 0, none⟩), .string s] W fun e w' => e = .returned (.tuple #[.agg #[U z0, U z1, U z2, U z3], .int .i64 0]) ∧ Below W.heap.size W w')) (C2 : Hid (∀ W, Below w.heap.size w W → Calls Tryz.prog 104 #[.pointer (some ⟨g, 0, none⟩), .agg #[U z0, U z1, U z2, U z3], .pointer (some ⟨q1, 0, none⟩), .pointer (some ⟨q2, 0, none⟩), .pointer (some ⟨q3, 0, none⟩)] W fun e w' => e = .returned (.tuple #[.string t, .int .i64 c]) ∧ Below W.heap.size W w')) :
    Calls Tryz.prog 100 #[.pointer (some ⟨g, 0, none⟩), .pointer (some ⟨p1, 0, none⟩), .pointer (some ⟨p2, 0, none⟩), .pointer (some ⟨p3, 0, none⟩)] w fun e w' => e = .returned (.tuple #[.string t, .int .i64 c]) ∧ Below w.heap.size w w' := by
  have B : Hid (Below w.heap.size w w) := Below.refl _ _
  have zs0 : w.cell? ⟨p1, 0, none⟩ = some (.func (.func 73) #[] #[]) := J1.out.cell 0 (by simp)
  have zs1 : w.cell? ⟨p2, 0, none⟩ = some (.string s) := J2.out.cell 0 (by simp)
  go_enter Tryz.func100, Tryz.ntmps100
  go_wp2_with fail
  clear zs0 zs1
  refine (C1.out w B.out).mono ?_
  rintro e U1 ⟨rfl, hb⟩
  replace B := aB B hb
  replace J1 := aJ J1 hb
  replace J2 := aJ J2 hb
  replace J3 := aJ J3 hb
  clear hb
  have hb := nB U1 (.cells #[U z0, U z1, U z2, U z3] 92)
  replace B := aB B hb
  replace J3 := aJ J3 hb
  clear hb J1 J2
  have zs0 : (U1.alloc (.cells #[U z0, U z1, U z2, U z3] 92)).cell? ⟨p3, 0, none⟩ = some (.func (.func 104) #[] #[.pointer (some ⟨q1, 0, none⟩), .pointer (some ⟨q2, 0, none⟩), .pointer (some ⟨q3, 0, none⟩)]) := J3.out.cell 0 (by simp)
  go_wp2_with fail
  clear zs0
  refine (C2.out (U1.alloc (.cells #[U z0, U z1, U z2, U z3] 92)) B.out).mono ?_
  rintro e V9 ⟨rfl, hb⟩
  replace B := aB B hb
  clear hb
  go_wp2_with fail
  go_ret2
  exact ⟨rfl, B.out⟩
set_option maxRecDepth 100000 in
set_option maxHeartbeats 2000000 in
theorem clos88_59_bad {w : World} {g p1 p2 p3  : Nat} {s : ByteArray} {z0 z1 z2 z3 : Nat} {c : Int} (hc : (c != 0) = true) (hc1 : c ≠ 0) (J1 : Hid (IHolds w p1 122 [.func (.func 73) #[] #[]])) (J2 : Hid (IHolds w p2 9 [.string s])) 
    (C1 : Hid (∀ W, Below w.heap.size w W → Calls Tryz.prog 73 #[.pointer (some ⟨g, 0, none⟩), .string s] W fun e w' => e = .returned (.tuple #[.agg #[U z0, U z1, U z2, U z3], .int .i64 c]) ∧ Below W.heap.size W w'))  :
    Calls Tryz.prog 100 #[.pointer (some ⟨g, 0, none⟩), .pointer (some ⟨p1, 0, none⟩), .pointer (some ⟨p2, 0, none⟩), .pointer (some ⟨p3, 0, none⟩)] w fun e w' => e = .returned (.tuple #[.string ⟨#[]⟩, .int .i64 c]) ∧ Below w.heap.size w w' := by
  have B : Hid (Below w.heap.size w w) := Below.refl _ _
  have zs0 : w.cell? ⟨p1, 0, none⟩ = some (.func (.func 73) #[] #[]) := J1.out.cell 0 (by simp)
  have zs1 : w.cell? ⟨p2, 0, none⟩ = some (.string s) := J2.out.cell 0 (by simp)
  go_enter Tryz.func100, Tryz.ntmps100
  go_wp2_with fail
  clear zs0 zs1
  refine (C1.out w B.out).mono ?_
  rintro e U1 ⟨rfl, hb⟩
  replace B := aB B hb
  replace J1 := aJ J1 hb
  replace J2 := aJ J2 hb
  clear hb
  replace B := aB B (nB U1 (.cells #[U z0, U z1, U z2, U z3] 92))
  go_wp2_with fail
  go_ret2
  exact ⟨rfl, B.out⟩
set_option maxRecDepth 100000 in
set_option maxHeartbeats 2000000 in
theorem clos88_61_96 {w : World} {g p1 p2 p3 q1 q2 q3 : Nat} {s t : ByteArray} {z0 z1 z2 z3 : Nat} {c : Int} (J1 : Hid (IHolds w p1 122 [.func (.func 82) #[] #[]])) (J2 : Hid (IHolds w p2 9 [.string s])) (J3 : Hid (IHolds w p3 114 [.func (.func 104) #[] #[.pointer (some ⟨q1, 0, none⟩), .pointer (some ⟨q2, 0, none⟩), .pointer (some ⟨q3, 0, none⟩)]]))
    (C1 : Hid (∀ W, Below w.heap.size w W → Calls Tryz.prog 82 #[.pointer (some ⟨g, 0, none⟩), .string s] W fun e w' => e = .returned (.tuple #[.agg #[U z0, U z1, U z2, U z3], .int .i64 0]) ∧ Below W.heap.size W w')) (C2 : Hid (∀ W, Below w.heap.size w W → Calls Tryz.prog 104 #[.pointer (some ⟨g, 0, none⟩), .agg #[U z0, U z1, U z2, U z3], .pointer (some ⟨q1, 0, none⟩), .pointer (some ⟨q2, 0, none⟩), .pointer (some ⟨q3, 0, none⟩)] W fun e w' => e = .returned (.tuple #[.string t, .int .i64 c]) ∧ Below W.heap.size W w')) :
    Calls Tryz.prog 100 #[.pointer (some ⟨g, 0, none⟩), .pointer (some ⟨p1, 0, none⟩), .pointer (some ⟨p2, 0, none⟩), .pointer (some ⟨p3, 0, none⟩)] w fun e w' => e = .returned (.tuple #[.string t, .int .i64 c]) ∧ Below w.heap.size w w' := by
  have B : Hid (Below w.heap.size w w) := Below.refl _ _
  have zs0 : w.cell? ⟨p1, 0, none⟩ = some (.func (.func 82) #[] #[]) := J1.out.cell 0 (by simp)
  have zs1 : w.cell? ⟨p2, 0, none⟩ = some (.string s) := J2.out.cell 0 (by simp)
  go_enter Tryz.func100, Tryz.ntmps100
  go_wp2_with fail
  clear zs0 zs1
  refine (C1.out w B.out).mono ?_
  rintro e U1 ⟨rfl, hb⟩
  replace B := aB B hb
  replace J1 := aJ J1 hb
  replace J2 := aJ J2 hb
  replace J3 := aJ J3 hb
  clear hb
  have hb := nB U1 (.cells #[U z0, U z1, U z2, U z3] 92)
  replace B := aB B hb
  replace J3 := aJ J3 hb
  clear hb J1 J2
  have zs0 : (U1.alloc (.cells #[U z0, U z1, U z2, U z3] 92)).cell? ⟨p3, 0, none⟩ = some (.func (.func 104) #[] #[.pointer (some ⟨q1, 0, none⟩), .pointer (some ⟨q2, 0, none⟩), .pointer (some ⟨q3, 0, none⟩)]) := J3.out.cell 0 (by simp)
  go_wp2_with fail
  clear zs0
  refine (C2.out (U1.alloc (.cells #[U z0, U z1, U z2, U z3] 92)) B.out).mono ?_
  rintro e V9 ⟨rfl, hb⟩
  replace B := aB B hb
  clear hb
  go_wp2_with fail
  go_ret2
  exact ⟨rfl, B.out⟩
set_option maxRecDepth 100000 in
set_option maxHeartbeats 2000000 in
theorem clos88_61_bad {w : World} {g p1 p2 p3  : Nat} {s : ByteArray} {z0 z1 z2 z3 : Nat} {c : Int} (hc : (c != 0) = true) (hc1 : c ≠ 0) (J1 : Hid (IHolds w p1 122 [.func (.func 82) #[] #[]])) (J2 : Hid (IHolds w p2 9 [.string s])) 
    (C1 : Hid (∀ W, Below w.heap.size w W → Calls Tryz.prog 82 #[.pointer (some ⟨g, 0, none⟩), .string s] W fun e w' => e = .returned (.tuple #[.agg #[U z0, U z1, U z2, U z3], .int .i64 c]) ∧ Below W.heap.size W w'))  :
    Calls Tryz.prog 100 #[.pointer (some ⟨g, 0, none⟩), .pointer (some ⟨p1, 0, none⟩), .pointer (some ⟨p2, 0, none⟩), .pointer (some ⟨p3, 0, none⟩)] w fun e w' => e = .returned (.tuple #[.string ⟨#[]⟩, .int .i64 c]) ∧ Below w.heap.size w w' := by
  have B : Hid (Below w.heap.size w w) := Below.refl _ _
  have zs0 : w.cell? ⟨p1, 0, none⟩ = some (.func (.func 82) #[] #[]) := J1.out.cell 0 (by simp)
  have zs1 : w.cell? ⟨p2, 0, none⟩ = some (.string s) := J2.out.cell 0 (by simp)
  go_enter Tryz.func100, Tryz.ntmps100
  go_wp2_with fail
  clear zs0 zs1
  refine (C1.out w B.out).mono ?_
  rintro e U1 ⟨rfl, hb⟩
  replace B := aB B hb
  replace J1 := aJ J1 hb
  replace J2 := aJ J2 hb
  clear hb
  replace B := aB B (nB U1 (.cells #[U z0, U z1, U z2, U z3] 92))
  go_wp2_with fail
  go_ret2
  exact ⟨rfl, B.out⟩
set_option maxRecDepth 100000 in
set_option maxHeartbeats 2000000 in
theorem clos96_59_91 {w : World} {g q1 q2 q3 r1 : Nat} {s t : ByteArray} {x0 x1 x2 x3 z0 z1 z2 z3 : Nat} {c : Int} (J1 : Hid (IHolds w q1 122 [.func (.func 73) #[] #[]])) (J2 : Hid (IHolds w q2 9 [.string s])) (J3 : Hid (IHolds w q3 118 [.func (.func 94) #[] #[.pointer (some ⟨r1, 0, none⟩)]]))
    (C1 : Hid (∀ W, Below w.heap.size w W → Calls Tryz.prog 73 #[.pointer (some ⟨g, 0, none⟩), .string s] W fun e w' => e = .returned (.tuple #[.agg #[U z0, U z1, U z2, U z3], .int .i64 0]) ∧ Below W.heap.size W w')) (C2 : Hid (∀ W, Below w.heap.size w W → Calls Tryz.prog 94 #[.pointer (some ⟨g, 0, none⟩), .agg #[U x0, U x1, U x2, U x3], .agg #[U z0, U z1, U z2, U z3], .pointer (some ⟨r1, 0, none⟩)] W fun e w' => e = .returned (.tuple #[.string t, .int .i64 c]) ∧ Below W.heap.size W w')) :
    Calls Tryz.prog 104 #[.pointer (some ⟨g, 0, none⟩), .agg #[U x0, U x1, U x2, U x3], .pointer (some ⟨q1, 0, none⟩), .pointer (some ⟨q2, 0, none⟩), .pointer (some ⟨q3, 0, none⟩)] w fun e w' => e = .returned (.tuple #[.string t, .int .i64 c]) ∧ Below w.heap.size w w' := by
  have hb := nB w (.cells #[U x0, U x1, U x2, U x3] 92)
  have B : Hid (Below w.heap.size w (w.alloc (.cells #[U x0, U x1, U x2, U x3] 92))) := hb
  have Jx : Hid (IHolds (w.alloc (.cells #[U x0, U x1, U x2, U x3] 92)) w.heap.size 92 [U x0, U x1, U x2, U x3]) := IHolds.new w 92 _
  replace J1 := aJ J1 hb
  replace J2 := aJ J2 hb
  replace J3 := aJ J3 hb
  clear hb
  have zs0 : (w.alloc (.cells #[U x0, U x1, U x2, U x3] 92)).cell? ⟨q1, 0, none⟩ = some (.func (.func 73) #[] #[]) := J1.out.cell 0 (by simp)
  have zs1 : (w.alloc (.cells #[U x0, U x1, U x2, U x3] 92)).cell? ⟨q2, 0, none⟩ = some (.string s) := J2.out.cell 0 (by simp)
  go_enter Tryz.func104, Tryz.ntmps104
  go_wp2_with fail
  clear zs0 zs1
  generalize (w.alloc (.cells #[U x0, U x1, U x2, U x3] 92)) = V0 at *
  refine (C1.out V0 B.out).mono ?_
  rintro e U1 ⟨rfl, hb⟩
  replace B := aB B hb
  replace Jx := aJ Jx hb
  replace J3 := aJ J3 hb
  clear hb
  have hb := nB U1 (.cells #[U z0, U z1, U z2, U z3] 92)
  have ne_x : Hid (w.heap.size ≠ U1.heap.size) := nJ Jx
  replace B := aB B hb
  replace J3 := aJ J3 hb
  replace Jx := aJ Jx hb
  clear hb J1 J2
  have zs0 : (U1.alloc (.cells #[U z0, U z1, U z2, U z3] 92)).cell? ⟨q3, 0, none⟩ = some (.func (.func 94) #[] #[.pointer (some ⟨r1, 0, none⟩)]) := J3.out.cell 0 (by simp)
  have zx0 : (U1.alloc (.cells #[U z0, U z1, U z2, U z3] 92)).cell? ⟨w.heap.size, 0, none⟩ = some (U x0) := Jx.out.cell 0 (by simp)
  have zx1 : (U1.alloc (.cells #[U z0, U z1, U z2, U z3] 92)).cell? ⟨w.heap.size, 1, none⟩ = some (U x1) := Jx.out.cell 1 (by simp)
  have zx2 : (U1.alloc (.cells #[U z0, U z1, U z2, U z3] 92)).cell? ⟨w.heap.size, 2, none⟩ = some (U x2) := Jx.out.cell 2 (by simp)
  have zx3 : (U1.alloc (.cells #[U z0, U z1, U z2, U z3] 92)).cell? ⟨w.heap.size, 3, none⟩ = some (U x3) := Jx.out.cell 3 (by simp)
  go_wp2_with fail
  clear zs0 zx0 zx1 zx2 zx3
  refine (C2.out (U1.alloc (.cells #[U z0, U z1, U z2, U z3] 92)) B.out).mono ?_
  rintro e V9 ⟨rfl, hb⟩
  replace B := aB B hb
  clear hb
  go_wp2_with fail
  go_ret2
  exact ⟨rfl, B.out⟩
set_option maxRecDepth 100000 in
set_option maxHeartbeats 2000000 in
theorem clos96_59_bad {w : World} {g q1 q2 q3  : Nat} {s : ByteArray} {x0 x1 x2 x3 z0 z1 z2 z3 : Nat} {c : Int} (hc : (c != 0) = true) (hc1 : c ≠ 0) (J1 : Hid (IHolds w q1 122 [.func (.func 73) #[] #[]])) (J2 : Hid (IHolds w q2 9 [.string s])) 
    (C1 : Hid (∀ W, Below w.heap.size w W → Calls Tryz.prog 73 #[.pointer (some ⟨g, 0, none⟩), .string s] W fun e w' => e = .returned (.tuple #[.agg #[U z0, U z1, U z2, U z3], .int .i64 c]) ∧ Below W.heap.size W w'))  :
    Calls Tryz.prog 104 #[.pointer (some ⟨g, 0, none⟩), .agg #[U x0, U x1, U x2, U x3], .pointer (some ⟨q1, 0, none⟩), .pointer (some ⟨q2, 0, none⟩), .pointer (some ⟨q3, 0, none⟩)] w fun e w' => e = .returned (.tuple #[.string ⟨#[]⟩, .int .i64 c]) ∧ Below w.heap.size w w' := by
  have hb := nB w (.cells #[U x0, U x1, U x2, U x3] 92)
  have B : Hid (Below w.heap.size w (w.alloc (.cells #[U x0, U x1, U x2, U x3] 92))) := hb
  have Jx : Hid (IHolds (w.alloc (.cells #[U x0, U x1, U x2, U x3] 92)) w.heap.size 92 [U x0, U x1, U x2, U x3]) := IHolds.new w 92 _
  replace J1 := aJ J1 hb
  replace J2 := aJ J2 hb
  clear hb
  have zs0 : (w.alloc (.cells #[U x0, U x1, U x2, U x3] 92)).cell? ⟨q1, 0, none⟩ = some (.func (.func 73) #[] #[]) := J1.out.cell 0 (by simp)
  have zs1 : (w.alloc (.cells #[U x0, U x1, U x2, U x3] 92)).cell? ⟨q2, 0, none⟩ = some (.string s) := J2.out.cell 0 (by simp)
  go_enter Tryz.func104, Tryz.ntmps104
  go_wp2_with fail
  clear zs0 zs1
  generalize (w.alloc (.cells #[U x0, U x1, U x2, U x3] 92)) = V0 at *
  refine (C1.out V0 B.out).mono ?_
  rintro e U1 ⟨rfl, hb⟩
  replace B := aB B hb
  replace Jx := aJ Jx hb
  clear hb
  replace B := aB B (nB U1 (.cells #[U z0, U z1, U z2, U z3] 92))
  go_wp2_with fail
  go_ret2
  exact ⟨rfl, B.out⟩
set_option maxRecDepth 100000 in
set_option maxHeartbeats 2000000 in
theorem clos96_61_bad {w : World} {g q1 q2 q3  : Nat} {s : ByteArray} {x0 x1 x2 x3 z0 z1 z2 z3 : Nat} {c : Int} (hc : (c != 0) = true) (hc1 : c ≠ 0) (J1 : Hid (IHolds w q1 122 [.func (.func 82) #[] #[]])) (J2 : Hid (IHolds w q2 9 [.string s])) 
    (C1 : Hid (∀ W, Below w.heap.size w W → Calls Tryz.prog 82 #[.pointer (some ⟨g, 0, none⟩), .string s] W fun e w' => e = .returned (.tuple #[.agg #[U z0, U z1, U z2, U z3], .int .i64 c]) ∧ Below W.heap.size W w'))  :
    Calls Tryz.prog 104 #[.pointer (some ⟨g, 0, none⟩), .agg #[U x0, U x1, U x2, U x3], .pointer (some ⟨q1, 0, none⟩), .pointer (some ⟨q2, 0, none⟩), .pointer (some ⟨q3, 0, none⟩)] w fun e w' => e = .returned (.tuple #[.string ⟨#[]⟩, .int .i64 c]) ∧ Below w.heap.size w w' := by
  have hb := nB w (.cells #[U x0, U x1, U x2, U x3] 92)
  have B : Hid (Below w.heap.size w (w.alloc (.cells #[U x0, U x1, U x2, U x3] 92))) := hb
  have Jx : Hid (IHolds (w.alloc (.cells #[U x0, U x1, U x2, U x3] 92)) w.heap.size 92 [U x0, U x1, U x2, U x3]) := IHolds.new w 92 _
  replace J1 := aJ J1 hb
  replace J2 := aJ J2 hb
  clear hb
  have zs0 : (w.alloc (.cells #[U x0, U x1, U x2, U x3] 92)).cell? ⟨q1, 0, none⟩ = some (.func (.func 82) #[] #[]) := J1.out.cell 0 (by simp)
  have zs1 : (w.alloc (.cells #[U x0, U x1, U x2, U x3] 92)).cell? ⟨q2, 0, none⟩ = some (.string s) := J2.out.cell 0 (by simp)
  go_enter Tryz.func104, Tryz.ntmps104
  go_wp2_with fail
  clear zs0 zs1
  generalize (w.alloc (.cells #[U x0, U x1, U x2, U x3] 92)) = V0 at *
  refine (C1.out V0 B.out).mono ?_
  rintro e U1 ⟨rfl, hb⟩
  replace B := aB B hb
  replace Jx := aJ Jx hb
  clear hb
  replace B := aB B (nB U1 (.cells #[U z0, U z1, U z2, U z3] 92))
  go_wp2_with fail
  go_ret2
  exact ⟨rfl, B.out⟩
set_option maxRecDepth 100000 in
set_option maxHeartbeats 2000000 in
theorem clos91_70 {w : World} {g r1 : Nat} {t : ByteArray} {x0 x1 x2 x3 m0 m1 m2 m3 v0 v1 v2 v3 : Nat} (Jh : Hid (IHolds w r1 106 [.func (.func 79) #[] #[]]))
    (C1 : Hid (∀ W, Below w.heap.size w W → Calls Tryz.prog 79 #[.pointer (some ⟨g, 1, none⟩), .agg #[U x0, U x1, U x2, U x3], .agg #[U m0, U m1, U m2, U m3]] W fun e w' => e = .returned (.agg #[U v0, U v1, U v2, U v3]) ∧ Below W.heap.size W w')) (C2 : Hid (∀ W, Below w.heap.size w W → Calls Tryz.prog 76 #[.pointer (some ⟨g, 0, none⟩), .agg #[U v0, U v1, U v2, U v3]] W fun e w' => e = .returned (.tuple #[.string t, .int .i64 0]) ∧ Below W.heap.size W w')) :
    Calls Tryz.prog 94 #[.pointer (some ⟨g, 0, none⟩), .agg #[U x0, U x1, U x2, U x3], .agg #[U m0, U m1, U m2, U m3], .pointer (some ⟨r1, 0, none⟩)] w fun e w' => e = .returned (.tuple #[.string t, .int .i64 0]) ∧ Below w.heap.size w w' := by
  have hh0 := Jh.out.lt
  go_enter Tryz.func94, Tryz.ntmps94
  go_wp2_with fail
  obtain ⟨U1, hU1⟩ : ∃ X, X = ((w.alloc (.cells #[U x0, U x1, U x2, U x3] 92)).alloc (.cells #[U m0, U m1, U m2, U m3] 92)) := ⟨_, rfl⟩
  have Jx : Hid (IHolds U1 (w.heap.size) 92 [U x0, U x1, U x2, U x3]) := by
    have q := IHolds.new w 92 [U x0, U x1, U x2, U x3]
    show IHolds _ _ _ _
    rw [hU1]
    exact (q.alloc _)
  have Jm : Hid (IHolds U1 (w.heap.size + 1) 92 [U m0, U m1, U m2, U m3]) := by
    have q := IHolds.new (w.alloc (.cells #[U x0, U x1, U x2, U x3] 92)) 92 [U m0, U m1, U m2, U m3]
    simp only [World.size_alloc, Nat.add_assoc, Nat.reduceAdd] at q
    show IHolds _ _ _ _
    rw [hU1]
    exact q
  have B : Hid (Below w.heap.size w U1) := by
    show Below _ _ _
    rw [hU1]
    exact (((Below.refl _ w).alloc (Nat.le_refl _) _).alloc (by simp only [World.size_alloc]; omega) _)
  rw [← hU1]
  clear hU1
  replace Jh := aJ Jh B.out
  have hb := dB U1
  replace B := aB B hb
  replace Jh := aJ Jh hb
  replace Jx := aJ Jx hb
  replace Jm := aJ Jm hb
  clear hb
  refine wp_region_held_drew (S := fun W => (IHolds W (r1) 106 [(.func (.func 79) #[] #[])]) ∧ (IHolds W (w.heap.size) 92 [U x0, U x1, U x2, U x3]) ∧ (IHolds W (w.heap.size + 1) 92 [U m0, U m1, U m2, U m3])) (by kernel_rfl) ⟨Jh.out, Jx.out, Jm.out⟩ (fun hHeld1 => ?_)
  generalize U1.drew = U2 at *
  refine tk (i := 0) (v := .pointer (some ⟨g, 0, none⟩)) rfl (by kernel_rfl) (fun _ _ _ h => h) rfl ?_ hHeld1 ?_
  · intro W hS; go_simp
  simp only [Act.put, y1, y2, y3, y4, y5, y6, y7]
  refine tk (i := 1) (v := (.func (.func 79) #[] #[])) rfl (by kernel_rfl) (fun _ _ _ h => h) rfl ?_ hHeld1 ?_
  · intro W hS; have zh_0 : W.cell? ⟨r1, 0, none⟩ = some ((.func (.func 79) #[] #[])) := IHolds.cell (l := [(.func (.func 79) #[] #[])]) (t := 106) (b := r1) (w := W) (hS.1) 0 (by simp); go_simp
  simp only [Act.put, y1, y2, y3, y4, y5, y6, y7]
  refine tk (i := 2) (v := .pointer (some ⟨g, 0, none⟩)) rfl (by kernel_rfl) (fun _ _ _ h => h) rfl ?_ hHeld1 ?_
  · intro W hS; go_simp
  simp only [Act.put, y1, y2, y3, y4, y5, y6, y7]
  refine tk (i := 5) (v := .agg #[U x0, U x1, U x2, U x3]) rfl (by kernel_rfl) (fun _ _ _ h => h) rfl ?_ hHeld1 ?_
  · intro W hS; have zx_0 : W.cell? ⟨w.heap.size, 0, none⟩ = some (U x0) := IHolds.cell (l := [U x0, U x1, U x2, U x3]) (t := 92) (b := w.heap.size) (w := W) (hS.2.1) 0 (by simp); have zx_1 : W.cell? ⟨w.heap.size, 1, none⟩ = some (U x1) := IHolds.cell (l := [U x0, U x1, U x2, U x3]) (t := 92) (b := w.heap.size) (w := W) (hS.2.1) 1 (by simp); have zx_2 : W.cell? ⟨w.heap.size, 2, none⟩ = some (U x2) := IHolds.cell (l := [U x0, U x1, U x2, U x3]) (t := 92) (b := w.heap.size) (w := W) (hS.2.1) 2 (by simp); have zx_3 : W.cell? ⟨w.heap.size, 3, none⟩ = some (U x3) := IHolds.cell (l := [U x0, U x1, U x2, U x3]) (t := 92) (b := w.heap.size) (w := W) (hS.2.1) 3 (by simp); go_simp
  simp only [Act.put, y1, y2, y3, y4, y5, y6, y7]
  refine tk (i := 6) (v := .agg #[U m0, U m1, U m2, U m3]) rfl (by kernel_rfl) (fun _ _ _ h => h) rfl ?_ hHeld1 ?_
  · intro W hS; have zm_0 : W.cell? ⟨w.heap.size + 1, 0, none⟩ = some (U m0) := IHolds.cell (l := [U m0, U m1, U m2, U m3]) (t := 92) (b := w.heap.size + 1) (w := W) (hS.2.2) 0 (by simp); have zm_1 : W.cell? ⟨w.heap.size + 1, 1, none⟩ = some (U m1) := IHolds.cell (l := [U m0, U m1, U m2, U m3]) (t := 92) (b := w.heap.size + 1) (w := W) (hS.2.2) 1 (by simp); have zm_2 : W.cell? ⟨w.heap.size + 1, 2, none⟩ = some (U m2) := IHolds.cell (l := [U m0, U m1, U m2, U m3]) (t := 92) (b := w.heap.size + 1) (w := W) (hS.2.2) 2 (by simp); have zm_3 : W.cell? ⟨w.heap.size + 1, 3, none⟩ = some (U m3) := IHolds.cell (l := [U m0, U m1, U m2, U m3]) (t := 92) (b := w.heap.size + 1) (w := W) (hS.2.2) 3 (by simp); go_simp
  simp only [Act.put, y1, y2, y3, y4, y5, y6, y7]
  refine tk (i := 3) (v := .pointer (some ⟨g, 0, none⟩)) rfl (by kernel_rfl) (fun _ _ _ h => h) rfl ?_ hHeld1 ?_
  · intro W hS; go_simp
  simp only [Act.put, y1, y2, y3, y4, y5, y6, y7]
  refine tk (i := 4) (v := .pointer (some ⟨g, 1, none⟩)) rfl (by kernel_rfl) (fun _ _ _ h => h) rfl ?_ hHeld1 ?_
  · intro W hS; go_simp
  simp only [Act.put, y1, y2, y3, y4, y5, y6, y7]
  refine wpAnyH_ready (rs := [7]) (by kernel_rfl) (by simp) ?_
  refine AllReadyH.cons rfl (fun K hK => ?_) AllReadyH.nil
  clear hHeld1
  go_simp
  refine (C1.out U2 B.out).mono ?_
  rintro e U3 ⟨rfl, hb⟩
  replace B := aB B hb
  replace Jh := aJ Jh hb
  replace Jx := aJ Jx hb
  replace Jm := aJ Jm hb
  clear hb
  go_wp2_with fail
  refine hK.out _ _ (⟨Jh.out, Jx.out, Jm.out⟩) (fun hHeld2 => ?_)
  clear hK K
  try simp only [Act.put, y1, y2, y3, y4, y5, y6, y7]
  refine wpAnyH_ready (rs := [8]) (by kernel_rfl) (by simp) ?_
  refine AllReadyH.cons rfl (fun K hK => ?_) AllReadyH.nil
  clear hHeld2
  go_simp
  refine (C2.out U3 B.out).mono ?_
  rintro e U4 ⟨rfl, hb⟩
  replace B := aB B hb
  replace Jh := aJ Jh hb
  replace Jx := aJ Jx hb
  replace Jm := aJ Jm hb
  clear hb
  go_wp2_with fail
  refine hK.out _ _ (⟨Jh.out, Jx.out, Jm.out⟩) (fun hHeld3 => ?_)
  clear hK K
  try simp only [Act.put, y1, y2, y3, y4, y5, y6, y7]
  refine tk (i := 9) (v := (.string t)) rfl (by kernel_rfl) (fun _ _ _ h => h) rfl ?_ hHeld3 ?_
  · intro W hS; go_simp
  simp only [Act.put, y1, y2, y3, y4, y5, y6, y7]
  refine tk (i := 10) (v := (.int .i64 0)) rfl (by kernel_rfl) (fun _ _ _ h => h) rfl ?_ hHeld3 ?_
  · intro W hS; go_simp
  simp only [Act.put, y1, y2, y3, y4, y5, y6, y7]
  refine tk (i := 11) (v := (.string t)) rfl (by kernel_rfl) (fun _ _ _ h => h) rfl ?_ hHeld3 ?_
  · intro W hS; go_simp
  simp only [Act.put, y1, y2, y3, y4, y5, y6, y7]
  refine tk (i := 12) (v := (.int .i64 0)) rfl (by kernel_rfl) (fun _ _ _ h => h) rfl ?_ hHeld3 ?_
  · intro W hS; go_simp
  simp only [Act.put, y1, y2, y3, y4, y5, y6, y7]
  refine wpAnyH_done (by kernel_rfl) ?_ _
  clear hHeld3
  go_wp2_with fail
  go_ret2
  exact ⟨rfl, B.out⟩
set_option maxRecDepth 100000 in
set_option maxHeartbeats 2000000 in
theorem clos91_71 {w : World} {g r1 : Nat} {t : ByteArray} {x0 x1 x2 x3 m0 m1 m2 m3 v0 v1 v2 v3 : Nat} (Jh : Hid (IHolds w r1 106 [.func (.func 91) #[] #[]]))
    (C1 : Hid (∀ W, Below w.heap.size w W → Calls Tryz.prog 91 #[.pointer (some ⟨g, 1, none⟩), .agg #[U x0, U x1, U x2, U x3], .agg #[U m0, U m1, U m2, U m3]] W fun e w' => e = .returned (.agg #[U v0, U v1, U v2, U v3]) ∧ Below W.heap.size W w')) (C2 : Hid (∀ W, Below w.heap.size w W → Calls Tryz.prog 76 #[.pointer (some ⟨g, 0, none⟩), .agg #[U v0, U v1, U v2, U v3]] W fun e w' => e = .returned (.tuple #[.string t, .int .i64 0]) ∧ Below W.heap.size W w')) :
    Calls Tryz.prog 94 #[.pointer (some ⟨g, 0, none⟩), .agg #[U x0, U x1, U x2, U x3], .agg #[U m0, U m1, U m2, U m3], .pointer (some ⟨r1, 0, none⟩)] w fun e w' => e = .returned (.tuple #[.string t, .int .i64 0]) ∧ Below w.heap.size w w' := by
  have hh0 := Jh.out.lt
  go_enter Tryz.func94, Tryz.ntmps94
  go_wp2_with fail
  obtain ⟨U1, hU1⟩ : ∃ X, X = ((w.alloc (.cells #[U x0, U x1, U x2, U x3] 92)).alloc (.cells #[U m0, U m1, U m2, U m3] 92)) := ⟨_, rfl⟩
  have Jx : Hid (IHolds U1 (w.heap.size) 92 [U x0, U x1, U x2, U x3]) := by
    have q := IHolds.new w 92 [U x0, U x1, U x2, U x3]
    show IHolds _ _ _ _
    rw [hU1]
    exact (q.alloc _)
  have Jm : Hid (IHolds U1 (w.heap.size + 1) 92 [U m0, U m1, U m2, U m3]) := by
    have q := IHolds.new (w.alloc (.cells #[U x0, U x1, U x2, U x3] 92)) 92 [U m0, U m1, U m2, U m3]
    simp only [World.size_alloc, Nat.add_assoc, Nat.reduceAdd] at q
    show IHolds _ _ _ _
    rw [hU1]
    exact q
  have B : Hid (Below w.heap.size w U1) := by
    show Below _ _ _
    rw [hU1]
    exact (((Below.refl _ w).alloc (Nat.le_refl _) _).alloc (by simp only [World.size_alloc]; omega) _)
  rw [← hU1]
  clear hU1
  replace Jh := aJ Jh B.out
  have hb := dB U1
  replace B := aB B hb
  replace Jh := aJ Jh hb
  replace Jx := aJ Jx hb
  replace Jm := aJ Jm hb
  clear hb
  refine wp_region_held_drew (S := fun W => (IHolds W (r1) 106 [(.func (.func 91) #[] #[])]) ∧ (IHolds W (w.heap.size) 92 [U x0, U x1, U x2, U x3]) ∧ (IHolds W (w.heap.size + 1) 92 [U m0, U m1, U m2, U m3])) (by kernel_rfl) ⟨Jh.out, Jx.out, Jm.out⟩ (fun hHeld1 => ?_)
  generalize U1.drew = U2 at *
  refine tk (i := 0) (v := .pointer (some ⟨g, 0, none⟩)) rfl (by kernel_rfl) (fun _ _ _ h => h) rfl ?_ hHeld1 ?_
  · intro W hS; go_simp
  simp only [Act.put, y1, y2, y3, y4, y5, y6, y7]
  refine tk (i := 1) (v := (.func (.func 91) #[] #[])) rfl (by kernel_rfl) (fun _ _ _ h => h) rfl ?_ hHeld1 ?_
  · intro W hS; have zh_0 : W.cell? ⟨r1, 0, none⟩ = some ((.func (.func 91) #[] #[])) := IHolds.cell (l := [(.func (.func 91) #[] #[])]) (t := 106) (b := r1) (w := W) (hS.1) 0 (by simp); go_simp
  simp only [Act.put, y1, y2, y3, y4, y5, y6, y7]
  refine tk (i := 2) (v := .pointer (some ⟨g, 0, none⟩)) rfl (by kernel_rfl) (fun _ _ _ h => h) rfl ?_ hHeld1 ?_
  · intro W hS; go_simp
  simp only [Act.put, y1, y2, y3, y4, y5, y6, y7]
  refine tk (i := 5) (v := .agg #[U x0, U x1, U x2, U x3]) rfl (by kernel_rfl) (fun _ _ _ h => h) rfl ?_ hHeld1 ?_
  · intro W hS; have zx_0 : W.cell? ⟨w.heap.size, 0, none⟩ = some (U x0) := IHolds.cell (l := [U x0, U x1, U x2, U x3]) (t := 92) (b := w.heap.size) (w := W) (hS.2.1) 0 (by simp); have zx_1 : W.cell? ⟨w.heap.size, 1, none⟩ = some (U x1) := IHolds.cell (l := [U x0, U x1, U x2, U x3]) (t := 92) (b := w.heap.size) (w := W) (hS.2.1) 1 (by simp); have zx_2 : W.cell? ⟨w.heap.size, 2, none⟩ = some (U x2) := IHolds.cell (l := [U x0, U x1, U x2, U x3]) (t := 92) (b := w.heap.size) (w := W) (hS.2.1) 2 (by simp); have zx_3 : W.cell? ⟨w.heap.size, 3, none⟩ = some (U x3) := IHolds.cell (l := [U x0, U x1, U x2, U x3]) (t := 92) (b := w.heap.size) (w := W) (hS.2.1) 3 (by simp); go_simp
  simp only [Act.put, y1, y2, y3, y4, y5, y6, y7]
  refine tk (i := 6) (v := .agg #[U m0, U m1, U m2, U m3]) rfl (by kernel_rfl) (fun _ _ _ h => h) rfl ?_ hHeld1 ?_
  · intro W hS; have zm_0 : W.cell? ⟨w.heap.size + 1, 0, none⟩ = some (U m0) := IHolds.cell (l := [U m0, U m1, U m2, U m3]) (t := 92) (b := w.heap.size + 1) (w := W) (hS.2.2) 0 (by simp); have zm_1 : W.cell? ⟨w.heap.size + 1, 1, none⟩ = some (U m1) := IHolds.cell (l := [U m0, U m1, U m2, U m3]) (t := 92) (b := w.heap.size + 1) (w := W) (hS.2.2) 1 (by simp); have zm_2 : W.cell? ⟨w.heap.size + 1, 2, none⟩ = some (U m2) := IHolds.cell (l := [U m0, U m1, U m2, U m3]) (t := 92) (b := w.heap.size + 1) (w := W) (hS.2.2) 2 (by simp); have zm_3 : W.cell? ⟨w.heap.size + 1, 3, none⟩ = some (U m3) := IHolds.cell (l := [U m0, U m1, U m2, U m3]) (t := 92) (b := w.heap.size + 1) (w := W) (hS.2.2) 3 (by simp); go_simp
  simp only [Act.put, y1, y2, y3, y4, y5, y6, y7]
  refine tk (i := 3) (v := .pointer (some ⟨g, 0, none⟩)) rfl (by kernel_rfl) (fun _ _ _ h => h) rfl ?_ hHeld1 ?_
  · intro W hS; go_simp
  simp only [Act.put, y1, y2, y3, y4, y5, y6, y7]
  refine tk (i := 4) (v := .pointer (some ⟨g, 1, none⟩)) rfl (by kernel_rfl) (fun _ _ _ h => h) rfl ?_ hHeld1 ?_
  · intro W hS; go_simp
  simp only [Act.put, y1, y2, y3, y4, y5, y6, y7]
  refine wpAnyH_ready (rs := [7]) (by kernel_rfl) (by simp) ?_
  refine AllReadyH.cons rfl (fun K hK => ?_) AllReadyH.nil
  clear hHeld1
  go_simp
  refine (C1.out U2 B.out).mono ?_
  rintro e U3 ⟨rfl, hb⟩
  replace B := aB B hb
  replace Jh := aJ Jh hb
  replace Jx := aJ Jx hb
  replace Jm := aJ Jm hb
  clear hb
  go_wp2_with fail
  refine hK.out _ _ (⟨Jh.out, Jx.out, Jm.out⟩) (fun hHeld2 => ?_)
  clear hK K
  try simp only [Act.put, y1, y2, y3, y4, y5, y6, y7]
  refine wpAnyH_ready (rs := [8]) (by kernel_rfl) (by simp) ?_
  refine AllReadyH.cons rfl (fun K hK => ?_) AllReadyH.nil
  clear hHeld2
  go_simp
  refine (C2.out U3 B.out).mono ?_
  rintro e U4 ⟨rfl, hb⟩
  replace B := aB B hb
  replace Jh := aJ Jh hb
  replace Jx := aJ Jx hb
  replace Jm := aJ Jm hb
  clear hb
  go_wp2_with fail
  refine hK.out _ _ (⟨Jh.out, Jx.out, Jm.out⟩) (fun hHeld3 => ?_)
  clear hK K
  try simp only [Act.put, y1, y2, y3, y4, y5, y6, y7]
  refine tk (i := 9) (v := (.string t)) rfl (by kernel_rfl) (fun _ _ _ h => h) rfl ?_ hHeld3 ?_
  · intro W hS; go_simp
  simp only [Act.put, y1, y2, y3, y4, y5, y6, y7]
  refine tk (i := 10) (v := (.int .i64 0)) rfl (by kernel_rfl) (fun _ _ _ h => h) rfl ?_ hHeld3 ?_
  · intro W hS; go_simp
  simp only [Act.put, y1, y2, y3, y4, y5, y6, y7]
  refine tk (i := 11) (v := (.string t)) rfl (by kernel_rfl) (fun _ _ _ h => h) rfl ?_ hHeld3 ?_
  · intro W hS; go_simp
  simp only [Act.put, y1, y2, y3, y4, y5, y6, y7]
  refine tk (i := 12) (v := (.int .i64 0)) rfl (by kernel_rfl) (fun _ _ _ h => h) rfl ?_ hHeld3 ?_
  · intro W hS; go_simp
  simp only [Act.put, y1, y2, y3, y4, y5, y6, y7]
  refine wpAnyH_done (by kernel_rfl) ?_ _
  clear hHeld3
  go_wp2_with fail
  go_ret2
  exact ⟨rfl, B.out⟩
set_option maxRecDepth 100000 in
set_option maxHeartbeats 2000000 in
theorem clos91_72 {w : World} {g r1 : Nat} {t : ByteArray} {x0 x1 x2 x3 m0 m1 m2 m3 v0 v1 v2 v3 : Nat} (Jh : Hid (IHolds w r1 106 [.func (.func 80) #[] #[]]))
    (C1 : Hid (∀ W, Below w.heap.size w W → Calls Tryz.prog 80 #[.pointer (some ⟨g, 1, none⟩), .agg #[U x0, U x1, U x2, U x3], .agg #[U m0, U m1, U m2, U m3]] W fun e w' => e = .returned (.agg #[U v0, U v1, U v2, U v3]) ∧ Below W.heap.size W w')) (C2 : Hid (∀ W, Below w.heap.size w W → Calls Tryz.prog 76 #[.pointer (some ⟨g, 0, none⟩), .agg #[U v0, U v1, U v2, U v3]] W fun e w' => e = .returned (.tuple #[.string t, .int .i64 0]) ∧ Below W.heap.size W w')) :
    Calls Tryz.prog 94 #[.pointer (some ⟨g, 0, none⟩), .agg #[U x0, U x1, U x2, U x3], .agg #[U m0, U m1, U m2, U m3], .pointer (some ⟨r1, 0, none⟩)] w fun e w' => e = .returned (.tuple #[.string t, .int .i64 0]) ∧ Below w.heap.size w w' := by
  have hh0 := Jh.out.lt
  go_enter Tryz.func94, Tryz.ntmps94
  go_wp2_with fail
  obtain ⟨U1, hU1⟩ : ∃ X, X = ((w.alloc (.cells #[U x0, U x1, U x2, U x3] 92)).alloc (.cells #[U m0, U m1, U m2, U m3] 92)) := ⟨_, rfl⟩
  have Jx : Hid (IHolds U1 (w.heap.size) 92 [U x0, U x1, U x2, U x3]) := by
    have q := IHolds.new w 92 [U x0, U x1, U x2, U x3]
    show IHolds _ _ _ _
    rw [hU1]
    exact (q.alloc _)
  have Jm : Hid (IHolds U1 (w.heap.size + 1) 92 [U m0, U m1, U m2, U m3]) := by
    have q := IHolds.new (w.alloc (.cells #[U x0, U x1, U x2, U x3] 92)) 92 [U m0, U m1, U m2, U m3]
    simp only [World.size_alloc, Nat.add_assoc, Nat.reduceAdd] at q
    show IHolds _ _ _ _
    rw [hU1]
    exact q
  have B : Hid (Below w.heap.size w U1) := by
    show Below _ _ _
    rw [hU1]
    exact (((Below.refl _ w).alloc (Nat.le_refl _) _).alloc (by simp only [World.size_alloc]; omega) _)
  rw [← hU1]
  clear hU1
  replace Jh := aJ Jh B.out
  have hb := dB U1
  replace B := aB B hb
  replace Jh := aJ Jh hb
  replace Jx := aJ Jx hb
  replace Jm := aJ Jm hb
  clear hb
  refine wp_region_held_drew (S := fun W => (IHolds W (r1) 106 [(.func (.func 80) #[] #[])]) ∧ (IHolds W (w.heap.size) 92 [U x0, U x1, U x2, U x3]) ∧ (IHolds W (w.heap.size + 1) 92 [U m0, U m1, U m2, U m3])) (by kernel_rfl) ⟨Jh.out, Jx.out, Jm.out⟩ (fun hHeld1 => ?_)
  generalize U1.drew = U2 at *
  refine tk (i := 0) (v := .pointer (some ⟨g, 0, none⟩)) rfl (by kernel_rfl) (fun _ _ _ h => h) rfl ?_ hHeld1 ?_
  · intro W hS; go_simp
  simp only [Act.put, y1, y2, y3, y4, y5, y6, y7]
  refine tk (i := 1) (v := (.func (.func 80) #[] #[])) rfl (by kernel_rfl) (fun _ _ _ h => h) rfl ?_ hHeld1 ?_
  · intro W hS; have zh_0 : W.cell? ⟨r1, 0, none⟩ = some ((.func (.func 80) #[] #[])) := IHolds.cell (l := [(.func (.func 80) #[] #[])]) (t := 106) (b := r1) (w := W) (hS.1) 0 (by simp); go_simp
  simp only [Act.put, y1, y2, y3, y4, y5, y6, y7]
  refine tk (i := 2) (v := .pointer (some ⟨g, 0, none⟩)) rfl (by kernel_rfl) (fun _ _ _ h => h) rfl ?_ hHeld1 ?_
  · intro W hS; go_simp
  simp only [Act.put, y1, y2, y3, y4, y5, y6, y7]
  refine tk (i := 5) (v := .agg #[U x0, U x1, U x2, U x3]) rfl (by kernel_rfl) (fun _ _ _ h => h) rfl ?_ hHeld1 ?_
  · intro W hS; have zx_0 : W.cell? ⟨w.heap.size, 0, none⟩ = some (U x0) := IHolds.cell (l := [U x0, U x1, U x2, U x3]) (t := 92) (b := w.heap.size) (w := W) (hS.2.1) 0 (by simp); have zx_1 : W.cell? ⟨w.heap.size, 1, none⟩ = some (U x1) := IHolds.cell (l := [U x0, U x1, U x2, U x3]) (t := 92) (b := w.heap.size) (w := W) (hS.2.1) 1 (by simp); have zx_2 : W.cell? ⟨w.heap.size, 2, none⟩ = some (U x2) := IHolds.cell (l := [U x0, U x1, U x2, U x3]) (t := 92) (b := w.heap.size) (w := W) (hS.2.1) 2 (by simp); have zx_3 : W.cell? ⟨w.heap.size, 3, none⟩ = some (U x3) := IHolds.cell (l := [U x0, U x1, U x2, U x3]) (t := 92) (b := w.heap.size) (w := W) (hS.2.1) 3 (by simp); go_simp
  simp only [Act.put, y1, y2, y3, y4, y5, y6, y7]
  refine tk (i := 6) (v := .agg #[U m0, U m1, U m2, U m3]) rfl (by kernel_rfl) (fun _ _ _ h => h) rfl ?_ hHeld1 ?_
  · intro W hS; have zm_0 : W.cell? ⟨w.heap.size + 1, 0, none⟩ = some (U m0) := IHolds.cell (l := [U m0, U m1, U m2, U m3]) (t := 92) (b := w.heap.size + 1) (w := W) (hS.2.2) 0 (by simp); have zm_1 : W.cell? ⟨w.heap.size + 1, 1, none⟩ = some (U m1) := IHolds.cell (l := [U m0, U m1, U m2, U m3]) (t := 92) (b := w.heap.size + 1) (w := W) (hS.2.2) 1 (by simp); have zm_2 : W.cell? ⟨w.heap.size + 1, 2, none⟩ = some (U m2) := IHolds.cell (l := [U m0, U m1, U m2, U m3]) (t := 92) (b := w.heap.size + 1) (w := W) (hS.2.2) 2 (by simp); have zm_3 : W.cell? ⟨w.heap.size + 1, 3, none⟩ = some (U m3) := IHolds.cell (l := [U m0, U m1, U m2, U m3]) (t := 92) (b := w.heap.size + 1) (w := W) (hS.2.2) 3 (by simp); go_simp
  simp only [Act.put, y1, y2, y3, y4, y5, y6, y7]
  refine tk (i := 3) (v := .pointer (some ⟨g, 0, none⟩)) rfl (by kernel_rfl) (fun _ _ _ h => h) rfl ?_ hHeld1 ?_
  · intro W hS; go_simp
  simp only [Act.put, y1, y2, y3, y4, y5, y6, y7]
  refine tk (i := 4) (v := .pointer (some ⟨g, 1, none⟩)) rfl (by kernel_rfl) (fun _ _ _ h => h) rfl ?_ hHeld1 ?_
  · intro W hS; go_simp
  simp only [Act.put, y1, y2, y3, y4, y5, y6, y7]
  refine wpAnyH_ready (rs := [7]) (by kernel_rfl) (by simp) ?_
  refine AllReadyH.cons rfl (fun K hK => ?_) AllReadyH.nil
  clear hHeld1
  go_simp
  refine (C1.out U2 B.out).mono ?_
  rintro e U3 ⟨rfl, hb⟩
  replace B := aB B hb
  replace Jh := aJ Jh hb
  replace Jx := aJ Jx hb
  replace Jm := aJ Jm hb
  clear hb
  go_wp2_with fail
  refine hK.out _ _ (⟨Jh.out, Jx.out, Jm.out⟩) (fun hHeld2 => ?_)
  clear hK K
  try simp only [Act.put, y1, y2, y3, y4, y5, y6, y7]
  refine wpAnyH_ready (rs := [8]) (by kernel_rfl) (by simp) ?_
  refine AllReadyH.cons rfl (fun K hK => ?_) AllReadyH.nil
  clear hHeld2
  go_simp
  refine (C2.out U3 B.out).mono ?_
  rintro e U4 ⟨rfl, hb⟩
  replace B := aB B hb
  replace Jh := aJ Jh hb
  replace Jx := aJ Jx hb
  replace Jm := aJ Jm hb
  clear hb
  go_wp2_with fail
  refine hK.out _ _ (⟨Jh.out, Jx.out, Jm.out⟩) (fun hHeld3 => ?_)
  clear hK K
  try simp only [Act.put, y1, y2, y3, y4, y5, y6, y7]
  refine tk (i := 9) (v := (.string t)) rfl (by kernel_rfl) (fun _ _ _ h => h) rfl ?_ hHeld3 ?_
  · intro W hS; go_simp
  simp only [Act.put, y1, y2, y3, y4, y5, y6, y7]
  refine tk (i := 10) (v := (.int .i64 0)) rfl (by kernel_rfl) (fun _ _ _ h => h) rfl ?_ hHeld3 ?_
  · intro W hS; go_simp
  simp only [Act.put, y1, y2, y3, y4, y5, y6, y7]
  refine tk (i := 11) (v := (.string t)) rfl (by kernel_rfl) (fun _ _ _ h => h) rfl ?_ hHeld3 ?_
  · intro W hS; go_simp
  simp only [Act.put, y1, y2, y3, y4, y5, y6, y7]
  refine tk (i := 12) (v := (.int .i64 0)) rfl (by kernel_rfl) (fun _ _ _ h => h) rfl ?_ hHeld3 ?_
  · intro W hS; go_simp
  simp only [Act.put, y1, y2, y3, y4, y5, y6, y7]
  refine wpAnyH_done (by kernel_rfl) ?_ _
  clear hHeld3
  go_wp2_with fail
  go_ret2
  exact ⟨rfl, B.out⟩
end Go.Proofs.YtlimogamjgehjaaGreat
