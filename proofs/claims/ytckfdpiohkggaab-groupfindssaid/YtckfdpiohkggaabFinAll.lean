/- GroupFinds: the closures, the law's walk, every kind. -/
import Derived.Test.YtckfdpiohkggaabClos
import Derived.Test.YtckfdpiohkggaabAid
import Derived.Test.YtckfdpiohkggaabFieldAll
import Derived.Test.YtckfdpiohkggaabLogX
set_option linter.unusedSimpArgs false
set_option linter.unusedVariables false
namespace Go.Proofs.Ytckfdpiohkggaab
open Go.RowKit Go.Deep Go.PlainAid


set_option maxRecDepth 100000 in
set_option maxHeartbeats 2000000 in
theorem on46_99 {w : World} {z : Int} {G : Array Value} {p1 p2 p3 : Nat} {t : Int} {c : Int} (hG : gz.size = G.size) (hi : (Try.prog.info? 55).map (·.size) = some G.size) (h1 : G.all (·.oneCell') = true)
    (CG : Hid (∀ W, Calls Try.prog 50 #[.int .i64 z] W fun e w' => e = .returned (.tuple #[.agg G, .bool true]) ∧ Below W.heap.size W w')) (HF : Hid (∀ W g, IHolds W g 55 G.toList → Below w.heap.size w W → Calls Try.prog 66 #[.pointer (some ⟨g, 0, none⟩), .pointer (some ⟨p1, 0, none⟩), .pointer (some ⟨p2, 0, none⟩), .pointer (some ⟨p3, 0, none⟩)] W fun e w' => e = .returned (.tuple #[.int .i64 t, .int .i64 c]) ∧ Below W.heap.size W w')) :
    Calls Try.prog 26 #[.int .i64 z, .func (.func 66) #[] #[.pointer (some ⟨p1, 0, none⟩), .pointer (some ⟨p2, 0, none⟩), .pointer (some ⟨p3, 0, none⟩)]] w fun e w' => e = .returned (.tuple #[.int .i64 t, .int .i64 c]) ∧ Below w.heap.size w w' := by
  go_enter Try.func26, Try.ntmps26
  go_wp2_with fail
  refine (CG.out w).mono ?_
  rintro e U1 ⟨rfl, hb⟩
  have B : Hid (Below w.heap.size w U1) := hb
  clear hb
  have hg : (U1.alloc (.cells gz 55)).heap[U1.heap.size]? = some (.cells gz 55 (0, 0)) := by
    have h := IHolds.new U1 55 gz.toList
    unfold IHolds at h
    rw [Array.toArray_toList] at h
    exact h
  have J : Hid (IHolds (U1.alloc (.cells G 55)) U1.heap.size 55 G.toList) := by
    have h := IHolds.new U1 55 G.toList
    rw [Array.toArray_toList] at h
    exact h
  replace B := aB B (nB U1 (.cells G 55))
  go_wp2_with (refine wpList_store_row rfl 55 (.tmp 6) (.tmp 12) rfl U1.heap.size G rfl rfl 55 gz hg hi hG h1 ?_; rw [World.setRow_alloc_new]; clear hg)
  generalize U1.alloc (.cells G 55) = U2 at *
  refine (HF.out U2 _ J.out B.out).mono ?_
  rintro e U3 ⟨rfl, hb⟩
  replace B := aB B hb
  clear hb
  go_wp2_with fail
  go_ret2
  exact ⟨rfl, B.out⟩
set_option maxRecDepth 100000 in
set_option maxHeartbeats 2000000 in
theorem on46_99_no {w : World} {z : Int} {G : Array Value} {p1 p2 p3 : Nat}  (hG : gz.size = G.size) (hi : (Try.prog.info? 55).map (·.size) = some G.size) (h1 : G.all (·.oneCell') = true)
    (CG : Hid (∀ W, Calls Try.prog 50 #[.int .i64 z] W fun e w' => e = .returned (.tuple #[.agg G, .bool false]) ∧ Below W.heap.size W w'))  :
    Calls Try.prog 26 #[.int .i64 z, .func (.func 66) #[] #[.pointer (some ⟨p1, 0, none⟩), .pointer (some ⟨p2, 0, none⟩), .pointer (some ⟨p3, 0, none⟩)]] w fun e w' => e = .returned (.tuple #[.int .i64 0, .int .i64 1]) ∧ Below w.heap.size w w' := by
  go_enter Try.func26, Try.ntmps26
  go_wp2_with fail
  refine (CG.out w).mono ?_
  rintro e U1 ⟨rfl, hb⟩
  have B : Hid (Below w.heap.size w U1) := hb
  clear hb
  have hg : (U1.alloc (.cells gz 55)).heap[U1.heap.size]? = some (.cells gz 55 (0, 0)) := by
    have h := IHolds.new U1 55 gz.toList
    unfold IHolds at h
    rw [Array.toArray_toList] at h
    exact h
  have J : Hid (IHolds (U1.alloc (.cells G 55)) U1.heap.size 55 G.toList) := by
    have h := IHolds.new U1 55 G.toList
    rw [Array.toArray_toList] at h
    exact h
  replace B := aB B (nB U1 (.cells G 55))
  go_wp2_with (refine wpList_store_row rfl 55 (.tmp 6) (.tmp 12) rfl U1.heap.size G rfl rfl 55 gz hg hi hG h1 ?_; rw [World.setRow_alloc_new]; clear hg)
  go_ret2
  exact ⟨rfl, B.out⟩
set_option maxRecDepth 100000 in
set_option maxHeartbeats 2000000 in
theorem clos99_61_81 {w : World} {g p1 p2 p3 m1 : Nat} {s : ByteArray} {t : Int} {z0 z1 z2 z3 : Nat} {c : Int} (J1 : Hid (IHolds w p1 81 [.func (.func 38) #[] #[]])) (J2 : Hid (IHolds w p2 9 [.string s])) (J3 : Hid (IHolds w p3 72 [.func (.func 48) #[] #[.pointer (some ⟨m1, 0, none⟩)]]))
    (C1 : Hid (∀ W, Below w.heap.size w W → Calls Try.prog 38 #[.pointer (some ⟨g, 0, none⟩), .string s] W fun e w' => e = .returned (.tuple #[.agg #[U z0, U z1, U z2, U z3], .int .i64 0]) ∧ Below W.heap.size W w')) (C2 : Hid (∀ W, Below w.heap.size w W → Calls Try.prog 48 #[.pointer (some ⟨g, 0, none⟩), .agg #[U z0, U z1, U z2, U z3], .pointer (some ⟨m1, 0, none⟩)] W fun e w' => e = .returned (.tuple #[.int .i64 t, .int .i64 c]) ∧ Below W.heap.size W w')) :
    Calls Try.prog 66 #[.pointer (some ⟨g, 0, none⟩), .pointer (some ⟨p1, 0, none⟩), .pointer (some ⟨p2, 0, none⟩), .pointer (some ⟨p3, 0, none⟩)] w fun e w' => e = .returned (.tuple #[.int .i64 t, .int .i64 c]) ∧ Below w.heap.size w w' := by
  have B : Hid (Below w.heap.size w w) := Below.refl _ _
  have zs0 : w.cell? ⟨p1, 0, none⟩ = some (.func (.func 38) #[] #[]) := J1.out.cell 0 (by simp)
  have zs1 : w.cell? ⟨p2, 0, none⟩ = some (.string s) := J2.out.cell 0 (by simp)
  go_enter Try.func66, Try.ntmps66
  go_wp2_with fail
  clear zs0 zs1
  refine (C1.out w B.out).mono ?_
  rintro e U1 ⟨rfl, hb⟩
  replace B := aB B hb
  replace J1 := aJ J1 hb
  replace J2 := aJ J2 hb
  replace J3 := aJ J3 hb
  clear hb
  have hb := nB U1 (.cells #[U z0, U z1, U z2, U z3] 41)
  replace B := aB B hb
  replace J3 := aJ J3 hb
  clear hb J1 J2
  have zs0 : (U1.alloc (.cells #[U z0, U z1, U z2, U z3] 41)).cell? ⟨p3, 0, none⟩ = some (.func (.func 48) #[] #[.pointer (some ⟨m1, 0, none⟩)]) := J3.out.cell 0 (by simp)
  go_wp2_with fail
  clear zs0
  refine (C2.out (U1.alloc (.cells #[U z0, U z1, U z2, U z3] 41)) B.out).mono ?_
  rintro e V9 ⟨rfl, hb⟩
  replace B := aB B hb
  clear hb
  go_wp2_with fail
  go_ret2
  exact ⟨rfl, B.out⟩
set_option maxRecDepth 100000 in
set_option maxHeartbeats 2000000 in
theorem clos99_61_bad {w : World} {g p1 p2 p3  : Nat} {s : ByteArray}  {z0 z1 z2 z3 : Nat} {c : Int} (hc : (c != 0) = true) (hc1 : c ≠ 0) (J1 : Hid (IHolds w p1 81 [.func (.func 38) #[] #[]])) (J2 : Hid (IHolds w p2 9 [.string s])) 
    (C1 : Hid (∀ W, Below w.heap.size w W → Calls Try.prog 38 #[.pointer (some ⟨g, 0, none⟩), .string s] W fun e w' => e = .returned (.tuple #[.agg #[U z0, U z1, U z2, U z3], .int .i64 c]) ∧ Below W.heap.size W w'))  :
    Calls Try.prog 66 #[.pointer (some ⟨g, 0, none⟩), .pointer (some ⟨p1, 0, none⟩), .pointer (some ⟨p2, 0, none⟩), .pointer (some ⟨p3, 0, none⟩)] w fun e w' => e = .returned (.tuple #[.int .i64 0, .int .i64 c]) ∧ Below w.heap.size w w' := by
  have B : Hid (Below w.heap.size w w) := Below.refl _ _
  have zs0 : w.cell? ⟨p1, 0, none⟩ = some (.func (.func 38) #[] #[]) := J1.out.cell 0 (by simp)
  have zs1 : w.cell? ⟨p2, 0, none⟩ = some (.string s) := J2.out.cell 0 (by simp)
  go_enter Try.func66, Try.ntmps66
  go_wp2_with fail
  clear zs0 zs1
  refine (C1.out w B.out).mono ?_
  rintro e U1 ⟨rfl, hb⟩
  replace B := aB B hb
  replace J1 := aJ J1 hb
  replace J2 := aJ J2 hb
  clear hb
  replace B := aB B (nB U1 (.cells #[U z0, U z1, U z2, U z3] 41))
  go_wp2_with fail
  go_ret2
  exact ⟨rfl, B.out⟩
set_option maxRecDepth 100000 in
set_option maxHeartbeats 2000000 in
theorem clos81_far {w : World} {g m1 : Nat} {x0 x1 x2 x3 : Nat} {most : Int} (Jm : Hid (IHolds w m1 3 [.int .i64 most])) (hf : most < 0 ∨ 1048576 < most) :
    Calls Try.prog 48 #[.pointer (some ⟨g, 0, none⟩), .agg #[U x0, U x1, U x2, U x3], .pointer (some ⟨m1, 0, none⟩)] w fun e w' => e = .returned (.tuple #[.int .i64 0, .int .i64 4]) ∧ Below w.heap.size w w' := by
  have hb := nB w (.cells #[U x0, U x1, U x2, U x3] 41)
  have B : Hid (Below w.heap.size w (w.alloc (.cells #[U x0, U x1, U x2, U x3] 41))) := hb
  have Jx : Hid (IHolds (w.alloc (.cells #[U x0, U x1, U x2, U x3] 41)) w.heap.size 41 [U x0, U x1, U x2, U x3]) := IHolds.new w 41 _
  replace Jm := aJ Jm hb
  clear hb
  have zm : (w.alloc (.cells #[U x0, U x1, U x2, U x3] 41)).cell? ⟨m1, 0, none⟩ = some (.int .i64 most) := Jm.out.cell 0 (by simp)
  have zx0 : (w.alloc (.cells #[U x0, U x1, U x2, U x3] 41)).cell? ⟨w.heap.size, 0, none⟩ = some (U x0) := Jx.out.cell 0 (by simp)
  have zx1 : (w.alloc (.cells #[U x0, U x1, U x2, U x3] 41)).cell? ⟨w.heap.size, 1, none⟩ = some (U x1) := Jx.out.cell 1 (by simp)
  have zx2 : (w.alloc (.cells #[U x0, U x1, U x2, U x3] 41)).cell? ⟨w.heap.size, 2, none⟩ = some (U x2) := Jx.out.cell 2 (by simp)
  have zx3 : (w.alloc (.cells #[U x0, U x1, U x2, U x3] 41)).cell? ⟨w.heap.size, 3, none⟩ = some (U x3) := Jx.out.cell 3 (by simp)
  go_enter Try.func48, Try.ntmps48
  rcases Int.lt_or_le most 0 with h0 | h0
  · go_wp2_with fail
    go_ret2
    exact ⟨rfl, B.out⟩
  · have h1 : 1048576 < most := by omega
    go_wp2_with fail
    go_ret2
    exact ⟨rfl, B.out⟩
set_option maxRecDepth 100000 in
set_option maxHeartbeats 2000000 in
theorem clos81_go {w : World} {g m1 : Nat} {x0 x1 x2 x3 : Nat} {most t c : Int} (Jm : Hid (IHolds w m1 3 [.int .i64 most])) (h0 : 0 ≤ most) (h1 : most ≤ 1048576)
    (C : Hid (∀ W, Below w.heap.size w W → Calls Try.prog 49 #[.pointer (some ⟨g, 0, none⟩), .agg #[U x0, U x1, U x2, U x3], .int .i64 most] W fun e w' => e = .returned (.tuple #[.int .i64 t, .int .i64 c]) ∧ Below W.heap.size W w')) :
    Calls Try.prog 48 #[.pointer (some ⟨g, 0, none⟩), .agg #[U x0, U x1, U x2, U x3], .pointer (some ⟨m1, 0, none⟩)] w fun e w' => e = .returned (.tuple #[.int .i64 t, .int .i64 c]) ∧ Below w.heap.size w w' := by
  have hb := nB w (.cells #[U x0, U x1, U x2, U x3] 41)
  have B : Hid (Below w.heap.size w (w.alloc (.cells #[U x0, U x1, U x2, U x3] 41))) := hb
  have Jx : Hid (IHolds (w.alloc (.cells #[U x0, U x1, U x2, U x3] 41)) w.heap.size 41 [U x0, U x1, U x2, U x3]) := IHolds.new w 41 _
  replace Jm := aJ Jm hb
  clear hb
  have zm : (w.alloc (.cells #[U x0, U x1, U x2, U x3] 41)).cell? ⟨m1, 0, none⟩ = some (.int .i64 most) := Jm.out.cell 0 (by simp)
  have zx0 : (w.alloc (.cells #[U x0, U x1, U x2, U x3] 41)).cell? ⟨w.heap.size, 0, none⟩ = some (U x0) := Jx.out.cell 0 (by simp)
  have zx1 : (w.alloc (.cells #[U x0, U x1, U x2, U x3] 41)).cell? ⟨w.heap.size, 1, none⟩ = some (U x1) := Jx.out.cell 1 (by simp)
  have zx2 : (w.alloc (.cells #[U x0, U x1, U x2, U x3] 41)).cell? ⟨w.heap.size, 2, none⟩ = some (U x2) := Jx.out.cell 2 (by simp)
  have zx3 : (w.alloc (.cells #[U x0, U x1, U x2, U x3] 41)).cell? ⟨w.heap.size, 3, none⟩ = some (U x3) := Jx.out.cell 3 (by simp)
  go_enter Try.func48, Try.ntmps48
  go_wp2_with fail
  clear zm zx0 zx1 zx2 zx3
  refine (C.out (w.alloc (.cells #[U x0, U x1, U x2, U x3] 41)) B.out).mono ?_
  rintro e V9 ⟨rfl, hb⟩
  replace B := aB B hb
  clear hb
  go_wp2_with fail
  go_ret2
  exact ⟨rfl, B.out⟩
set_option maxRecDepth 100000 in
set_option maxHeartbeats 2000000 in
theorem withOneI_any {w : World} {z c t : Int} {m1 : Nat} {a : ByteArray}
    (C : Hid (∀ W p1 p2 p3, IHolds W p1 81 [.func (.func 38) #[] #[]] → IHolds W p2 9 [.string a] → IHolds W p3 72 [.func (.func 48) #[] #[.pointer (some ⟨m1, 0, none⟩)]] → Below w.heap.size w W → Calls Try.prog 26 #[.int .i64 z, .func (.func 66) #[] #[.pointer (some ⟨p1, 0, none⟩), .pointer (some ⟨p2, 0, none⟩), .pointer (some ⟨p3, 0, none⟩)]] W fun e w' => e = .returned (.tuple #[.int .i64 t, .int .i64 c]) ∧ Below W.heap.size W w')) :
    Calls Try.prog 47 #[.int .i64 z, .func (.func 38) #[] #[], .string a, .func (.func 48) #[] #[.pointer (some ⟨m1, 0, none⟩)]] w fun e w' => e = .returned (.tuple #[.int .i64 t, .int .i64 c]) ∧ Below w.heap.size w w' := by
  have Jp1 : Hid (IHolds (((w.alloc (.cells #[.func (.func 38) #[] #[]] 81)).alloc (.cells #[.string a] 9)).alloc (.cells #[.func (.func 48) #[] #[.pointer (some ⟨m1, 0, none⟩)]] 72)) (w.heap.size) 81 [.func (.func 38) #[] #[]]) := by
    have q := IHolds.new w 81 [.func (.func 38) #[] #[]]
    exact ((q.alloc _).alloc _)
  have Jp2 : Hid (IHolds (((w.alloc (.cells #[.func (.func 38) #[] #[]] 81)).alloc (.cells #[.string a] 9)).alloc (.cells #[.func (.func 48) #[] #[.pointer (some ⟨m1, 0, none⟩)]] 72)) (w.heap.size + 1) 9 [.string a]) := by
    have q := IHolds.new (w.alloc (.cells #[.func (.func 38) #[] #[]] 81)) 9 [.string a]
    simp only [World.size_alloc, Nat.add_assoc, Nat.reduceAdd] at q
    exact (q.alloc _)
  have Jp3 : Hid (IHolds (((w.alloc (.cells #[.func (.func 38) #[] #[]] 81)).alloc (.cells #[.string a] 9)).alloc (.cells #[.func (.func 48) #[] #[.pointer (some ⟨m1, 0, none⟩)]] 72)) (w.heap.size + 2) 72 [.func (.func 48) #[] #[.pointer (some ⟨m1, 0, none⟩)]]) := by
    have q := IHolds.new ((w.alloc (.cells #[.func (.func 38) #[] #[]] 81)).alloc (.cells #[.string a] 9)) 72 [.func (.func 48) #[] #[.pointer (some ⟨m1, 0, none⟩)]]
    simp only [World.size_alloc, Nat.add_assoc, Nat.reduceAdd] at q
    exact q
  have B : Hid (Below w.heap.size w (((w.alloc (.cells #[.func (.func 38) #[] #[]] 81)).alloc (.cells #[.string a] 9)).alloc (.cells #[.func (.func 48) #[] #[.pointer (some ⟨m1, 0, none⟩)]] 72))) := ((((Below.refl _ w).alloc (Nat.le_refl _) _).alloc (by simp only [World.size_alloc]; omega) _).alloc (by simp only [World.size_alloc]; omega) _)
  go_enter Try.func47, Try.ntmps47
  go_wp2_with fail
  generalize (((w.alloc (.cells #[.func (.func 38) #[] #[]] 81)).alloc (.cells #[.string a] 9)).alloc (.cells #[.func (.func 48) #[] #[.pointer (some ⟨m1, 0, none⟩)]] 72)) = V0 at *
  refine (C.out V0 _ _ _ Jp1.out Jp2.out Jp3.out B.out).mono ?_
  rintro e V1 ⟨rfl, hb⟩
  replace B := aB B hb
  clear hb
  go_wp2_with fail
  go_ret2
  exact ⟨rfl, B.out⟩
set_option maxRecDepth 100000 in
set_option maxHeartbeats 2000000 in
theorem log_face {w : World} {z c t : Int} {most : Int} {a : ByteArray}
    (C : Hid (∀ W m1, IHolds W m1 3 [.int .i64 most] → Below w.heap.size w W → Calls Try.prog 47 #[.int .i64 z, .func (.func 38) #[] #[], .string a, .func (.func 48) #[] #[.pointer (some ⟨m1, 0, none⟩)]] W fun e w' => e = .returned (.tuple #[.int .i64 t, .int .i64 c]) ∧ Below W.heap.size W w')) :
    Calls Try.prog 22 #[.int .i64 z, .string a, .int .i64 most] w fun e w' => e = .returned (.tuple #[.int .i64 t, .int .i64 c]) ∧ Below w.heap.size w w' := by
  have Jm1 : Hid (IHolds (w.alloc (.cells #[.int .i64 most] 3)) (w.heap.size) 3 [.int .i64 most]) := by
    have q := IHolds.new w 3 [.int .i64 most]
    exact q
  have B : Hid (Below w.heap.size w (w.alloc (.cells #[.int .i64 most] 3))) := ((Below.refl _ w).alloc (Nat.le_refl _) _)
  go_enter Try.func22, Try.ntmps22
  go_wp2_with fail
  generalize (w.alloc (.cells #[.int .i64 most] 3)) = V0 at *
  refine (C.out V0 _ Jm1.out B.out).mono ?_
  rintro e V1 ⟨rfl, hb⟩
  replace B := aB B hb
  clear hb
  go_wp2_with fail
  go_ret2
  exact ⟨rfl, B.out⟩

set_option maxRecDepth 100000 in
set_option maxHeartbeats 2000000 in
theorem fin_none {w : World} {z n most : Int} {a : ByteArray} 
    (BA : Hid (∀ W, Calls Try.prog 13 #[.int .i64 z] W fun e w' => e = .returned (.tuple #[.string ⟨#[]⟩, .int .i64 1]) ∧ Below W.heap.size W w')) :
    Calls Try.prog 5 #[.int .i64 z, .int .i64 n, .string a, .int .i64 most] w fun e w' => e = .returned (.bool true) ∧ Below w.heap.size w w' := by
  have B : Hid (Below w.heap.size w w) := Below.refl _ _
  go_enter Try.func5, Try.ntmps5
  go_wp2_with fail
  refine (BA.out w).mono ?_
  rintro e V0 ⟨rfl, hb⟩
  replace B := aB B hb
  clear hb
  go_wp2_with fail
  go_ret
  exact ⟨rfl, B.out⟩
set_option maxRecDepth 100000 in
set_option maxHeartbeats 2000000 in
theorem fin_m0 {w : World} {z n most : Int} {a : ByteArray} {bs : ByteArray}
    (BA : Hid (∀ W, Calls Try.prog 13 #[.int .i64 z] W fun e w' => e = .returned (.tuple #[.string bs, .int .i64 0]) ∧ Below W.heap.size W w'))
    (h0 : most < 0) :
    Calls Try.prog 5 #[.int .i64 z, .int .i64 n, .string a, .int .i64 most] w fun e w' => e = .returned (.bool true) ∧ Below w.heap.size w w' := by
  have B : Hid (Below w.heap.size w w) := Below.refl _ _
  go_enter Try.func5, Try.ntmps5
  go_wp2_with fail
  refine (BA.out w).mono ?_
  rintro e V0 ⟨rfl, hb⟩
  replace B := aB B hb
  clear hb
  go_wp2_with fail
  go_ret
  exact ⟨rfl, B.out⟩
set_option maxRecDepth 100000 in
set_option maxHeartbeats 2000000 in
theorem fin_m1 {w : World} {z n most : Int} {a : ByteArray} {bs : ByteArray}
    (BA : Hid (∀ W, Calls Try.prog 13 #[.int .i64 z] W fun e w' => e = .returned (.tuple #[.string bs, .int .i64 0]) ∧ Below W.heap.size W w'))
    (h0 : 0 ≤ most) (h1 : 1048576 < most) :
    Calls Try.prog 5 #[.int .i64 z, .int .i64 n, .string a, .int .i64 most] w fun e w' => e = .returned (.bool true) ∧ Below w.heap.size w w' := by
  have B : Hid (Below w.heap.size w w) := Below.refl _ _
  go_enter Try.func5, Try.ntmps5
  go_wp2_with fail
  refine (BA.out w).mono ?_
  rintro e V0 ⟨rfl, hb⟩
  replace B := aB B hb
  clear hb
  go_wp2_with fail
  go_ret
  exact ⟨rfl, B.out⟩
set_option maxRecDepth 100000 in
set_option maxHeartbeats 2000000 in
theorem fin_n0 {w : World} {z n most : Int} {a : ByteArray} {bs : ByteArray}
    (BA : Hid (∀ W, Calls Try.prog 13 #[.int .i64 z] W fun e w' => e = .returned (.tuple #[.string bs, .int .i64 0]) ∧ Below W.heap.size W w'))
    (h0 : 0 ≤ most) (h1 : most ≤ 1048576) (h2 : n < 0) :
    Calls Try.prog 5 #[.int .i64 z, .int .i64 n, .string a, .int .i64 most] w fun e w' => e = .returned (.bool true) ∧ Below w.heap.size w w' := by
  have B : Hid (Below w.heap.size w w) := Below.refl _ _
  go_enter Try.func5, Try.ntmps5
  go_wp2_with fail
  refine (BA.out w).mono ?_
  rintro e V0 ⟨rfl, hb⟩
  replace B := aB B hb
  clear hb
  go_wp2_with fail
  go_ret
  exact ⟨rfl, B.out⟩
set_option maxRecDepth 100000 in
set_option maxHeartbeats 2000000 in
theorem fin_n1 {w : World} {z n most : Int} {a : ByteArray} {bs : ByteArray}
    (BA : Hid (∀ W, Calls Try.prog 13 #[.int .i64 z] W fun e w' => e = .returned (.tuple #[.string bs, .int .i64 0]) ∧ Below W.heap.size W w'))
    (h0 : 0 ≤ most) (h1 : most ≤ 1048576) (h2 : 0 ≤ n) (h3 : most < n) :
    Calls Try.prog 5 #[.int .i64 z, .int .i64 n, .string a, .int .i64 most] w fun e w' => e = .returned (.bool true) ∧ Below w.heap.size w w' := by
  have B : Hid (Below w.heap.size w w) := Below.refl _ _
  go_enter Try.func5, Try.ntmps5
  go_wp2_with fail
  refine (BA.out w).mono ?_
  rintro e V0 ⟨rfl, hb⟩
  replace B := aB B hb
  clear hb
  go_wp2_with fail
  go_ret
  exact ⟨rfl, B.out⟩
set_option maxRecDepth 100000 in
set_option maxHeartbeats 2000000 in
theorem fin_bad {w : World} {z n most : Int} {a : ByteArray} {bs k p : ByteArray} {f : Int}
    (BA : Hid (∀ W, Calls Try.prog 13 #[.int .i64 z] W fun e w' => e = .returned (.tuple #[.string bs, .int .i64 0]) ∧ Below W.heap.size W w'))
    (h0 : 0 ≤ most) (h1 : most ≤ 1048576) (h2 : 0 ≤ n) (h3 : n ≤ most)
    (N1 : Hid (∀ W, Calls Try.prog 8 #[.int .i64 z, .int .i64 n] W fun e w' => e = .returned (.tuple #[.string k, .int .i64 0]) ∧ Below W.heap.size W w'))
    (P1 : Hid (∀ W, Calls Try.prog 21 #[.int .i64 z, .string bs, .string k] W fun e w' => e = .returned (.tuple #[.string p, .int .i64 0]) ∧ Below W.heap.size W w'))
    (L1 : Hid (∀ W, Calls Try.prog 22 #[.int .i64 z, .string p, .int .i64 most] W fun e w' => e = .returned (.tuple #[.int .i64 f, .int .i64 0]) ∧ Below W.heap.size W w'))
    (hf0 : 0 ≤ f) (hf1 : f ≤ n)
    (N2 : Hid (∀ W, Calls Try.prog 8 #[.int .i64 z, .int .i64 f] W fun e w' => e = .returned (.tuple #[.string k, .int .i64 0]) ∧ Below W.heap.size W w'))
    (L2 : Hid (∀ W, Calls Try.prog 22 #[.int .i64 z, .string a, .int .i64 most] W fun e w' => e = .returned (.tuple #[.int .i64 0, .int .i64 7]) ∧ Below W.heap.size W w'))
    (Me : Hid (∀ W, Calls Try.prog 14 #[.int .i64 z, .string a] W fun e w' => e = .returned (.bool false) ∧ Below W.heap.size W w')) :
    Calls Try.prog 5 #[.int .i64 z, .int .i64 n, .string a, .int .i64 most] w fun e w' => e = .returned (.bool true) ∧ Below w.heap.size w w' := by
  have B : Hid (Below w.heap.size w w) := Below.refl _ _
  go_enter Try.func5, Try.ntmps5
  go_wp2_with fail
  refine (BA.out w).mono ?_
  rintro e V0 ⟨rfl, hb⟩
  replace B := aB B hb
  clear hb
  go_wp2_with fail
  refine (N1.out V0).mono ?_
  rintro e V1 ⟨rfl, hb⟩
  replace B := aB B hb
  clear hb
  go_wp2_with fail
  refine (P1.out V1).mono ?_
  rintro e V2 ⟨rfl, hb⟩
  replace B := aB B hb
  clear hb
  go_wp2_with fail
  refine (L1.out V2).mono ?_
  rintro e V3 ⟨rfl, hb⟩
  replace B := aB B hb
  clear hb
  go_wp2_with fail
  refine (N2.out V3).mono ?_
  rintro e V4 ⟨rfl, hb⟩
  replace B := aB B hb
  clear hb
  go_wp2_with fail
  refine (L2.out V4).mono ?_
  rintro e V5 ⟨rfl, hb⟩
  replace B := aB B hb
  clear hb
  go_wp2_with fail
  refine (Me.out V5).mono ?_
  rintro e V6 ⟨rfl, hb⟩
  replace B := aB B hb
  clear hb
  go_wp2_with fail
  go_ret
  exact ⟨rfl, B.out⟩
set_option maxRecDepth 100000 in
set_option maxHeartbeats 2000000 in
theorem fin_not {w : World} {z n most : Int} {a : ByteArray} {bs k p : ByteArray} {f : Int}
    (BA : Hid (∀ W, Calls Try.prog 13 #[.int .i64 z] W fun e w' => e = .returned (.tuple #[.string bs, .int .i64 0]) ∧ Below W.heap.size W w'))
    (h0 : 0 ≤ most) (h1 : most ≤ 1048576) (h2 : 0 ≤ n) (h3 : n ≤ most)
    (N1 : Hid (∀ W, Calls Try.prog 8 #[.int .i64 z, .int .i64 n] W fun e w' => e = .returned (.tuple #[.string k, .int .i64 0]) ∧ Below W.heap.size W w'))
    (P1 : Hid (∀ W, Calls Try.prog 21 #[.int .i64 z, .string bs, .string k] W fun e w' => e = .returned (.tuple #[.string p, .int .i64 0]) ∧ Below W.heap.size W w'))
    (L1 : Hid (∀ W, Calls Try.prog 22 #[.int .i64 z, .string p, .int .i64 most] W fun e w' => e = .returned (.tuple #[.int .i64 f, .int .i64 0]) ∧ Below W.heap.size W w'))
    (hf0 : 0 ≤ f) (hf1 : f ≤ n)
    (N2 : Hid (∀ W, Calls Try.prog 8 #[.int .i64 z, .int .i64 f] W fun e w' => e = .returned (.tuple #[.string k, .int .i64 0]) ∧ Below W.heap.size W w'))
    (L2 : Hid (∀ W, Calls Try.prog 22 #[.int .i64 z, .string a, .int .i64 most] W fun e w' => e = .returned (.tuple #[.int .i64 0, .int .i64 9]) ∧ Below W.heap.size W w')) :
    Calls Try.prog 5 #[.int .i64 z, .int .i64 n, .string a, .int .i64 most] w fun e w' => e = .returned (.bool true) ∧ Below w.heap.size w w' := by
  have B : Hid (Below w.heap.size w w) := Below.refl _ _
  go_enter Try.func5, Try.ntmps5
  go_wp2_with fail
  refine (BA.out w).mono ?_
  rintro e V0 ⟨rfl, hb⟩
  replace B := aB B hb
  clear hb
  go_wp2_with fail
  refine (N1.out V0).mono ?_
  rintro e V1 ⟨rfl, hb⟩
  replace B := aB B hb
  clear hb
  go_wp2_with fail
  refine (P1.out V1).mono ?_
  rintro e V2 ⟨rfl, hb⟩
  replace B := aB B hb
  clear hb
  go_wp2_with fail
  refine (L1.out V2).mono ?_
  rintro e V3 ⟨rfl, hb⟩
  replace B := aB B hb
  clear hb
  go_wp2_with fail
  refine (N2.out V3).mono ?_
  rintro e V4 ⟨rfl, hb⟩
  replace B := aB B hb
  clear hb
  go_wp2_with fail
  refine (L2.out V4).mono ?_
  rintro e V5 ⟨rfl, hb⟩
  replace B := aB B hb
  clear hb
  go_wp2_with fail
  go_ret
  exact ⟨rfl, B.out⟩
set_option maxRecDepth 100000 in
set_option maxHeartbeats 2000000 in
theorem fin_ok {w : World} {z n most : Int} {a : ByteArray} {bs k p k2 : ByteArray} {f f2 : Int}
    (BA : Hid (∀ W, Calls Try.prog 13 #[.int .i64 z] W fun e w' => e = .returned (.tuple #[.string bs, .int .i64 0]) ∧ Below W.heap.size W w'))
    (h0 : 0 ≤ most) (h1 : most ≤ 1048576) (h2 : 0 ≤ n) (h3 : n ≤ most)
    (N1 : Hid (∀ W, Calls Try.prog 8 #[.int .i64 z, .int .i64 n] W fun e w' => e = .returned (.tuple #[.string k, .int .i64 0]) ∧ Below W.heap.size W w'))
    (P1 : Hid (∀ W, Calls Try.prog 21 #[.int .i64 z, .string bs, .string k] W fun e w' => e = .returned (.tuple #[.string p, .int .i64 0]) ∧ Below W.heap.size W w'))
    (L1 : Hid (∀ W, Calls Try.prog 22 #[.int .i64 z, .string p, .int .i64 most] W fun e w' => e = .returned (.tuple #[.int .i64 f, .int .i64 0]) ∧ Below W.heap.size W w'))
    (hf0 : 0 ≤ f) (hf1 : f ≤ n)
    (N2 : Hid (∀ W, Calls Try.prog 8 #[.int .i64 z, .int .i64 f] W fun e w' => e = .returned (.tuple #[.string k, .int .i64 0]) ∧ Below W.heap.size W w'))
    (L2 : Hid (∀ W, Calls Try.prog 22 #[.int .i64 z, .string a, .int .i64 most] W fun e w' => e = .returned (.tuple #[.int .i64 f2, .int .i64 0]) ∧ Below W.heap.size W w'))
    (N3 : Hid (∀ W, Calls Try.prog 8 #[.int .i64 z, .int .i64 f2] W fun e w' => e = .returned (.tuple #[.string k2, .int .i64 0]) ∧ Below W.heap.size W w'))
    (P3 : Hid (∀ W, Calls Try.prog 21 #[.int .i64 z, .string bs, .string k2] W fun e w' => e = .returned (.tuple #[.string a, .int .i64 0]) ∧ Below W.heap.size W w'))
    (hf2 : f2 ≤ most) :
    Calls Try.prog 5 #[.int .i64 z, .int .i64 n, .string a, .int .i64 most] w fun e w' => e = .returned (.bool true) ∧ Below w.heap.size w w' := by
  have B : Hid (Below w.heap.size w w) := Below.refl _ _
  go_enter Try.func5, Try.ntmps5
  go_wp2_with fail
  refine (BA.out w).mono ?_
  rintro e V0 ⟨rfl, hb⟩
  replace B := aB B hb
  clear hb
  go_wp2_with fail
  refine (N1.out V0).mono ?_
  rintro e V1 ⟨rfl, hb⟩
  replace B := aB B hb
  clear hb
  go_wp2_with fail
  refine (P1.out V1).mono ?_
  rintro e V2 ⟨rfl, hb⟩
  replace B := aB B hb
  clear hb
  go_wp2_with fail
  refine (L1.out V2).mono ?_
  rintro e V3 ⟨rfl, hb⟩
  replace B := aB B hb
  clear hb
  go_wp2_with fail
  refine (N2.out V3).mono ?_
  rintro e V4 ⟨rfl, hb⟩
  replace B := aB B hb
  clear hb
  go_wp2_with fail
  refine (L2.out V4).mono ?_
  rintro e V5 ⟨rfl, hb⟩
  replace B := aB B hb
  clear hb
  go_wp2_with fail
  refine (N3.out V5).mono ?_
  rintro e V6 ⟨rfl, hb⟩
  replace B := aB B hb
  clear hb
  go_wp2_with fail
  refine (P3.out V6).mono ?_
  rintro e V7 ⟨rfl, hb⟩
  replace B := aB B hb
  clear hb
  go_wp2_with fail
  go_ret
  exact ⟨rfl, B.out⟩

theorem least_of (P : Nat → Prop) : ∀ n, P n → ∃ m, m ≤ n ∧ P m ∧ ∀ i, i < m → ¬ P i := by
  intro n
  induction n using Nat.strongRecOn with
  | _ n ih =>
    intro h
    by_cases g : ∃ i, i < n ∧ P i
    · obtain ⟨i, hi, hp⟩ := g
      obtain ⟨m, a, b, c⟩ := ih i hi hp
      exact ⟨m, by omega, b, c⟩
    · exact ⟨n, Nat.le_refl _, h, fun i hi hp => g ⟨i, hi, hp⟩⟩
theorem log_det (M M2 A most : Nat) : (∃ n : Nat, n ≤ most ∧ pw2 M M2 n = A ∧ (∀ m, m < n → pw2 M M2 m ≠ A) ∧ ∀ r c, LogP M M2 A most r c → r = (n : Int) ∧ c = 0) ∨ ((∀ m, m ≤ most → pw2 M M2 m ≠ A) ∧ ∀ r c, LogP M M2 A most r c → r = 0 ∧ c = 9) := by
  by_cases h : ∃ n, n ≤ most ∧ pw2 M M2 n = A
  · obtain ⟨n0, hn0, hA0⟩ := h
    obtain ⟨n, hn, hA, hl⟩ := least_of (fun n => pw2 M M2 n = A) n0 hA0
    have one : ∀ n' : Nat, pw2 M M2 n' = A → (∀ m, m < n' → pw2 M M2 m ≠ A) → n' = n := fun n' h1 h2 => by
      rcases Nat.lt_trichotomy n' n with g | g | g
      · exact absurd h1 (hl n' g)
      · exact g
      · exact absurd hA (h2 n g)
    refine Or.inl ⟨n, by omega, hA, hl, fun r c hp => ?_⟩
    rcases hp with ⟨n', _, h1, h2, hr, hc⟩ | ⟨h1, _, _⟩
    · rw [one n' h1 h2] at hr; exact ⟨hr, hc⟩
    · exact absurd hA (h1 n (by omega))
  · refine Or.inr ⟨fun m hm hA => h ⟨m, hm, hA⟩, fun r c hp => ?_⟩
    rcases hp with ⟨n', h0, h1, h2, hr, hc⟩ | ⟨h1, hr, hc⟩
    · exact absurd ⟨n', h0, h1⟩ h
    · exact ⟨hr, hc⟩
/-- Signs do not matter to squares. -/
theorem sgn_sq {M M2 x y : Nat} (e : M2 = 2 * M + 1) (hx : x < M2) (hy : y < M2) (h : sgn M M2 x = sgn M M2 y) : x * x % M2 = y * y % M2 := by
  have hc : x = y ∨ x + y = M2 := by
    unfold sgn at h
    split at h <;> split at h <;> omega
  rcases hc with rfl | hc
  · rfl
  · have sq : ∀ a t : Nat, (a + t) * (a + t) = a * a + (a + t + a) * t := fun a t => by
      simp only [Nat.mul_add, Nat.add_mul]
      rw [Nat.mul_comm t a]
      omega
    rcases Nat.le_total y x with g | g
    · obtain ⟨t, rfl⟩ : ∃ t, x = y + t := ⟨x - y, by omega⟩
      rw [sq, hc, Nat.add_mul_mod_self_left]
    · obtain ⟨t, rfl⟩ : ∃ t, y = x + t := ⟨y - x, by omega⟩
      rw [sq, show x + t + x = M2 by omega, Nat.add_mul_mod_self_left]
theorem inv_pow {p a : Nat} (hp : IsP p) (ha : ¬ p ∣ a) : a ^ (p - 2) * a % p = 1 := by
  have := hp.1
  rw [← Nat.pow_succ, show (p - 2).succ = p - 1 by omega]
  exact hp.fermat1 ha
theorem cancel_mod {p a b c : Nat} (hp : IsP p) (ha : ¬ p ∣ a) (h : a * b % p = a * c % p) : b % p = c % p := by
  have i := inv_pow hp ha
  have g : ∀ x, x % p = a ^ (p - 2) * (a * x % p) % p := fun x => by
    rw [Nat.mul_mod_mod, ← Nat.mul_assoc, Nat.mul_mod, i, Nat.one_mul, Nat.mod_mod]
  rw [g b, g c, h]
/-- The base's powers are alike only where the numbers are alike but for the order. -/
theorem pw2_inj {M M2 f n : Nat} (hp : IsP M2) (hq : IsP M) (e : M2 = 2 * M + 1) (hfn : f ≤ n) (h : pw2 M M2 f = pw2 M M2 n) : f % M = n % M := by
  have hM := hq.1
  obtain ⟨d, rfl⟩ : ∃ d, n = f + d := ⟨n - f, by omega⟩
  have n2 : ¬ M2 ∣ 2 := hp.not_dvd_lt (by omega) (by omega)
  have q := sgn_sq e (Nat.mod_lt _ (by omega)) (Nat.mod_lt _ (by omega)) h
  rw [← Nat.mul_mod, ← Nat.mul_mod] at q
  have nf : ¬ M2 ∣ 2 ^ f * 2 ^ f := fun g => by
    rcases hp.euclid g with g | g <;> exact hp.not_dvd_pow n2 f g
  have q2 : (2 ^ f * 2 ^ f) * (2 ^ d * 2 ^ d) % M2 = (2 ^ f * 2 ^ f) * 1 % M2 := by
    rw [Nat.mul_one, q, Nat.pow_add, Nat.mul_mul_mul_comm]
  have q3 := cancel_mod hp nf q2
  rw [Nat.mod_eq_of_lt (show 1 < M2 by omega)] at q3
  by_cases hd : M ∣ d
  · obtain ⟨t, rfl⟩ := hd
    exact (Nat.add_mul_mod_self_left _ _ _).symm
  · exfalso
    have i := inv_pow hq hd
    obtain ⟨E, hE⟩ : ∃ E, E = d ^ (M - 2) := ⟨_, rfl⟩
    rw [← hE] at i
    obtain ⟨t, ht⟩ : ∃ t, E * d = M * t + 1 := ⟨E * d / M, by have := Nat.div_add_mod (E * d) M; omega⟩
    have a1 : (2 ^ d * 2 ^ d) ^ E % M2 = 1 := by rw [Nat.pow_mod, q3, Nat.one_pow, Nat.mod_eq_of_lt (by omega)]
    have ex : (d + d) * E = 2 + (M2 - 1) * t := by
      rw [show M2 - 1 = M + M by omega, Nat.add_mul, Nat.add_mul, Nat.mul_comm d E]
      omega
    rw [← Nat.pow_add, ← Nat.pow_mul, ex, Nat.pow_add, Nat.pow_mul, Nat.mul_mod, Nat.pow_mod (2 ^ (M2 - 1)), hp.fermat1 n2, Nat.one_pow, Nat.mod_eq_of_lt (show 1 < M2 by omega), Nat.mul_one, Nat.mod_mod, Nat.mod_eq_of_lt (show 2 ^ 2 < M2 by omega)] at a1
    omega
section
variable {z : Int} {G : Array Value} {S Wd M low one sq Ri Wd2 M2 low2 one2 sq2 Ri2 : Nat}
theorem log_bad (k : KD z G S Wd M low one sq Ri Wd2 M2 low2 one2 sq2 Ri2) (w : World) {a : ByteArray} {most : Int} (h : isEl S M a = false) :
    Calls Try.prog 22 #[.int .i64 z, .string a, .int .i64 most] w fun e w' => e = .returned (.tuple #[.int .i64 0, .int .i64 7]) ∧ Below w.heap.size w w' :=
  log_face (fun W1 m1 jm hb => withOneI_any (fun W2 p1 p2 p3 j1 j2 j3 hb2 => on46_99 k.hG k.hi k.h1 k.CG (fun W3 g hI hb3 => clos99_61_bad rfl (by decide) (j1.of_below hb3) (j2.of_below hb3) (fun W4 hb4 => elem_nay k ((k.gh W3 g hI).of_below hb4) h))))
theorem log_far (k : KD z G S Wd M low one sq Ri Wd2 M2 low2 one2 sq2 Ri2) (w : World) {a : ByteArray} {most : Int} (h : isEl S M a = true) (hf : most < 0 ∨ 1048576 < most) :
    Calls Try.prog 22 #[.int .i64 z, .string a, .int .i64 most] w fun e w' => e = .returned (.tuple #[.int .i64 0, .int .i64 4]) ∧ Below w.heap.size w w' :=
  log_face (fun W1 m1 jm hb => withOneI_any (fun W2 p1 p2 p3 j1 j2 j3 hb2 => on46_99 k.hG k.hi k.h1 k.CG (fun W3 g hI hb3 => clos99_61_81 (j1.of_below hb3) (j2.of_below hb3) (j3.of_below hb3) (fun W4 hb4 => elem_yes k ((k.gh W3 g hI).of_below hb4) h)
    (fun W4 hb4 => clos81_far (((jm.of_below hb2).of_below hb3).of_below hb4) hf))))
theorem log_go (k : KD z G S Wd M low one sq Ri Wd2 M2 low2 one2 sq2 Ri2) (hp : IsP M2) (w : World) {a : ByteArray} {most : Nat} (h : isEl S M a = true) (m9 : most ≤ 1048576) {r c : Int} (hd : ∀ r' c', LogP M M2 (numS a) most r' c' → r' = r ∧ c' = c) :
    Calls Try.prog 22 #[.int .i64 z, .string a, .int .i64 (most : Int)] w fun e w' => e = .returned (.tuple #[.int .i64 r, .int .i64 c]) ∧ Below w.heap.size w w' :=
  log_face (fun W1 m1 jm hb => withOneI_any (fun W2 p1 p2 p3 j1 j2 j3 hb2 => on46_99 k.hG k.hi k.h1 k.CG (fun W3 g hI hb3 => clos99_61_81 (j1.of_below hb3) (j2.of_below hb3) (j3.of_below hb3) (fun W4 hb4 => elem_yes k ((k.gh W3 g hI).of_below hb4) h)
    (fun W4 hb4 => clos81_go (((jm.of_below hb2).of_below hb3).of_below hb4) (by omega) (by omega) (fun W5 hb5 => (log_any k hp (((k.gh W3 g hI).of_below hb4).of_below hb5) (isEl_le h) m9).mono (by
      rintro e w' ⟨⟨r', c', rfl, hl⟩, hb⟩
      obtain ⟨rfl, rfl⟩ := hd r' c' hl
      exact ⟨rfl, hb⟩))))))
theorem memb_call (k : KD z G S Wd M low one sq Ri Wd2 M2 low2 one2 sq2 Ri2) (w : World) (s : ByteArray) : Calls Try.prog 14 #[.int .i64 z, .string s] w fun e w' => e = .returned (.bool (isEl S M s)) ∧ Below w.heap.size w w' :=
  member_face (c := if isEl S M s then 0 else 7) (by cases isEl S M s <;> rfl) (fun W cp hc => on57_60 hc k.hG k.hi k.h1 k.CG (fun W g hI hc => clos60 hc (fun W' hb => elemA ((k.gh W g hI).of_below hb) s k.hS k.big)))
theorem bas_call (k : KD z G S Wd M low one sq Ri Wd2 M2 low2 one2 sq2 Ri2) (w : World) : Calls Try.prog 13 #[.int .i64 z] w fun e w' => e = .returned (.tuple #[.string (TX S 2), .int .i64 0]) ∧ Below w.heap.size w w' :=
  base_call (on48_51 k.hG k.hi k.h1 k.CG (fun W g h => base_any (k.gh W g h).c k.hS))
theorem KD.ee (k : KD z G S Wd M low one sq Ri Wd2 M2 low2 one2 sq2 Ri2) (hs : M < 256 ^ S) {n : Nat} (h0 : n ≠ 0) (h : n ≤ M) : isEl S M (TX S n) = true := decide_eq_true ⟨size_TX S n, by rw [numS_TX (Nat.lt_of_le_of_lt h hs)]; exact h0, by rw [numS_TX (Nat.lt_of_le_of_lt h hs)]; exact h⟩
theorem KD.en (k : KD z G S Wd M low one sq Ri Wd2 M2 low2 one2 sq2 Ri2) (hs : M < 256 ^ S) {n : Nat} (h : n ≤ M) : numS (TX S n) = n := numS_TX (Nat.lt_of_le_of_lt h hs)
theorem numN (k : KD z G S Wd M low one sq Ri Wd2 M2 low2 one2 sq2 Ri2) (w : World) (n : Nat) (h : n ≤ 1048576) : Calls Try.prog 8 #[.int .i64 z, .int .i64 (n : Int)] w fun e w' => e = .returned (.tuple #[.string (TX S (n % M)), .int .i64 0]) ∧ Below w.heap.size w w' := by
  have q := num_call k w (n : Int) (by omega) (by omega)
  have e : numF M (n : Int) = n % M := by
    unfold numF
    rw [if_neg (by omega), Int.toNat_natCast]
  rw [e] at q
  exact q
theorem powN (k : KD z G S Wd M low one sq Ri Wd2 M2 low2 one2 sq2 Ri2) (hp : IsP M2) (hs : M < 256 ^ S) (w : World) (n : Nat) : Calls Try.prog 21 #[.int .i64 z, .string (TX S 2), .string (TX S (n % M))] w fun e w' => e = .returned (.tuple #[.string (TX S (pw2 M M2 n)), .int .i64 0]) ∧ Below w.heap.size w w' := by
  have hm := k.m2
  have e2 := k.m21
  have hl : n % M < M := Nat.mod_lt _ (by omega)
  have q := power_yes k w (k.ee hs (n := 2) (by omega) hm) (k.sc hl)
  rw [k.en hs hm, k.nu hl, ← sgn_exp hp e2 (by omega) (by omega) (by omega) n] at q
  exact q
theorem finds_kind (k : KD z G S Wd M low one sq Ri Wd2 M2 low2 one2 sq2 Ri2) (hp : IsP M2) (hq : IsP M) (hs : M < 256 ^ S) (w : World) (n : Int) (a : ByteArray) (most : Int) :
    Calls Try.prog 5 #[.int .i64 z, .int .i64 n, .string a, .int .i64 most] w fun e w' => e = .returned (.bool true) ∧ Below w.heap.size w w' := by
  have BA := fun W => bas_call k W
  have e2 := k.m21
  have hm := k.m2
  rcases Int.lt_or_le most 0 with h0 | h0
  · exact fin_m0 BA h0
  rcases Int.lt_or_le 1048576 most with h1 | h1
  · exact fin_m1 BA h0 h1
  rcases Int.lt_or_le n 0 with h2 | h2
  · exact fin_n0 BA h0 h1 h2
  rcases Int.lt_or_le most n with h3 | h3
  · exact fin_n1 BA h0 h1 h2 h3
  obtain ⟨mm, rfl⟩ : ∃ m : Nat, most = (m : Int) := ⟨most.toNat, by omega⟩
  obtain ⟨nn, rfl⟩ : ∃ m : Nat, n = (m : Int) := ⟨n.toNat, by omega⟩
  have m9 : mm ≤ 1048576 := by omega
  have n9 : nn ≤ mm := by omega
  have pl : pw2 M M2 nn ≤ M := sgn_le e2 (k.mod2 _)
  have pp : pw2 M M2 nn ≠ 0 := sgn_pos e2 (fun g => hp.not_dvd_pow (hp.not_dvd_lt (by omega) (show 2 < M2 by omega)) nn (Nat.dvd_of_mod_eq_zero g)) (k.mod2 _)
  rcases log_det M M2 (pw2 M M2 nn) mm with ⟨f, f1, f2, f3, f4⟩ | ⟨f1, _⟩
  · have fn : f ≤ nn := Nat.le_of_not_lt fun g => f3 nn g rfl
    have fm := pw2_inj hp hq e2 fn f2
    have N1 := fun W => numN k W nn (by omega)
    have N2 : ∀ W, Calls Try.prog 8 #[.int .i64 z, .int .i64 (f : Int)] W fun e w' => e = .returned (.tuple #[.string (TX S (nn % M)), .int .i64 0]) ∧ Below W.heap.size W w' := fun W => by
      have q := numN k W f (by omega)
      rw [fm] at q
      exact q
    have P1 := fun W => powN k hp hs W nn
    have L1 := fun W => log_go k hp W (k.ee hs pp pl) m9 (r := (f : Int)) (c := 0) (by rw [k.en hs pl]; exact f4)
    have MBx : ∀ t s, isEl S M s = t → ∀ W, Calls Try.prog 14 #[.int .i64 z, .string s] W fun e w' => e = .returned (.bool t) ∧ Below W.heap.size W w' := fun t s h W => by have q := memb_call k W s; rw [h] at q; exact q
    cases ha : isEl S M a
    · exact fin_bad BA h0 h1 h2 h3 N1 P1 L1 (by omega) (by omega) N2 (fun W => log_bad k W ha) (MBx _ a ha)
    · rcases log_det M M2 (numS a) mm with ⟨g, g1, g2, g3, g4⟩ | ⟨_, g4⟩
      · exact fin_ok BA h0 h1 h2 h3 N1 P1 L1 (by omega) (by omega) N2 (fun W => log_go k hp W ha m9 g4) (fun W => numN k W g (by omega)) (fun W => by
          have q := powN k hp hs W g
          rw [g2, TX_numS (isEl_size ha)] at q
          exact q) (by omega)
      · exact fin_not BA h0 h1 h2 h3 N1 P1 L1 (by omega) (by omega) N2 (fun W => log_go k hp W ha m9 g4)
  · exact absurd rfl (f1 nn n9)
end
theorem groupFinds_walk (z n : Int) (a : ByteArray) (most : Int) (w : World) : Calls Try.prog 5 #[.int .i64 z, .int .i64 n, .string a, .int .i64 most] w fun e w' => e = .returned (.bool true) ∧ Below w.heap.size w w' := by
  by_cases z1 : z = 1
  · subst z1; exact finds_kind kd1 prime_p1 prime_q1 (by decide +kernel) w n a most
  by_cases z2 : z = 2
  · subst z2; exact finds_kind kd2 prime_p2 prime_q2 (by decide +kernel) w n a most
  by_cases z3 : z = 3
  · subst z3; exact finds_kind kd3 prime_p3 prime_q3 (by decide +kernel) w n a most
  have G := fun W => ground0 W z (beq_eq_false_iff_ne.2 z1) (beq_eq_false_iff_ne.2 z2) (beq_eq_false_iff_ne.2 z3)
  exact fin_none (fun W => base_call (on48_no 36 rfl size70 (by kernel_rfl) G))
end Go.Proofs.Ytckfdpiohkggaab
