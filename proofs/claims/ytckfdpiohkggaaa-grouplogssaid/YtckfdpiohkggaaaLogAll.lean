/- GroupLogs: the closures, the law's walk, every kind. -/
import Derived.Test.YtckfdpiohkggaaaClos
import Derived.Test.YtckfdpiohkggaaaTells
import Derived.Test.YtckfdpiohkggaaaIsRef
import Derived.Test.YtckfdpiohkggaaaLog
import Derived.Test.YtckfdpiohkggaaaRefLog
set_option linter.unusedSimpArgs false
set_option linter.unusedVariables false
namespace Go.Proofs.Ytckfdpiohkggaaa
open Go.RowKit Go.Deep Go.PlainAid


set_option maxRecDepth 100000 in
set_option maxHeartbeats 2000000 in
theorem on46_99 {w : World} {z : Int} {G : Array Value} {p1 p2 p3 : Nat} {t : Int} {c : Int} (hG : gz.size = G.size) (hi : (Try.prog.info? 70).map (·.size) = some G.size) (h1 : G.all (·.oneCell') = true)
    (CG : Hid (∀ W, Calls Try.prog 83 #[.int .i64 z] W fun e w' => e = .returned (.tuple #[.agg G, .bool true]) ∧ Below W.heap.size W w')) (HF : Hid (∀ W g, IHolds W g 70 G.toList → Below w.heap.size w W → Calls Try.prog 99 #[.pointer (some ⟨g, 0, none⟩), .pointer (some ⟨p1, 0, none⟩), .pointer (some ⟨p2, 0, none⟩), .pointer (some ⟨p3, 0, none⟩)] W fun e w' => e = .returned (.tuple #[.int .i64 t, .int .i64 c]) ∧ Below W.heap.size W w')) :
    Calls Try.prog 46 #[.int .i64 z, .func (.func 99) #[] #[.pointer (some ⟨p1, 0, none⟩), .pointer (some ⟨p2, 0, none⟩), .pointer (some ⟨p3, 0, none⟩)]] w fun e w' => e = .returned (.tuple #[.int .i64 t, .int .i64 c]) ∧ Below w.heap.size w w' := by
  go_enter Try.func46, Try.ntmps46
  go_wp2_with fail
  refine (CG.out w).mono ?_
  rintro e U1 ⟨rfl, hb⟩
  have B : Hid (Below w.heap.size w U1) := hb
  clear hb
  have hg : (U1.alloc (.cells gz 70)).heap[U1.heap.size]? = some (.cells gz 70 (0, 0)) := by
    have h := IHolds.new U1 70 gz.toList
    unfold IHolds at h
    rw [Array.toArray_toList] at h
    exact h
  have J : Hid (IHolds (U1.alloc (.cells G 70)) U1.heap.size 70 G.toList) := by
    have h := IHolds.new U1 70 G.toList
    rw [Array.toArray_toList] at h
    exact h
  replace B := aB B (nB U1 (.cells G 70))
  go_wp2_with (refine wpList_store_row rfl 70 (.tmp 6) (.tmp 12) rfl U1.heap.size G rfl rfl 70 gz hg hi hG h1 ?_; rw [World.setRow_alloc_new]; clear hg)
  generalize U1.alloc (.cells G 70) = U2 at *
  refine (HF.out U2 _ J.out B.out).mono ?_
  rintro e U3 ⟨rfl, hb⟩
  replace B := aB B hb
  clear hb
  go_wp2_with fail
  go_ret2
  exact ⟨rfl, B.out⟩
set_option maxRecDepth 100000 in
set_option maxHeartbeats 2000000 in
theorem on46_99_no {w : World} {z : Int} {G : Array Value} {p1 p2 p3 : Nat}  (hG : gz.size = G.size) (hi : (Try.prog.info? 70).map (·.size) = some G.size) (h1 : G.all (·.oneCell') = true)
    (CG : Hid (∀ W, Calls Try.prog 83 #[.int .i64 z] W fun e w' => e = .returned (.tuple #[.agg G, .bool false]) ∧ Below W.heap.size W w'))  :
    Calls Try.prog 46 #[.int .i64 z, .func (.func 99) #[] #[.pointer (some ⟨p1, 0, none⟩), .pointer (some ⟨p2, 0, none⟩), .pointer (some ⟨p3, 0, none⟩)]] w fun e w' => e = .returned (.tuple #[.int .i64 0, .int .i64 1]) ∧ Below w.heap.size w w' := by
  go_enter Try.func46, Try.ntmps46
  go_wp2_with fail
  refine (CG.out w).mono ?_
  rintro e U1 ⟨rfl, hb⟩
  have B : Hid (Below w.heap.size w U1) := hb
  clear hb
  have hg : (U1.alloc (.cells gz 70)).heap[U1.heap.size]? = some (.cells gz 70 (0, 0)) := by
    have h := IHolds.new U1 70 gz.toList
    unfold IHolds at h
    rw [Array.toArray_toList] at h
    exact h
  have J : Hid (IHolds (U1.alloc (.cells G 70)) U1.heap.size 70 G.toList) := by
    have h := IHolds.new U1 70 G.toList
    rw [Array.toArray_toList] at h
    exact h
  replace B := aB B (nB U1 (.cells G 70))
  go_wp2_with (refine wpList_store_row rfl 70 (.tmp 6) (.tmp 12) rfl U1.heap.size G rfl rfl 70 gz hg hi hG h1 ?_; rw [World.setRow_alloc_new]; clear hg)
  go_ret2
  exact ⟨rfl, B.out⟩
set_option maxRecDepth 100000 in
set_option maxHeartbeats 2000000 in
theorem clos99_61_81 {w : World} {g p1 p2 p3 m1 : Nat} {s : ByteArray} {t : Int} {z0 z1 z2 z3 : Nat} {c : Int} (J1 : Hid (IHolds w p1 99 [.func (.func 61) #[] #[]])) (J2 : Hid (IHolds w p2 9 [.string s])) (J3 : Hid (IHolds w p3 94 [.func (.func 81) #[] #[.pointer (some ⟨m1, 0, none⟩)]]))
    (C1 : Hid (∀ W, Below w.heap.size w W → Calls Try.prog 61 #[.pointer (some ⟨g, 0, none⟩), .string s] W fun e w' => e = .returned (.tuple #[.agg #[U z0, U z1, U z2, U z3], .int .i64 0]) ∧ Below W.heap.size W w')) (C2 : Hid (∀ W, Below w.heap.size w W → Calls Try.prog 81 #[.pointer (some ⟨g, 0, none⟩), .agg #[U z0, U z1, U z2, U z3], .pointer (some ⟨m1, 0, none⟩)] W fun e w' => e = .returned (.tuple #[.int .i64 t, .int .i64 c]) ∧ Below W.heap.size W w')) :
    Calls Try.prog 99 #[.pointer (some ⟨g, 0, none⟩), .pointer (some ⟨p1, 0, none⟩), .pointer (some ⟨p2, 0, none⟩), .pointer (some ⟨p3, 0, none⟩)] w fun e w' => e = .returned (.tuple #[.int .i64 t, .int .i64 c]) ∧ Below w.heap.size w w' := by
  have B : Hid (Below w.heap.size w w) := Below.refl _ _
  have zs0 : w.cell? ⟨p1, 0, none⟩ = some (.func (.func 61) #[] #[]) := J1.out.cell 0 (by simp)
  have zs1 : w.cell? ⟨p2, 0, none⟩ = some (.string s) := J2.out.cell 0 (by simp)
  go_enter Try.func99, Try.ntmps99
  go_wp2_with fail
  clear zs0 zs1
  refine (C1.out w B.out).mono ?_
  rintro e U1 ⟨rfl, hb⟩
  replace B := aB B hb
  replace J1 := aJ J1 hb
  replace J2 := aJ J2 hb
  replace J3 := aJ J3 hb
  clear hb
  have hb := nB U1 (.cells #[U z0, U z1, U z2, U z3] 66)
  replace B := aB B hb
  replace J3 := aJ J3 hb
  clear hb J1 J2
  have zs0 : (U1.alloc (.cells #[U z0, U z1, U z2, U z3] 66)).cell? ⟨p3, 0, none⟩ = some (.func (.func 81) #[] #[.pointer (some ⟨m1, 0, none⟩)]) := J3.out.cell 0 (by simp)
  go_wp2_with fail
  clear zs0
  refine (C2.out (U1.alloc (.cells #[U z0, U z1, U z2, U z3] 66)) B.out).mono ?_
  rintro e V9 ⟨rfl, hb⟩
  replace B := aB B hb
  clear hb
  go_wp2_with fail
  go_ret2
  exact ⟨rfl, B.out⟩
set_option maxRecDepth 100000 in
set_option maxHeartbeats 2000000 in
theorem clos99_61_bad {w : World} {g p1 p2 p3  : Nat} {s : ByteArray}  {z0 z1 z2 z3 : Nat} {c : Int} (hc : (c != 0) = true) (hc1 : c ≠ 0) (J1 : Hid (IHolds w p1 99 [.func (.func 61) #[] #[]])) (J2 : Hid (IHolds w p2 9 [.string s])) 
    (C1 : Hid (∀ W, Below w.heap.size w W → Calls Try.prog 61 #[.pointer (some ⟨g, 0, none⟩), .string s] W fun e w' => e = .returned (.tuple #[.agg #[U z0, U z1, U z2, U z3], .int .i64 c]) ∧ Below W.heap.size W w'))  :
    Calls Try.prog 99 #[.pointer (some ⟨g, 0, none⟩), .pointer (some ⟨p1, 0, none⟩), .pointer (some ⟨p2, 0, none⟩), .pointer (some ⟨p3, 0, none⟩)] w fun e w' => e = .returned (.tuple #[.int .i64 0, .int .i64 c]) ∧ Below w.heap.size w w' := by
  have B : Hid (Below w.heap.size w w) := Below.refl _ _
  have zs0 : w.cell? ⟨p1, 0, none⟩ = some (.func (.func 61) #[] #[]) := J1.out.cell 0 (by simp)
  have zs1 : w.cell? ⟨p2, 0, none⟩ = some (.string s) := J2.out.cell 0 (by simp)
  go_enter Try.func99, Try.ntmps99
  go_wp2_with fail
  clear zs0 zs1
  refine (C1.out w B.out).mono ?_
  rintro e U1 ⟨rfl, hb⟩
  replace B := aB B hb
  replace J1 := aJ J1 hb
  replace J2 := aJ J2 hb
  clear hb
  replace B := aB B (nB U1 (.cells #[U z0, U z1, U z2, U z3] 66))
  go_wp2_with fail
  go_ret2
  exact ⟨rfl, B.out⟩
set_option maxRecDepth 100000 in
set_option maxHeartbeats 2000000 in
theorem clos81_far {w : World} {g m1 : Nat} {x0 x1 x2 x3 : Nat} {most : Int} (Jm : Hid (IHolds w m1 3 [.int .i64 most])) (hf : most < 0 ∨ 1048576 < most) :
    Calls Try.prog 81 #[.pointer (some ⟨g, 0, none⟩), .agg #[U x0, U x1, U x2, U x3], .pointer (some ⟨m1, 0, none⟩)] w fun e w' => e = .returned (.tuple #[.int .i64 0, .int .i64 4]) ∧ Below w.heap.size w w' := by
  have hb := nB w (.cells #[U x0, U x1, U x2, U x3] 66)
  have B : Hid (Below w.heap.size w (w.alloc (.cells #[U x0, U x1, U x2, U x3] 66))) := hb
  have Jx : Hid (IHolds (w.alloc (.cells #[U x0, U x1, U x2, U x3] 66)) w.heap.size 66 [U x0, U x1, U x2, U x3]) := IHolds.new w 66 _
  replace Jm := aJ Jm hb
  clear hb
  have zm : (w.alloc (.cells #[U x0, U x1, U x2, U x3] 66)).cell? ⟨m1, 0, none⟩ = some (.int .i64 most) := Jm.out.cell 0 (by simp)
  have zx0 : (w.alloc (.cells #[U x0, U x1, U x2, U x3] 66)).cell? ⟨w.heap.size, 0, none⟩ = some (U x0) := Jx.out.cell 0 (by simp)
  have zx1 : (w.alloc (.cells #[U x0, U x1, U x2, U x3] 66)).cell? ⟨w.heap.size, 1, none⟩ = some (U x1) := Jx.out.cell 1 (by simp)
  have zx2 : (w.alloc (.cells #[U x0, U x1, U x2, U x3] 66)).cell? ⟨w.heap.size, 2, none⟩ = some (U x2) := Jx.out.cell 2 (by simp)
  have zx3 : (w.alloc (.cells #[U x0, U x1, U x2, U x3] 66)).cell? ⟨w.heap.size, 3, none⟩ = some (U x3) := Jx.out.cell 3 (by simp)
  go_enter Try.func81, Try.ntmps81
  rcases Int.lt_or_le most 0 with h0 | h0
  · go_wp2_with fail
    go_ret2
    exact ⟨rfl, B.out⟩
  · have h1 : 1048576 < most := by omega
    go_wp2_with fail
    go_ret2
    exact ⟨rfl, B.out⟩
set_option maxRecDepth 100000 in
set_option maxHeartbeats 2000000 in
theorem clos81_go {w : World} {g m1 : Nat} {x0 x1 x2 x3 : Nat} {most t c : Int} (Jm : Hid (IHolds w m1 3 [.int .i64 most])) (h0 : 0 ≤ most) (h1 : most ≤ 1048576)
    (C : Hid (∀ W, Below w.heap.size w W → Calls Try.prog 82 #[.pointer (some ⟨g, 0, none⟩), .agg #[U x0, U x1, U x2, U x3], .int .i64 most] W fun e w' => e = .returned (.tuple #[.int .i64 t, .int .i64 c]) ∧ Below W.heap.size W w')) :
    Calls Try.prog 81 #[.pointer (some ⟨g, 0, none⟩), .agg #[U x0, U x1, U x2, U x3], .pointer (some ⟨m1, 0, none⟩)] w fun e w' => e = .returned (.tuple #[.int .i64 t, .int .i64 c]) ∧ Below w.heap.size w w' := by
  have hb := nB w (.cells #[U x0, U x1, U x2, U x3] 66)
  have B : Hid (Below w.heap.size w (w.alloc (.cells #[U x0, U x1, U x2, U x3] 66))) := hb
  have Jx : Hid (IHolds (w.alloc (.cells #[U x0, U x1, U x2, U x3] 66)) w.heap.size 66 [U x0, U x1, U x2, U x3]) := IHolds.new w 66 _
  replace Jm := aJ Jm hb
  clear hb
  have zm : (w.alloc (.cells #[U x0, U x1, U x2, U x3] 66)).cell? ⟨m1, 0, none⟩ = some (.int .i64 most) := Jm.out.cell 0 (by simp)
  have zx0 : (w.alloc (.cells #[U x0, U x1, U x2, U x3] 66)).cell? ⟨w.heap.size, 0, none⟩ = some (U x0) := Jx.out.cell 0 (by simp)
  have zx1 : (w.alloc (.cells #[U x0, U x1, U x2, U x3] 66)).cell? ⟨w.heap.size, 1, none⟩ = some (U x1) := Jx.out.cell 1 (by simp)
  have zx2 : (w.alloc (.cells #[U x0, U x1, U x2, U x3] 66)).cell? ⟨w.heap.size, 2, none⟩ = some (U x2) := Jx.out.cell 2 (by simp)
  have zx3 : (w.alloc (.cells #[U x0, U x1, U x2, U x3] 66)).cell? ⟨w.heap.size, 3, none⟩ = some (U x3) := Jx.out.cell 3 (by simp)
  go_enter Try.func81, Try.ntmps81
  go_wp2_with fail
  clear zm zx0 zx1 zx2 zx3
  refine (C.out (w.alloc (.cells #[U x0, U x1, U x2, U x3] 66)) B.out).mono ?_
  rintro e V9 ⟨rfl, hb⟩
  replace B := aB B hb
  clear hb
  go_wp2_with fail
  go_ret2
  exact ⟨rfl, B.out⟩
set_option maxRecDepth 100000 in
set_option maxHeartbeats 2000000 in
theorem withOneI_any {w : World} {z c t : Int} {m1 : Nat} {a : ByteArray}
    (C : Hid (∀ W p1 p2 p3, IHolds W p1 99 [.func (.func 61) #[] #[]] → IHolds W p2 9 [.string a] → IHolds W p3 94 [.func (.func 81) #[] #[.pointer (some ⟨m1, 0, none⟩)]] → Below w.heap.size w W → Calls Try.prog 46 #[.int .i64 z, .func (.func 99) #[] #[.pointer (some ⟨p1, 0, none⟩), .pointer (some ⟨p2, 0, none⟩), .pointer (some ⟨p3, 0, none⟩)]] W fun e w' => e = .returned (.tuple #[.int .i64 t, .int .i64 c]) ∧ Below W.heap.size W w')) :
    Calls Try.prog 80 #[.int .i64 z, .func (.func 61) #[] #[], .string a, .func (.func 81) #[] #[.pointer (some ⟨m1, 0, none⟩)]] w fun e w' => e = .returned (.tuple #[.int .i64 t, .int .i64 c]) ∧ Below w.heap.size w w' := by
  have Jp1 : Hid (IHolds (((w.alloc (.cells #[.func (.func 61) #[] #[]] 99)).alloc (.cells #[.string a] 9)).alloc (.cells #[.func (.func 81) #[] #[.pointer (some ⟨m1, 0, none⟩)]] 94)) (w.heap.size) 99 [.func (.func 61) #[] #[]]) := by
    have q := IHolds.new w 99 [.func (.func 61) #[] #[]]
    exact ((q.alloc _).alloc _)
  have Jp2 : Hid (IHolds (((w.alloc (.cells #[.func (.func 61) #[] #[]] 99)).alloc (.cells #[.string a] 9)).alloc (.cells #[.func (.func 81) #[] #[.pointer (some ⟨m1, 0, none⟩)]] 94)) (w.heap.size + 1) 9 [.string a]) := by
    have q := IHolds.new (w.alloc (.cells #[.func (.func 61) #[] #[]] 99)) 9 [.string a]
    simp only [World.size_alloc, Nat.add_assoc, Nat.reduceAdd] at q
    exact (q.alloc _)
  have Jp3 : Hid (IHolds (((w.alloc (.cells #[.func (.func 61) #[] #[]] 99)).alloc (.cells #[.string a] 9)).alloc (.cells #[.func (.func 81) #[] #[.pointer (some ⟨m1, 0, none⟩)]] 94)) (w.heap.size + 2) 94 [.func (.func 81) #[] #[.pointer (some ⟨m1, 0, none⟩)]]) := by
    have q := IHolds.new ((w.alloc (.cells #[.func (.func 61) #[] #[]] 99)).alloc (.cells #[.string a] 9)) 94 [.func (.func 81) #[] #[.pointer (some ⟨m1, 0, none⟩)]]
    simp only [World.size_alloc, Nat.add_assoc, Nat.reduceAdd] at q
    exact q
  have B : Hid (Below w.heap.size w (((w.alloc (.cells #[.func (.func 61) #[] #[]] 99)).alloc (.cells #[.string a] 9)).alloc (.cells #[.func (.func 81) #[] #[.pointer (some ⟨m1, 0, none⟩)]] 94))) := ((((Below.refl _ w).alloc (Nat.le_refl _) _).alloc (by simp only [World.size_alloc]; omega) _).alloc (by simp only [World.size_alloc]; omega) _)
  go_enter Try.func80, Try.ntmps80
  go_wp2_with fail
  generalize (((w.alloc (.cells #[.func (.func 61) #[] #[]] 99)).alloc (.cells #[.string a] 9)).alloc (.cells #[.func (.func 81) #[] #[.pointer (some ⟨m1, 0, none⟩)]] 94)) = V0 at *
  refine (C.out V0 _ _ _ Jp1.out Jp2.out Jp3.out B.out).mono ?_
  rintro e V1 ⟨rfl, hb⟩
  replace B := aB B hb
  clear hb
  go_wp2_with fail
  go_ret2
  exact ⟨rfl, B.out⟩
set_option maxRecDepth 100000 in
set_option maxHeartbeats 2000000 in
theorem log_face {w : World} {z c t : Int} {most : Int} {a : ByteArray}
    (C : Hid (∀ W m1, IHolds W m1 3 [.int .i64 most] → Below w.heap.size w W → Calls Try.prog 80 #[.int .i64 z, .func (.func 61) #[] #[], .string a, .func (.func 81) #[] #[.pointer (some ⟨m1, 0, none⟩)]] W fun e w' => e = .returned (.tuple #[.int .i64 t, .int .i64 c]) ∧ Below W.heap.size W w')) :
    Calls Try.prog 41 #[.int .i64 z, .string a, .int .i64 most] w fun e w' => e = .returned (.tuple #[.int .i64 t, .int .i64 c]) ∧ Below w.heap.size w w' := by
  have Jm1 : Hid (IHolds (w.alloc (.cells #[.int .i64 most] 3)) (w.heap.size) 3 [.int .i64 most]) := by
    have q := IHolds.new w 3 [.int .i64 most]
    exact q
  have B : Hid (Below w.heap.size w (w.alloc (.cells #[.int .i64 most] 3))) := ((Below.refl _ w).alloc (Nat.le_refl _) _)
  go_enter Try.func41, Try.ntmps41
  go_wp2_with fail
  generalize (w.alloc (.cells #[.int .i64 most] 3)) = V0 at *
  refine (C.out V0 _ Jm1.out B.out).mono ?_
  rintro e V1 ⟨rfl, hb⟩
  replace B := aB B hb
  clear hb
  go_wp2_with fail
  go_ret2
  exact ⟨rfl, B.out⟩

set_option maxRecDepth 100000 in
set_option maxHeartbeats 1500000 in
theorem lw_no {w : World} {z most r : Int} {a : ByteArray} {q p S A : Nat}
    (F41 : Hid (∀ W, Calls Try.prog 41 #[.int .i64 z, .string a, .int .i64 most] W fun e w' => e = .returned (.tuple #[.int .i64 0, .int .i64 1]) ∧ Below W.heap.size W w'))
    (F9 : Hid (∀ W, Calls Try.prog 9 #[.int .i64 z] W fun e w' => e = .returned (.agg #[.int .i64 0, .slice none 0 0, .slice none 0 0]) ∧ Below W.heap.size W w')) :
    Calls Try.prog 8 #[.int .i64 z, .string a, .int .i64 most] w fun e w' => e = .returned (.bool true) ∧ Below w.heap.size w w' := by
  have B : Hid (Below w.heap.size w w) := Below.refl _ _
  go_enter Try.func8, Try.ntmps8
  go_wp2_with fail
  refine (F41.out w).mono ?_
  rintro e U1 ⟨rfl, hb⟩
  replace B := aB B hb
  clear hb
  go_wp2_with fail
  refine (F9.out U1).mono ?_
  rintro e U2 ⟨rfl, hb⟩
  replace B := aB B hb
  clear hb
  have hb := nB U2 (.cells #[(.int .i64 0), (.slice none 0 0), (.slice none 0 0)] 25)
  have Jg : Hid (IHolds (U2.alloc (.cells #[(.int .i64 0), (.slice none 0 0), (.slice none 0 0)] 25)) U2.heap.size 25 [(.int .i64 0), (.slice none 0 0), (.slice none 0 0)]) := IHolds.new _ _ _
  have ge_g : Hid (w.heap.size ≤ U2.heap.size) := B.out.size
  replace B := aB B hb
  clear hb
  go_wp2_with fail
  generalize (U2.alloc (.cells #[(.int .i64 0), (.slice none 0 0), (.slice none 0 0)] 25)) = U3 at *
  generalize U2.heap.size = b4 at *
  go_ret
  exact ⟨rfl, B.out⟩
set_option maxRecDepth 100000 in
set_option maxHeartbeats 1500000 in
theorem lw_a {w : World} {z most r : Int} {a : ByteArray} {q p S A : Nat}
    (F41 : Hid (∀ W, Calls Try.prog 41 #[.int .i64 z, .string a, .int .i64 most] W fun e w' => e = .returned (.tuple #[.int .i64 0, .int .i64 7]) ∧ Below W.heap.size W w'))
    (hs : ((S : Int) == 0) = false)
    (F9 : Hid (∀ W, Calls Try.prog 9 #[.int .i64 z] W fun e w' => (∃ u1 u2, e = .returned (.agg #[.int .i64 (S : Int), u1, u2]) ∧ NumV w' 65536 q u1 ∧ NumV w' 65536 p u2) ∧ Below W.heap.size W w'))
    (F22a : Hid (∀ W u1 u2, NumV W 65536 q u1 → NumV W 65536 p u2 → Calls Try.prog 22 #[.agg #[.int .i64 (S : Int), u1, u2], .string a] W fun e w' => e = .returned (.bool false) ∧ Below W.heap.size W w')) :
    Calls Try.prog 8 #[.int .i64 z, .string a, .int .i64 most] w fun e w' => e = .returned (.bool true) ∧ Below w.heap.size w w' := by
  have B : Hid (Below w.heap.size w w) := Below.refl _ _
  go_enter Try.func8, Try.ntmps8
  go_wp2_with fail
  refine (F41.out w).mono ?_
  rintro e U1 ⟨rfl, hb⟩
  replace B := aB B hb
  clear hb
  go_wp2_with fail
  refine (F9.out U1).mono ?_
  rintro e U0 ⟨⟨u1, u2, rfl, hv, hv'⟩, hb⟩
  have Nu1 : Hid (NumV U0 65536 q u1) := hv
  have Nu2 : Hid (NumV U0 65536 p u2) := hv'
  clear hv hv'
  replace B := aB B hb
  clear hb
  obtain ⟨u1_a, u1_l, u1_c, rfl⟩ := sN Nu1
  obtain ⟨u2_a, u2_l, u2_c, rfl⟩ := sN Nu2
  have hb := nB U0 (.cells #[(.int .i64 (S : Int)), (.slice u1_a u1_l u1_c), (.slice u2_a u2_l u2_c)] 25)
  have Jg : Hid (IHolds (U0.alloc (.cells #[(.int .i64 (S : Int)), (.slice u1_a u1_l u1_c), (.slice u2_a u2_l u2_c)] 25)) U0.heap.size 25 [(.int .i64 (S : Int)), (.slice u1_a u1_l u1_c), (.slice u2_a u2_l u2_c)]) := IHolds.new _ _ _
  have ge_g : Hid (w.heap.size ≤ U0.heap.size) := B.out.size
  replace B := aB B hb
  replace Nu1 := aN Nu1 hb
  replace Nu2 := aN Nu2 hb
  clear hb
  go_wp2_with fail
  generalize (U0.alloc (.cells #[(.int .i64 (S : Int)), (.slice u1_a u1_l u1_c), (.slice u2_a u2_l u2_c)] 25)) = U2 at *
  generalize U0.heap.size = b3 at *
  refine (F22a.out U2 _ _ Nu1.out Nu2.out).mono ?_
  rintro e U4 ⟨rfl, hb⟩
  replace B := aB B hb
  replace Jg := aJ Jg hb
  replace Nu1 := aN Nu1 hb
  replace Nu2 := aN Nu2 hb
  clear hb
  go_wp2_with fail
  go_ret
  exact ⟨rfl, B.out⟩
set_option maxRecDepth 100000 in
set_option maxHeartbeats 1500000 in
theorem lw_lo {w : World} {z most r : Int} {a : ByteArray} {q p S A : Nat}
    (F41 : Hid (∀ W, Calls Try.prog 41 #[.int .i64 z, .string a, .int .i64 most] W fun e w' => e = .returned (.tuple #[.int .i64 0, .int .i64 4]) ∧ Below W.heap.size W w'))
    (hs : ((S : Int) == 0) = false)
    (F9 : Hid (∀ W, Calls Try.prog 9 #[.int .i64 z] W fun e w' => (∃ u1 u2, e = .returned (.agg #[.int .i64 (S : Int), u1, u2]) ∧ NumV w' 65536 q u1 ∧ NumV w' 65536 p u2) ∧ Below W.heap.size W w'))
    (F22a : Hid (∀ W u1 u2, NumV W 65536 q u1 → NumV W 65536 p u2 → Calls Try.prog 22 #[.agg #[.int .i64 (S : Int), u1, u2], .string a] W fun e w' => e = .returned (.bool true) ∧ Below W.heap.size W w'))
    (h0 : most < 0) :
    Calls Try.prog 8 #[.int .i64 z, .string a, .int .i64 most] w fun e w' => e = .returned (.bool true) ∧ Below w.heap.size w w' := by
  have B : Hid (Below w.heap.size w w) := Below.refl _ _
  go_enter Try.func8, Try.ntmps8
  go_wp2_with fail
  refine (F41.out w).mono ?_
  rintro e U1 ⟨rfl, hb⟩
  replace B := aB B hb
  clear hb
  go_wp2_with fail
  refine (F9.out U1).mono ?_
  rintro e U0 ⟨⟨u1, u2, rfl, hv, hv'⟩, hb⟩
  have Nu1 : Hid (NumV U0 65536 q u1) := hv
  have Nu2 : Hid (NumV U0 65536 p u2) := hv'
  clear hv hv'
  replace B := aB B hb
  clear hb
  obtain ⟨u1_a, u1_l, u1_c, rfl⟩ := sN Nu1
  obtain ⟨u2_a, u2_l, u2_c, rfl⟩ := sN Nu2
  have hb := nB U0 (.cells #[(.int .i64 (S : Int)), (.slice u1_a u1_l u1_c), (.slice u2_a u2_l u2_c)] 25)
  have Jg : Hid (IHolds (U0.alloc (.cells #[(.int .i64 (S : Int)), (.slice u1_a u1_l u1_c), (.slice u2_a u2_l u2_c)] 25)) U0.heap.size 25 [(.int .i64 (S : Int)), (.slice u1_a u1_l u1_c), (.slice u2_a u2_l u2_c)]) := IHolds.new _ _ _
  have ge_g : Hid (w.heap.size ≤ U0.heap.size) := B.out.size
  replace B := aB B hb
  replace Nu1 := aN Nu1 hb
  replace Nu2 := aN Nu2 hb
  clear hb
  go_wp2_with fail
  generalize (U0.alloc (.cells #[(.int .i64 (S : Int)), (.slice u1_a u1_l u1_c), (.slice u2_a u2_l u2_c)] 25)) = U2 at *
  generalize U0.heap.size = b3 at *
  refine (F22a.out U2 _ _ Nu1.out Nu2.out).mono ?_
  rintro e U4 ⟨rfl, hb⟩
  replace B := aB B hb
  replace Jg := aJ Jg hb
  replace Nu1 := aN Nu1 hb
  replace Nu2 := aN Nu2 hb
  clear hb
  go_wp2_with fail
  go_ret
  exact ⟨rfl, B.out⟩
set_option maxRecDepth 100000 in
set_option maxHeartbeats 1500000 in
theorem lw_hi {w : World} {z most r : Int} {a : ByteArray} {q p S A : Nat}
    (F41 : Hid (∀ W, Calls Try.prog 41 #[.int .i64 z, .string a, .int .i64 most] W fun e w' => e = .returned (.tuple #[.int .i64 0, .int .i64 4]) ∧ Below W.heap.size W w'))
    (hs : ((S : Int) == 0) = false)
    (F9 : Hid (∀ W, Calls Try.prog 9 #[.int .i64 z] W fun e w' => (∃ u1 u2, e = .returned (.agg #[.int .i64 (S : Int), u1, u2]) ∧ NumV w' 65536 q u1 ∧ NumV w' 65536 p u2) ∧ Below W.heap.size W w'))
    (F22a : Hid (∀ W u1 u2, NumV W 65536 q u1 → NumV W 65536 p u2 → Calls Try.prog 22 #[.agg #[.int .i64 (S : Int), u1, u2], .string a] W fun e w' => e = .returned (.bool true) ∧ Below W.heap.size W w'))
    (h0 : 0 ≤ most) (h1 : 1048576 < most) :
    Calls Try.prog 8 #[.int .i64 z, .string a, .int .i64 most] w fun e w' => e = .returned (.bool true) ∧ Below w.heap.size w w' := by
  have B : Hid (Below w.heap.size w w) := Below.refl _ _
  go_enter Try.func8, Try.ntmps8
  go_wp2_with fail
  refine (F41.out w).mono ?_
  rintro e U1 ⟨rfl, hb⟩
  replace B := aB B hb
  clear hb
  go_wp2_with fail
  refine (F9.out U1).mono ?_
  rintro e U0 ⟨⟨u1, u2, rfl, hv, hv'⟩, hb⟩
  have Nu1 : Hid (NumV U0 65536 q u1) := hv
  have Nu2 : Hid (NumV U0 65536 p u2) := hv'
  clear hv hv'
  replace B := aB B hb
  clear hb
  obtain ⟨u1_a, u1_l, u1_c, rfl⟩ := sN Nu1
  obtain ⟨u2_a, u2_l, u2_c, rfl⟩ := sN Nu2
  have hb := nB U0 (.cells #[(.int .i64 (S : Int)), (.slice u1_a u1_l u1_c), (.slice u2_a u2_l u2_c)] 25)
  have Jg : Hid (IHolds (U0.alloc (.cells #[(.int .i64 (S : Int)), (.slice u1_a u1_l u1_c), (.slice u2_a u2_l u2_c)] 25)) U0.heap.size 25 [(.int .i64 (S : Int)), (.slice u1_a u1_l u1_c), (.slice u2_a u2_l u2_c)]) := IHolds.new _ _ _
  have ge_g : Hid (w.heap.size ≤ U0.heap.size) := B.out.size
  replace B := aB B hb
  replace Nu1 := aN Nu1 hb
  replace Nu2 := aN Nu2 hb
  clear hb
  go_wp2_with fail
  generalize (U0.alloc (.cells #[(.int .i64 (S : Int)), (.slice u1_a u1_l u1_c), (.slice u2_a u2_l u2_c)] 25)) = U2 at *
  generalize U0.heap.size = b3 at *
  refine (F22a.out U2 _ _ Nu1.out Nu2.out).mono ?_
  rintro e U4 ⟨rfl, hb⟩
  replace B := aB B hb
  replace Jg := aJ Jg hb
  replace Nu1 := aN Nu1 hb
  replace Nu2 := aN Nu2 hb
  clear hb
  go_wp2_with fail
  go_ret
  exact ⟨rfl, B.out⟩
set_option maxRecDepth 100000 in
set_option maxHeartbeats 1500000 in
theorem lw_none {w : World} {z most r : Int} {a : ByteArray} {q p S A : Nat}
    (F41 : Hid (∀ W, Calls Try.prog 41 #[.int .i64 z, .string a, .int .i64 most] W fun e w' => e = .returned (.tuple #[.int .i64 0, .int .i64 9]) ∧ Below W.heap.size W w'))
    (hs : ((S : Int) == 0) = false)
    (F9 : Hid (∀ W, Calls Try.prog 9 #[.int .i64 z] W fun e w' => (∃ u1 u2, e = .returned (.agg #[.int .i64 (S : Int), u1, u2]) ∧ NumV w' 65536 q u1 ∧ NumV w' 65536 p u2) ∧ Below W.heap.size W w'))
    (F22a : Hid (∀ W u1 u2, NumV W 65536 q u1 → NumV W 65536 p u2 → Calls Try.prog 22 #[.agg #[.int .i64 (S : Int), u1, u2], .string a] W fun e w' => e = .returned (.bool true) ∧ Below W.heap.size W w'))
    (h0 : 0 ≤ most) (h1 : most ≤ 1048576)
    (F25a : Hid (∀ W, Calls Try.prog 25 #[.string a] W fun e w' => (∃ v, e = .returned v ∧ NumV w' 65536 A v) ∧ Below W.heap.size W w'))
    (F42 : Hid (∀ W u1 u2 v, NumV W 65536 q u1 → NumV W 65536 p u2 → NumV W 65536 A v → Calls Try.prog 42 #[.agg #[.int .i64 (S : Int), u1, u2], v, .int .i64 most] W fun e w' => e = .returned (.int .i64 (-1)) ∧ Below W.heap.size W w')) :
    Calls Try.prog 8 #[.int .i64 z, .string a, .int .i64 most] w fun e w' => e = .returned (.bool true) ∧ Below w.heap.size w w' := by
  have B : Hid (Below w.heap.size w w) := Below.refl _ _
  go_enter Try.func8, Try.ntmps8
  go_wp2_with fail
  refine (F41.out w).mono ?_
  rintro e U1 ⟨rfl, hb⟩
  replace B := aB B hb
  clear hb
  go_wp2_with fail
  refine (F9.out U1).mono ?_
  rintro e U0 ⟨⟨u1, u2, rfl, hv, hv'⟩, hb⟩
  have Nu1 : Hid (NumV U0 65536 q u1) := hv
  have Nu2 : Hid (NumV U0 65536 p u2) := hv'
  clear hv hv'
  replace B := aB B hb
  clear hb
  obtain ⟨u1_a, u1_l, u1_c, rfl⟩ := sN Nu1
  obtain ⟨u2_a, u2_l, u2_c, rfl⟩ := sN Nu2
  have hb := nB U0 (.cells #[(.int .i64 (S : Int)), (.slice u1_a u1_l u1_c), (.slice u2_a u2_l u2_c)] 25)
  have Jg : Hid (IHolds (U0.alloc (.cells #[(.int .i64 (S : Int)), (.slice u1_a u1_l u1_c), (.slice u2_a u2_l u2_c)] 25)) U0.heap.size 25 [(.int .i64 (S : Int)), (.slice u1_a u1_l u1_c), (.slice u2_a u2_l u2_c)]) := IHolds.new _ _ _
  have ge_g : Hid (w.heap.size ≤ U0.heap.size) := B.out.size
  replace B := aB B hb
  replace Nu1 := aN Nu1 hb
  replace Nu2 := aN Nu2 hb
  clear hb
  go_wp2_with fail
  generalize (U0.alloc (.cells #[(.int .i64 (S : Int)), (.slice u1_a u1_l u1_c), (.slice u2_a u2_l u2_c)] 25)) = U2 at *
  generalize U0.heap.size = b3 at *
  refine (F22a.out U2 _ _ Nu1.out Nu2.out).mono ?_
  rintro e U4 ⟨rfl, hb⟩
  replace B := aB B hb
  replace Jg := aJ Jg hb
  replace Nu1 := aN Nu1 hb
  replace Nu2 := aN Nu2 hb
  clear hb
  go_wp2_with fail
  have hb := dB U4
  replace B := aB B hb
  replace Jg := aJ Jg hb
  replace Nu1 := aN Nu1 hb
  replace Nu2 := aN Nu2 hb
  clear hb
  refine wp_region_held_drew (S := fun W => (IHolds W (b3) 25 [(.int .i64 (S : Int)), (.slice u1_a u1_l u1_c), (.slice u2_a u2_l u2_c)])) (by kernel_rfl) Jg.out (fun hHeld1 => ?_)
  generalize U4.drew = U5 at *
  refine tk (i := 0) (v := .agg #[(.int .i64 (S : Int)), (.slice u1_a u1_l u1_c), (.slice u2_a u2_l u2_c)]) rfl (by kernel_rfl) (fun _ _ _ h => h) rfl ?_ hHeld1 ?_
  · intro W hS; have zg_0 : W.cell? ⟨b3, 0, none⟩ = some ((.int .i64 (S : Int))) := IHolds.cell (l := [(.int .i64 (S : Int)), (.slice u1_a u1_l u1_c), (.slice u2_a u2_l u2_c)]) (t := 25) (b := b3) (w := W) (hS) 0 (by simp); have zg_1 : W.cell? ⟨b3, 1, none⟩ = some ((.slice u1_a u1_l u1_c)) := IHolds.cell (l := [(.int .i64 (S : Int)), (.slice u1_a u1_l u1_c), (.slice u2_a u2_l u2_c)]) (t := 25) (b := b3) (w := W) (hS) 1 (by simp); have zg_2 : W.cell? ⟨b3, 2, none⟩ = some ((.slice u2_a u2_l u2_c)) := IHolds.cell (l := [(.int .i64 (S : Int)), (.slice u1_a u1_l u1_c), (.slice u2_a u2_l u2_c)]) (t := 25) (b := b3) (w := W) (hS) 2 (by simp); go_simp
  simp only [Act.put, y1, y2, y3, y4, y5, y6, y7]
  refine tk (i := 1) (v := (.string a)) rfl (by kernel_rfl) (fun _ _ _ h => h) rfl ?_ hHeld1 ?_
  · intro W hS; go_simp
  simp only [Act.put, y1, y2, y3, y4, y5, y6, y7]
  refine tk (i := 3) (v := (.int .i64 most)) rfl (by kernel_rfl) (fun _ _ _ h => h) rfl ?_ hHeld1 ?_
  · intro W hS; go_simp
  simp only [Act.put, y1, y2, y3, y4, y5, y6, y7]
  refine wpAnyH_ready (rs := [2]) (by kernel_rfl) (by simp) ?_
  refine AllReadyH.cons rfl (fun K hK => ?_) AllReadyH.nil
  clear hHeld1
  go_simp
  refine (F25a.out U5).mono ?_
  rintro e U6 ⟨⟨ya, rfl, hv⟩, hb⟩
  have Nya : Hid (NumV U6 65536 (A) ya) := hv
  clear hv
  replace B := aB B hb
  replace Jg := aJ Jg hb
  replace Nu1 := aN Nu1 hb
  replace Nu2 := aN Nu2 hb
  clear hb
  go_wp2_with fail
  refine hK.out _ _ (Jg.out) (fun hHeld2 => ?_)
  clear hK K
  try simp only [Act.put, y1, y2, y3, y4, y5, y6, y7]
  refine wpAnyH_ready (rs := [4]) (by kernel_rfl) (by simp) ?_
  refine AllReadyH.cons rfl (fun K hK => ?_) AllReadyH.nil
  clear hHeld2
  go_simp
  refine (F42.out U6 _ _ _ Nu1.out Nu2.out Nya.out).mono ?_
  rintro e U7 ⟨rfl, hb⟩
  replace B := aB B hb
  replace Jg := aJ Jg hb
  replace Nu1 := aN Nu1 hb
  replace Nu2 := aN Nu2 hb
  replace Nya := aN Nya hb
  clear hb
  go_wp2_with fail
  refine hK.out _ _ (Jg.out) (fun hHeld3 => ?_)
  clear hK K
  try simp only [Act.put, y1, y2, y3, y4, y5, y6, y7]
  refine tk (i := 5) (v := (.int .i64 (-1))) rfl (by kernel_rfl) (fun _ _ _ h => h) rfl ?_ hHeld3 ?_
  · intro W hS; go_simp
  simp only [Act.put, y1, y2, y3, y4, y5, y6, y7]
  refine wpAnyH_done (by kernel_rfl) ?_ _
  clear hHeld3
  go_wp2_with fail
  go_ret
  exact ⟨rfl, B.out⟩
set_option maxRecDepth 100000 in
set_option maxHeartbeats 1500000 in
theorem lw_found {w : World} {z most r : Int} {a : ByteArray} {q p S A : Nat}
    (F41 : Hid (∀ W, Calls Try.prog 41 #[.int .i64 z, .string a, .int .i64 most] W fun e w' => e = .returned (.tuple #[.int .i64 r, .int .i64 0]) ∧ Below W.heap.size W w'))
    (hs : ((S : Int) == 0) = false)
    (F9 : Hid (∀ W, Calls Try.prog 9 #[.int .i64 z] W fun e w' => (∃ u1 u2, e = .returned (.agg #[.int .i64 (S : Int), u1, u2]) ∧ NumV w' 65536 q u1 ∧ NumV w' 65536 p u2) ∧ Below W.heap.size W w'))
    (F22a : Hid (∀ W u1 u2, NumV W 65536 q u1 → NumV W 65536 p u2 → Calls Try.prog 22 #[.agg #[.int .i64 (S : Int), u1, u2], .string a] W fun e w' => e = .returned (.bool true) ∧ Below W.heap.size W w'))
    (h0 : 0 ≤ most) (h1 : most ≤ 1048576)
    (F25a : Hid (∀ W, Calls Try.prog 25 #[.string a] W fun e w' => (∃ v, e = .returned v ∧ NumV w' 65536 A v) ∧ Below W.heap.size W w'))
    (F42 : Hid (∀ W u1 u2 v, NumV W 65536 q u1 → NumV W 65536 p u2 → NumV W 65536 A v → Calls Try.prog 42 #[.agg #[.int .i64 (S : Int), u1, u2], v, .int .i64 most] W fun e w' => e = .returned (.int .i64 r) ∧ Below W.heap.size W w'))
    (hr : 0 ≤ r) :
    Calls Try.prog 8 #[.int .i64 z, .string a, .int .i64 most] w fun e w' => e = .returned (.bool true) ∧ Below w.heap.size w w' := by
  have B : Hid (Below w.heap.size w w) := Below.refl _ _
  go_enter Try.func8, Try.ntmps8
  go_wp2_with fail
  refine (F41.out w).mono ?_
  rintro e U1 ⟨rfl, hb⟩
  replace B := aB B hb
  clear hb
  go_wp2_with fail
  refine (F9.out U1).mono ?_
  rintro e U0 ⟨⟨u1, u2, rfl, hv, hv'⟩, hb⟩
  have Nu1 : Hid (NumV U0 65536 q u1) := hv
  have Nu2 : Hid (NumV U0 65536 p u2) := hv'
  clear hv hv'
  replace B := aB B hb
  clear hb
  obtain ⟨u1_a, u1_l, u1_c, rfl⟩ := sN Nu1
  obtain ⟨u2_a, u2_l, u2_c, rfl⟩ := sN Nu2
  have hb := nB U0 (.cells #[(.int .i64 (S : Int)), (.slice u1_a u1_l u1_c), (.slice u2_a u2_l u2_c)] 25)
  have Jg : Hid (IHolds (U0.alloc (.cells #[(.int .i64 (S : Int)), (.slice u1_a u1_l u1_c), (.slice u2_a u2_l u2_c)] 25)) U0.heap.size 25 [(.int .i64 (S : Int)), (.slice u1_a u1_l u1_c), (.slice u2_a u2_l u2_c)]) := IHolds.new _ _ _
  have ge_g : Hid (w.heap.size ≤ U0.heap.size) := B.out.size
  replace B := aB B hb
  replace Nu1 := aN Nu1 hb
  replace Nu2 := aN Nu2 hb
  clear hb
  go_wp2_with fail
  generalize (U0.alloc (.cells #[(.int .i64 (S : Int)), (.slice u1_a u1_l u1_c), (.slice u2_a u2_l u2_c)] 25)) = U2 at *
  generalize U0.heap.size = b3 at *
  refine (F22a.out U2 _ _ Nu1.out Nu2.out).mono ?_
  rintro e U4 ⟨rfl, hb⟩
  replace B := aB B hb
  replace Jg := aJ Jg hb
  replace Nu1 := aN Nu1 hb
  replace Nu2 := aN Nu2 hb
  clear hb
  go_wp2_with fail
  have hb := dB U4
  replace B := aB B hb
  replace Jg := aJ Jg hb
  replace Nu1 := aN Nu1 hb
  replace Nu2 := aN Nu2 hb
  clear hb
  refine wp_region_held_drew (S := fun W => (IHolds W (b3) 25 [(.int .i64 (S : Int)), (.slice u1_a u1_l u1_c), (.slice u2_a u2_l u2_c)])) (by kernel_rfl) Jg.out (fun hHeld1 => ?_)
  generalize U4.drew = U5 at *
  refine tk (i := 0) (v := .agg #[(.int .i64 (S : Int)), (.slice u1_a u1_l u1_c), (.slice u2_a u2_l u2_c)]) rfl (by kernel_rfl) (fun _ _ _ h => h) rfl ?_ hHeld1 ?_
  · intro W hS; have zg_0 : W.cell? ⟨b3, 0, none⟩ = some ((.int .i64 (S : Int))) := IHolds.cell (l := [(.int .i64 (S : Int)), (.slice u1_a u1_l u1_c), (.slice u2_a u2_l u2_c)]) (t := 25) (b := b3) (w := W) (hS) 0 (by simp); have zg_1 : W.cell? ⟨b3, 1, none⟩ = some ((.slice u1_a u1_l u1_c)) := IHolds.cell (l := [(.int .i64 (S : Int)), (.slice u1_a u1_l u1_c), (.slice u2_a u2_l u2_c)]) (t := 25) (b := b3) (w := W) (hS) 1 (by simp); have zg_2 : W.cell? ⟨b3, 2, none⟩ = some ((.slice u2_a u2_l u2_c)) := IHolds.cell (l := [(.int .i64 (S : Int)), (.slice u1_a u1_l u1_c), (.slice u2_a u2_l u2_c)]) (t := 25) (b := b3) (w := W) (hS) 2 (by simp); go_simp
  simp only [Act.put, y1, y2, y3, y4, y5, y6, y7]
  refine tk (i := 1) (v := (.string a)) rfl (by kernel_rfl) (fun _ _ _ h => h) rfl ?_ hHeld1 ?_
  · intro W hS; go_simp
  simp only [Act.put, y1, y2, y3, y4, y5, y6, y7]
  refine tk (i := 3) (v := (.int .i64 most)) rfl (by kernel_rfl) (fun _ _ _ h => h) rfl ?_ hHeld1 ?_
  · intro W hS; go_simp
  simp only [Act.put, y1, y2, y3, y4, y5, y6, y7]
  refine wpAnyH_ready (rs := [2]) (by kernel_rfl) (by simp) ?_
  refine AllReadyH.cons rfl (fun K hK => ?_) AllReadyH.nil
  clear hHeld1
  go_simp
  refine (F25a.out U5).mono ?_
  rintro e U6 ⟨⟨ya, rfl, hv⟩, hb⟩
  have Nya : Hid (NumV U6 65536 (A) ya) := hv
  clear hv
  replace B := aB B hb
  replace Jg := aJ Jg hb
  replace Nu1 := aN Nu1 hb
  replace Nu2 := aN Nu2 hb
  clear hb
  go_wp2_with fail
  refine hK.out _ _ (Jg.out) (fun hHeld2 => ?_)
  clear hK K
  try simp only [Act.put, y1, y2, y3, y4, y5, y6, y7]
  refine wpAnyH_ready (rs := [4]) (by kernel_rfl) (by simp) ?_
  refine AllReadyH.cons rfl (fun K hK => ?_) AllReadyH.nil
  clear hHeld2
  go_simp
  refine (F42.out U6 _ _ _ Nu1.out Nu2.out Nya.out).mono ?_
  rintro e U7 ⟨rfl, hb⟩
  replace B := aB B hb
  replace Jg := aJ Jg hb
  replace Nu1 := aN Nu1 hb
  replace Nu2 := aN Nu2 hb
  replace Nya := aN Nya hb
  clear hb
  go_wp2_with fail
  refine hK.out _ _ (Jg.out) (fun hHeld3 => ?_)
  clear hK K
  try simp only [Act.put, y1, y2, y3, y4, y5, y6, y7]
  refine tk (i := 5) (v := (.int .i64 r)) rfl (by kernel_rfl) (fun _ _ _ h => h) rfl ?_ hHeld3 ?_
  · intro W hS; go_simp
  simp only [Act.put, y1, y2, y3, y4, y5, y6, y7]
  refine wpAnyH_done (by kernel_rfl) ?_ _
  clear hHeld3
  go_wp2_with fail
  go_ret
  exact ⟨rfl, B.out⟩

theorem least_of (P : Nat → Prop) : ∀ n, P n → ∃ m, m ≤ n ∧ P m ∧ ∀ i, i < m → ¬ P i := by
  intro n
  induction n using Nat.strongRecOn with
  | _ n ih =>
    intro h
    by_cases g : ∃ i, i < n ∧ P i
    · obtain ⟨i, hi, hp⟩ := g
      obtain ⟨m, a, b, c⟩ := ih i hi hp
      exact ⟨m, by omega, b, c⟩
    · exact ⟨n, Nat.le_refl _, h, fun i hi hp => g ⟨i, hi, hp⟩⟩
/-- Both walks answer alike. -/
theorem log_det (M M2 A most : Nat) : (∃ n : Nat, (∀ r c, LogP M M2 A most r c → r = (n : Int) ∧ c = 0) ∧ (∀ r, LogIs M M2 A most r → r = (n : Int))) ∨ ((∀ r c, LogP M M2 A most r c → r = 0 ∧ c = 9) ∧ (∀ r, LogIs M M2 A most r → r = -1)) := by
  by_cases h : ∃ n, n ≤ most ∧ pw2 M M2 n = A
  · obtain ⟨n0, hn0, hA0⟩ := h
    obtain ⟨n, hn, hA, hl⟩ := least_of (fun n => pw2 M M2 n = A) n0 hA0
    have one : ∀ n' : Nat, pw2 M M2 n' = A → (∀ m, m < n' → pw2 M M2 m ≠ A) → n' = n := fun n' h1 h2 => by
      rcases Nat.lt_trichotomy n' n with g | g | g
      · exact absurd h1 (hl n' g)
      · exact g
      · exact absurd hA (h2 n g)
    refine Or.inl ⟨n, fun r c hp => ?_, fun r hp => ?_⟩
    · rcases hp with ⟨n', _, h1, h2, hr, hc⟩ | ⟨h1, _, _⟩
      · rw [one n' h1 h2] at hr; exact ⟨hr, hc⟩
      · exact absurd hA (h1 n (by omega))
    · rcases hp with ⟨n', _, h1, h2, hr⟩ | ⟨h1, _⟩
      · rw [one n' h1 h2] at hr; exact hr
      · exact absurd hA (h1 n (by omega))
  · refine Or.inr ⟨fun r c hp => ?_, fun r hp => ?_⟩
    · rcases hp with ⟨n', h0, h1, h2, hr, hc⟩ | ⟨h1, hr, hc⟩
      · exact absurd ⟨n', h0, h1⟩ h
      · exact ⟨hr, hc⟩
    · rcases hp with ⟨n', h0, h1, h2, hr⟩ | ⟨h1, hr⟩
      · exact absurd ⟨n', h0, h1⟩ h
      · exact hr
section
variable {z : Int} {G : Array Value} {S Wd M low one sq Ri Wd2 M2 low2 one2 sq2 Ri2 : Nat}
theorem log_bad (k : KD z G S Wd M low one sq Ri Wd2 M2 low2 one2 sq2 Ri2) (w : World) {a : ByteArray} {most : Int} (h : isEl S M a = false) :
    Calls Try.prog 41 #[.int .i64 z, .string a, .int .i64 most] w fun e w' => e = .returned (.tuple #[.int .i64 0, .int .i64 7]) ∧ Below w.heap.size w w' :=
  log_face (fun W1 m1 jm hb => withOneI_any (fun W2 p1 p2 p3 j1 j2 j3 hb2 => on46_99 k.hG k.hi k.h1 k.CG (fun W3 g hI hb3 => clos99_61_bad rfl (by decide) (j1.of_below hb3) (j2.of_below hb3) (fun W4 hb4 => elem_nay k ((k.gh W3 g hI).of_below hb4) h))))
theorem log_far (k : KD z G S Wd M low one sq Ri Wd2 M2 low2 one2 sq2 Ri2) (w : World) {a : ByteArray} {most : Int} (h : isEl S M a = true) (hf : most < 0 ∨ 1048576 < most) :
    Calls Try.prog 41 #[.int .i64 z, .string a, .int .i64 most] w fun e w' => e = .returned (.tuple #[.int .i64 0, .int .i64 4]) ∧ Below w.heap.size w w' :=
  log_face (fun W1 m1 jm hb => withOneI_any (fun W2 p1 p2 p3 j1 j2 j3 hb2 => on46_99 k.hG k.hi k.h1 k.CG (fun W3 g hI hb3 => clos99_61_81 (j1.of_below hb3) (j2.of_below hb3) (j3.of_below hb3) (fun W4 hb4 => elem_yes k ((k.gh W3 g hI).of_below hb4) h)
    (fun W4 hb4 => clos81_far (((jm.of_below hb2).of_below hb3).of_below hb4) hf))))
theorem log_go (k : KD z G S Wd M low one sq Ri Wd2 M2 low2 one2 sq2 Ri2) (hp : IsP M2) (w : World) {a : ByteArray} {most : Nat} (h : isEl S M a = true) (m9 : most ≤ 1048576) {r c : Int} (hd : ∀ r' c', LogP M M2 (numS a) most r' c' → r' = r ∧ c' = c) :
    Calls Try.prog 41 #[.int .i64 z, .string a, .int .i64 (most : Int)] w fun e w' => e = .returned (.tuple #[.int .i64 r, .int .i64 c]) ∧ Below w.heap.size w w' :=
  log_face (fun W1 m1 jm hb => withOneI_any (fun W2 p1 p2 p3 j1 j2 j3 hb2 => on46_99 k.hG k.hi k.h1 k.CG (fun W3 g hI hb3 => clos99_61_81 (j1.of_below hb3) (j2.of_below hb3) (j3.of_below hb3) (fun W4 hb4 => elem_yes k ((k.gh W3 g hI).of_below hb4) h)
    (fun W4 hb4 => clos81_go (((jm.of_below hb2).of_below hb3).of_below hb4) (by omega) (by omega) (fun W5 hb5 => (log_any k hp (((k.gh W3 g hI).of_below hb4).of_below hb5) (isEl_le h) m9).mono (by
      rintro e w' ⟨⟨r', c', rfl, hl⟩, hb⟩
      obtain ⟨rfl, rfl⟩ := hd r' c' hl
      exact ⟨rfl, hb⟩))))))
theorem logs_kind (k : KD z G S Wd M low one sq Ri Wd2 M2 low2 one2 sq2 Ri2) (hp : IsP M2) (w : World) (a : ByteArray) (most : Int) :
    Calls Try.prog 8 #[.int .i64 z, .string a, .int .i64 most] w fun e w' => e = .returned (.bool true) ∧ Below w.heap.size w w' := by
  have F22 := fun (s : ByteArray) (W : World) (u1 u2 : Value) (g1 : NumV W 65536 M u1) (g2 : NumV W 65536 M2 u2) => isElemV (S := S) g1 g2 s k.hS k.l6
  have F22x : ∀ t s, isEl S M s = t → ∀ (W : World) (u1 u2 : Value), NumV W 65536 M u1 → NumV W 65536 M2 u2 → Calls Try.prog 22 #[.agg #[.int .i64 (S : Int), u1, u2], .string s] W fun e w' => e = .returned (.bool t) ∧ Below W.heap.size W w' := fun t s h W u1 u2 g1 g2 => by have q := F22 s W u1 u2 g1 g2; rw [h] at q; exact q
  cases ha : isEl S M a
  · exact lw_a (A := 0) (r := 0) (fun W => log_bad k W ha) k.hS0 k.K9 (F22x _ a ha)
  · rcases Int.lt_or_le most 0 with h0 | h0
    · exact lw_lo (A := 0) (r := 0) (fun W => log_far k W ha (Or.inl h0)) k.hS0 k.K9 (F22x _ a ha) h0
    rcases Int.lt_or_le 1048576 most with h1 | h1
    · exact lw_hi (A := 0) (r := 0) (fun W => log_far k W ha (Or.inr h1)) k.hS0 k.K9 (F22x _ a ha) h0 h1
    obtain ⟨mm, rfl⟩ : ∃ n : Nat, most = (n : Int) := ⟨most.toNat, by omega⟩
    have m9 : mm ≤ 1048576 := by omega
    have R := fun (W : World) (u1 u2 v : Value) (g1 : NumV W 65536 M u1) (g2 : NumV W 65536 M2 u2) (g3 : NumV W 65536 (numS a) v) => refLog_any k g1 g2 g3 (k.el ha) m9
    rcases log_det M M2 (numS a) mm with ⟨n, d1, d2⟩ | ⟨d1, d2⟩
    · exact lw_found (r := (n : Int)) (fun W => log_go k hp W ha m9 d1) k.hS0 k.K9 (F22x _ a ha) h0 h1 (read_small (isEl_size ha) k.hS) (fun W u1 u2 v g1 g2 g3 => (R W u1 u2 v g1 g2 g3).mono (by
        rintro e w' ⟨⟨r', rfl, hl⟩, hb⟩
        obtain rfl := d2 r' hl
        exact ⟨rfl, hb⟩)) (by omega)
    · exact lw_none (r := 0) (fun W => log_go k hp W ha m9 d1) k.hS0 k.K9 (F22x _ a ha) h0 h1 (read_small (isEl_size ha) k.hS) (fun W u1 u2 v g1 g2 g3 => (R W u1 u2 v g1 g2 g3).mono (by
        rintro e w' ⟨⟨r', rfl, hl⟩, hb⟩
        obtain rfl := d2 r' hl
        exact ⟨rfl, hb⟩))
end
theorem logs_none (w : World) (z : Int) (a : ByteArray) (most : Int) (z1 : z ≠ 1) (z2 : z ≠ 2) (z3 : z ≠ 3) : Calls Try.prog 8 #[.int .i64 z, .string a, .int .i64 most] w fun e w' => e = .returned (.bool true) ∧ Below w.heap.size w w' := by
  have G := fun W => ground0 W z (beq_eq_false_iff_ne.2 z1) (beq_eq_false_iff_ne.2 z2) (beq_eq_false_iff_ne.2 z3)
  exact lw_no (q := 0) (p := 0) (S := 0) (A := 0) (r := 0) (fun W => log_face (fun W1 m1 jm hb => withOneI_any (fun W2 p1 p2 p3 j1 j2 j3 hb2 => on46_99_no rfl size70 (by kernel_rfl) G))) (fun W => kind0 W z (beq_eq_false_iff_ne.2 z1) (bne_iff_ne.2 z1) (beq_eq_false_iff_ne.2 z2) (beq_eq_false_iff_ne.2 z3))
theorem groupLogs_walk (z : Int) (a : ByteArray) (most : Int) (w : World) : Calls Try.prog 8 #[.int .i64 z, .string a, .int .i64 most] w fun e w' => e = .returned (.bool true) ∧ Below w.heap.size w w' := by
  by_cases z1 : z = 1
  · subst z1; exact logs_kind kd1 prime_p1 w a most
  by_cases z2 : z = 2
  · subst z2; exact logs_kind kd2 prime_p2 w a most
  by_cases z3 : z = 3
  · subst z3; exact logs_kind kd3 prime_p3 w a most
  exact logs_none w z a most z1 z2 z3
end Go.Proofs.Ytckfdpiohkggaaa
