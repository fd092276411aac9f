/- What is asked on a kind, by closures. -/
import Derived.Test.YtohpbclofcflaaaGreatRed
import Derived.Test.YtohpbclofcflaaaGreatOn
set_option linter.unusedSimpArgs false
set_option linter.unusedVariables false
namespace Go.Proofs.YtohpbclofcflaaaGreat
open Go.RowKit Go.Deep Go.PlainAid

set_option maxRecDepth 100000 in
set_option maxHeartbeats 2000000 in
theorem on48_52 {w : World} {z : Int} {G : Array Value} {cp : Nat} {ct : TypeId} {cv : Value} {t : ByteArray} {c : Int} (hcp : Hid (IHolds w cp ct [cv])) (hG : gz.size = G.size) (hi : (Tryz.prog.info? 97).map (·.size) = some G.size) (h1 : G.all (·.oneCell') = true)
    (CG : Hid (∀ W, Calls Tryz.prog 73 #[.int .i64 z] W fun e w' => e = .returned (.tuple #[.agg G, .bool true]) ∧ Below W.heap.size W w')) (HF : Hid (∀ W g, IHolds W g 97 G.toList → IHolds W cp ct [cv] → Calls Tryz.prog 68 #[.pointer (some ⟨g, 0, none⟩), .pointer (some ⟨cp, 0, none⟩)] W fun e w' => e = .returned (.tuple #[.string t, .int .i64 c]) ∧ Below W.heap.size W w')) :
    Calls Tryz.prog 58 #[.int .i64 z, .func (.func 68) #[] #[.pointer (some ⟨cp, 0, none⟩)]] w fun e w' => e = .returned (.tuple #[.string t, .int .i64 c]) ∧ Below w.heap.size w w' := by
  go_enter Tryz.func58, Tryz.ntmps58
  go_wp2_with fail
  refine (CG.out w).mono ?_
  rintro e U1 ⟨rfl, hb⟩
  have B : Hid (Below w.heap.size w U1) := hb
  replace hcp := aJ hcp hb
  clear hb
  have hg : (U1.alloc (.cells gz 97)).heap[U1.heap.size]? = some (.cells gz 97 (0, 0)) := by
    have h := IHolds.new U1 97 gz.toList
    unfold IHolds at h
    rw [Array.toArray_toList] at h
    exact h
  have J : Hid (IHolds (U1.alloc (.cells G 97)) U1.heap.size 97 G.toList) := by
    have h := IHolds.new U1 97 G.toList
    rw [Array.toArray_toList] at h
    exact h
  replace B := aB B (nB U1 (.cells G 97))
  replace hcp := aJ hcp (nB U1 (.cells G 97))
  go_wp2_with (refine wpList_store_row rfl 97 (.tmp 6) (.tmp 12) rfl U1.heap.size G rfl rfl 97 gz hg hi hG h1 ?_; rw [World.setRow_alloc_new]; clear hg)
  generalize U1.alloc (.cells G 97) = U2 at *
  refine (HF.out U2 _ J.out hcp.out).mono ?_
  rintro e U3 ⟨rfl, hb⟩
  replace B := aB B hb
  clear hb
  go_wp2_with fail
  go_ret2
  exact ⟨rfl, B.out⟩
set_option maxRecDepth 100000 in
set_option maxHeartbeats 2000000 in
theorem on48c_no {F : Nat} {w : World} {z : Int} {G : Array Value} {cp : Nat} {ct : TypeId} {cv : Value}  (hcp : Hid (IHolds w cp ct [cv])) (hG : gz.size = G.size) (hi : (Tryz.prog.info? 97).map (·.size) = some G.size) (h1 : G.all (·.oneCell') = true)
    (CG : Hid (∀ W, Calls Tryz.prog 73 #[.int .i64 z] W fun e w' => e = .returned (.tuple #[.agg G, .bool false]) ∧ Below W.heap.size W w'))  :
    Calls Tryz.prog 58 #[.int .i64 z, .func (.func F) #[] #[.pointer (some ⟨cp, 0, none⟩)]] w fun e w' => e = .returned (.tuple #[.string ⟨#[]⟩, .int .i64 1]) ∧ Below w.heap.size w w' := by
  go_enter Tryz.func58, Tryz.ntmps58
  go_wp2_with fail
  refine (CG.out w).mono ?_
  rintro e U1 ⟨rfl, hb⟩
  have B : Hid (Below w.heap.size w U1) := hb
  replace hcp := aJ hcp hb
  clear hb
  have hg : (U1.alloc (.cells gz 97)).heap[U1.heap.size]? = some (.cells gz 97 (0, 0)) := by
    have h := IHolds.new U1 97 gz.toList
    unfold IHolds at h
    rw [Array.toArray_toList] at h
    exact h
  have J : Hid (IHolds (U1.alloc (.cells G 97)) U1.heap.size 97 G.toList) := by
    have h := IHolds.new U1 97 G.toList
    rw [Array.toArray_toList] at h
    exact h
  replace B := aB B (nB U1 (.cells G 97))
  replace hcp := aJ hcp (nB U1 (.cells G 97))
  go_wp2_with (refine wpList_store_row rfl 97 (.tmp 6) (.tmp 12) rfl U1.heap.size G rfl rfl 97 gz hg hi hG h1 ?_; rw [World.setRow_alloc_new]; clear hg)
  go_ret2
  exact ⟨rfl, B.out⟩
set_option maxRecDepth 100000 in
set_option maxHeartbeats 2000000 in
theorem on57_58 {w : World} {z : Int} {G : Array Value} {cp : Nat} {ct : TypeId} {cv : Value} {z0 z1 z2 z3 : Nat} {c : Int} (hcp : Hid (IHolds w cp ct [cv])) (hG : gz.size = G.size) (hi : (Tryz.prog.info? 97).map (·.size) = some G.size) (h1 : G.all (·.oneCell') = true)
    (CG : Hid (∀ W, Calls Tryz.prog 73 #[.int .i64 z] W fun e w' => e = .returned (.tuple #[.agg G, .bool true]) ∧ Below W.heap.size W w')) (HF : Hid (∀ W g, IHolds W g 97 G.toList → IHolds W cp ct [cv] → Calls Tryz.prog 56 #[.pointer (some ⟨g, 0, none⟩), .pointer (some ⟨cp, 0, none⟩)] W fun e w' => e = .returned (.tuple #[.agg #[U z0, U z1, U z2, U z3], .int .i64 c]) ∧ Below W.heap.size W w')) :
    Calls Tryz.prog 53 #[.int .i64 z, .func (.func 56) #[] #[.pointer (some ⟨cp, 0, none⟩)]] w fun e w' => e = .returned (.tuple #[.agg #[U z0, U z1, U z2, U z3], .int .i64 c]) ∧ Below w.heap.size w w' := by
  have JR : Hid (IHolds (w.alloc (.cells #[.int .u64 0, .int .u64 0, .int .u64 0, .int .u64 0] 81)) w.heap.size 81 [.int .u64 0, .int .u64 0, .int .u64 0, .int .u64 0]) := IHolds.new w 81 _
  have B : Hid (Below w.heap.size w (w.alloc (.cells #[.int .u64 0, .int .u64 0, .int .u64 0, .int .u64 0] 81))) := nB _ _
  replace hcp := aJ hcp (nB w (.cells #[.int .u64 0, .int .u64 0, .int .u64 0, .int .u64 0] 81))
  go_enter Tryz.func53, Tryz.ntmps53
  go_wp2_with fail
  generalize w.alloc (.cells #[.int .u64 0, .int .u64 0, .int .u64 0, .int .u64 0] 81) = U0 at *
  refine (CG.out U0).mono ?_
  rintro e U1 ⟨rfl, hb⟩
  replace B := aB B hb
  replace JR := aJ JR hb
  replace hcp := aJ hcp hb
  clear hb
  have hg : (U1.alloc (.cells gz 97)).heap[U1.heap.size]? = some (.cells gz 97 (0, 0)) := by
    have h := IHolds.new U1 97 gz.toList
    unfold IHolds at h
    rw [Array.toArray_toList] at h
    exact h
  have J : Hid (IHolds (U1.alloc (.cells G 97)) U1.heap.size 97 G.toList) := by
    have h := IHolds.new U1 97 G.toList
    rw [Array.toArray_toList] at h
    exact h
  replace B := aB B (nB U1 (.cells G 97))
  replace hcp := aJ hcp (nB U1 (.cells G 97))
  replace JR := aJ JR (nB U1 (.cells G 97))
  go_wp2_with (refine wpList_store_row rfl 97 (.tmp 6) (.tmp 12) rfl U1.heap.size G rfl rfl 97 gz hg hi hG h1 ?_; rw [World.setRow_alloc_new]; clear hg)
  generalize U1.alloc (.cells G 97) = U2 at *
  refine (HF.out U2 _ J.out hcp.out).mono ?_
  rintro e U3 ⟨rfl, hb⟩
  replace B := aB B hb
  replace JR := aJ JR hb
  clear hb
  have d0 : U3.cell? ⟨w.heap.size, 0, none⟩ = some (.int .u64 0) := JR.out.cell 0 (by simp)
  have d1 : U3.cell? ⟨w.heap.size, 1, none⟩ = some (.int .u64 0) := JR.out.cell 1 (by simp)
  have d2 : U3.cell? ⟨w.heap.size, 2, none⟩ = some (.int .u64 0) := JR.out.cell 2 (by simp)
  have d3 : U3.cell? ⟨w.heap.size, 3, none⟩ = some (.int .u64 0) := JR.out.cell 3 (by simp)
  have f0 : ∀ i, U3.frozen? ⟨w.heap.size, i, none⟩ = false := fun i => JR.out.frozen i
  obtain ⟨W9, hW9⟩ : ∃ X, X = (((U3.setCell ⟨w.heap.size, 0, none⟩ (U z0)).setCell ⟨w.heap.size, 1, none⟩ (U z1)).setCell ⟨w.heap.size, 2, none⟩ (U z2)).setCell ⟨w.heap.size, 3, none⟩ (U z3) := ⟨_, rfl⟩
  have hZ9 : Hid (IHolds W9 w.heap.size 81 [U z0, U z1, U z2, U z3]) := by
    show IHolds _ _ _ _
    rw [hW9]; exact (((JR.out.set 0 (U z0)).set 1 (U z1)).set 2 (U z2)).set 3 (U z3)
  have hB9 : Hid (Below w.heap.size w W9) := by
    show Below _ _ _
    rw [hW9]; exact (((B.out.setCell (Nat.le_refl _) _).setCell (Nat.le_refl _) _).setCell (Nat.le_refl _) _).setCell (Nat.le_refl _) _
  go_wp2_with fail
  rw [← hW9]
  clear hW9 d0 d1 d2 d3 f0 JR B
  have E0 : W9.cell? ⟨w.heap.size, 0, none⟩ = some (U z0) := hZ9.out.cell 0 (by simp)
  have E1 : W9.cell? ⟨w.heap.size, 1, none⟩ = some (U z1) := hZ9.out.cell 1 (by simp)
  have E2 : W9.cell? ⟨w.heap.size, 2, none⟩ = some (U z2) := hZ9.out.cell 2 (by simp)
  have E3 : W9.cell? ⟨w.heap.size, 3, none⟩ = some (U z3) := hZ9.out.cell 3 (by simp)
  exact bodyPost_ret (v := .tuple #[.agg #[U z0, U z1, U z2, U z3], .int .i64 c]) (by simp [results, Tryz.results53, go_sem, E0, E1, E2, E3]) rfl ⟨rfl, hB9.out⟩
set_option maxRecDepth 100000 in
set_option maxHeartbeats 2000000 in
theorem on57_60 {w : World} {z : Int} {G : Array Value} {cp : Nat} {ct : TypeId} {cv : Value} {z0 z1 z2 z3 : Nat} {c : Int} (hcp : Hid (IHolds w cp ct [cv])) (hG : gz.size = G.size) (hi : (Tryz.prog.info? 97).map (·.size) = some G.size) (h1 : G.all (·.oneCell') = true)
    (CG : Hid (∀ W, Calls Tryz.prog 73 #[.int .i64 z] W fun e w' => e = .returned (.tuple #[.agg G, .bool true]) ∧ Below W.heap.size W w')) (HF : Hid (∀ W g, IHolds W g 97 G.toList → IHolds W cp ct [cv] → Calls Tryz.prog 54 #[.pointer (some ⟨g, 0, none⟩), .pointer (some ⟨cp, 0, none⟩)] W fun e w' => e = .returned (.tuple #[.agg #[U z0, U z1, U z2, U z3], .int .i64 c]) ∧ Below W.heap.size W w')) :
    Calls Tryz.prog 53 #[.int .i64 z, .func (.func 54) #[] #[.pointer (some ⟨cp, 0, none⟩)]] w fun e w' => e = .returned (.tuple #[.agg #[U z0, U z1, U z2, U z3], .int .i64 c]) ∧ Below w.heap.size w w' := by
  have JR : Hid (IHolds (w.alloc (.cells #[.int .u64 0, .int .u64 0, .int .u64 0, .int .u64 0] 81)) w.heap.size 81 [.int .u64 0, .int .u64 0, .int .u64 0, .int .u64 0]) := IHolds.new w 81 _
  have B : Hid (Below w.heap.size w (w.alloc (.cells #[.int .u64 0, .int .u64 0, .int .u64 0, .int .u64 0] 81))) := nB _ _
  replace hcp := aJ hcp (nB w (.cells #[.int .u64 0, .int .u64 0, .int .u64 0, .int .u64 0] 81))
  go_enter Tryz.func53, Tryz.ntmps53
  go_wp2_with fail
  generalize w.alloc (.cells #[.int .u64 0, .int .u64 0, .int .u64 0, .int .u64 0] 81) = U0 at *
  refine (CG.out U0).mono ?_
  rintro e U1 ⟨rfl, hb⟩
  replace B := aB B hb
  replace JR := aJ JR hb
  replace hcp := aJ hcp hb
  clear hb
  have hg : (U1.alloc (.cells gz 97)).heap[U1.heap.size]? = some (.cells gz 97 (0, 0)) := by
    have h := IHolds.new U1 97 gz.toList
    unfold IHolds at h
    rw [Array.toArray_toList] at h
    exact h
  have J : Hid (IHolds (U1.alloc (.cells G 97)) U1.heap.size 97 G.toList) := by
    have h := IHolds.new U1 97 G.toList
    rw [Array.toArray_toList] at h
    exact h
  replace B := aB B (nB U1 (.cells G 97))
  replace hcp := aJ hcp (nB U1 (.cells G 97))
  replace JR := aJ JR (nB U1 (.cells G 97))
  go_wp2_with (refine wpList_store_row rfl 97 (.tmp 6) (.tmp 12) rfl U1.heap.size G rfl rfl 97 gz hg hi hG h1 ?_; rw [World.setRow_alloc_new]; clear hg)
  generalize U1.alloc (.cells G 97) = U2 at *
  refine (HF.out U2 _ J.out hcp.out).mono ?_
  rintro e U3 ⟨rfl, hb⟩
  replace B := aB B hb
  replace JR := aJ JR hb
  clear hb
  have d0 : U3.cell? ⟨w.heap.size, 0, none⟩ = some (.int .u64 0) := JR.out.cell 0 (by simp)
  have d1 : U3.cell? ⟨w.heap.size, 1, none⟩ = some (.int .u64 0) := JR.out.cell 1 (by simp)
  have d2 : U3.cell? ⟨w.heap.size, 2, none⟩ = some (.int .u64 0) := JR.out.cell 2 (by simp)
  have d3 : U3.cell? ⟨w.heap.size, 3, none⟩ = some (.int .u64 0) := JR.out.cell 3 (by simp)
  have f0 : ∀ i, U3.frozen? ⟨w.heap.size, i, none⟩ = false := fun i => JR.out.frozen i
  obtain ⟨W9, hW9⟩ : ∃ X, X = (((U3.setCell ⟨w.heap.size, 0, none⟩ (U z0)).setCell ⟨w.heap.size, 1, none⟩ (U z1)).setCell ⟨w.heap.size, 2, none⟩ (U z2)).setCell ⟨w.heap.size, 3, none⟩ (U z3) := ⟨_, rfl⟩
  have hZ9 : Hid (IHolds W9 w.heap.size 81 [U z0, U z1, U z2, U z3]) := by
    show IHolds _ _ _ _
    rw [hW9]; exact (((JR.out.set 0 (U z0)).set 1 (U z1)).set 2 (U z2)).set 3 (U z3)
  have hB9 : Hid (Below w.heap.size w W9) := by
    show Below _ _ _
    rw [hW9]; exact (((B.out.setCell (Nat.le_refl _) _).setCell (Nat.le_refl _) _).setCell (Nat.le_refl _) _).setCell (Nat.le_refl _) _
  go_wp2_with fail
  rw [← hW9]
  clear hW9 d0 d1 d2 d3 f0 JR B
  have E0 : W9.cell? ⟨w.heap.size, 0, none⟩ = some (U z0) := hZ9.out.cell 0 (by simp)
  have E1 : W9.cell? ⟨w.heap.size, 1, none⟩ = some (U z1) := hZ9.out.cell 1 (by simp)
  have E2 : W9.cell? ⟨w.heap.size, 2, none⟩ = some (U z2) := hZ9.out.cell 2 (by simp)
  have E3 : W9.cell? ⟨w.heap.size, 3, none⟩ = some (U z3) := hZ9.out.cell 3 (by simp)
  exact bodyPost_ret (v := .tuple #[.agg #[U z0, U z1, U z2, U z3], .int .i64 c]) (by simp [results, Tryz.results53, go_sem, E0, E1, E2, E3]) rfl ⟨rfl, hB9.out⟩
set_option maxRecDepth 100000 in
set_option maxHeartbeats 2000000 in
theorem on57_no {F : Nat} {w : World} {z : Int} {G : Array Value} {cp : Nat} {ct : TypeId} {cv : Value}  (hcp : Hid (IHolds w cp ct [cv])) (hG : gz.size = G.size) (hi : (Tryz.prog.info? 97).map (·.size) = some G.size) (h1 : G.all (·.oneCell') = true)
    (CG : Hid (∀ W, Calls Tryz.prog 73 #[.int .i64 z] W fun e w' => e = .returned (.tuple #[.agg G, .bool false]) ∧ Below W.heap.size W w'))  :
    Calls Tryz.prog 53 #[.int .i64 z, .func (.func F) #[] #[.pointer (some ⟨cp, 0, none⟩)]] w fun e w' => e = .returned (.tuple #[.agg #[.int .u64 0, .int .u64 0, .int .u64 0, .int .u64 0], .int .i64 1]) ∧ Below w.heap.size w w' := by
  have JR : Hid (IHolds (w.alloc (.cells #[.int .u64 0, .int .u64 0, .int .u64 0, .int .u64 0] 81)) w.heap.size 81 [.int .u64 0, .int .u64 0, .int .u64 0, .int .u64 0]) := IHolds.new w 81 _
  have B : Hid (Below w.heap.size w (w.alloc (.cells #[.int .u64 0, .int .u64 0, .int .u64 0, .int .u64 0] 81))) := nB _ _
  replace hcp := aJ hcp (nB w (.cells #[.int .u64 0, .int .u64 0, .int .u64 0, .int .u64 0] 81))
  go_enter Tryz.func53, Tryz.ntmps53
  go_wp2_with fail
  generalize w.alloc (.cells #[.int .u64 0, .int .u64 0, .int .u64 0, .int .u64 0] 81) = U0 at *
  refine (CG.out U0).mono ?_
  rintro e U1 ⟨rfl, hb⟩
  replace B := aB B hb
  replace JR := aJ JR hb
  replace hcp := aJ hcp hb
  clear hb
  have hg : (U1.alloc (.cells gz 97)).heap[U1.heap.size]? = some (.cells gz 97 (0, 0)) := by
    have h := IHolds.new U1 97 gz.toList
    unfold IHolds at h
    rw [Array.toArray_toList] at h
    exact h
  have J : Hid (IHolds (U1.alloc (.cells G 97)) U1.heap.size 97 G.toList) := by
    have h := IHolds.new U1 97 G.toList
    rw [Array.toArray_toList] at h
    exact h
  replace B := aB B (nB U1 (.cells G 97))
  replace hcp := aJ hcp (nB U1 (.cells G 97))
  replace JR := aJ JR (nB U1 (.cells G 97))
  obtain ⟨U2, hU2⟩ : ∃ X, X = U1.alloc (.cells G 97) := ⟨_, rfl⟩
  rw [← hU2] at J B hcp JR
  have B2 := aB B (nB U2 (.cells #[.int .u64 0, .int .u64 0, .int .u64 0, .int .u64 0] 81))
  have JR2 := aJ JR (nB U2 (.cells #[.int .u64 0, .int .u64 0, .int .u64 0, .int .u64 0] 81))
  have JN : Hid (IHolds (U2.alloc (.cells #[.int .u64 0, .int .u64 0, .int .u64 0, .int .u64 0] 81)) U2.heap.size 81 [.int .u64 0, .int .u64 0, .int .u64 0, .int .u64 0]) := IHolds.new _ _ _
  obtain ⟨U3, hU3⟩ : ∃ X, X = U2.alloc (.cells #[.int .u64 0, .int .u64 0, .int .u64 0, .int .u64 0] 81) := ⟨_, rfl⟩
  rw [← hU3] at B2 JR2 JN
  have a0 : (U2.alloc (.cells #[.int .u64 0, .int .u64 0, .int .u64 0, .int .u64 0] 81)).cell? ⟨U2.heap.size, 0, none⟩ = some (.int .u64 0) := by rw [← hU3]; exact JN.out.cell 0 (by simp)
  have a1 : (U2.alloc (.cells #[.int .u64 0, .int .u64 0, .int .u64 0, .int .u64 0] 81)).cell? ⟨U2.heap.size, 1, none⟩ = some (.int .u64 0) := by rw [← hU3]; exact JN.out.cell 1 (by simp)
  have a2 : (U2.alloc (.cells #[.int .u64 0, .int .u64 0, .int .u64 0, .int .u64 0] 81)).cell? ⟨U2.heap.size, 2, none⟩ = some (.int .u64 0) := by rw [← hU3]; exact JN.out.cell 2 (by simp)
  have a3 : (U2.alloc (.cells #[.int .u64 0, .int .u64 0, .int .u64 0, .int .u64 0] 81)).cell? ⟨U2.heap.size, 3, none⟩ = some (.int .u64 0) := by rw [← hU3]; exact JN.out.cell 3 (by simp)
  have d0 : (U2.alloc (.cells #[.int .u64 0, .int .u64 0, .int .u64 0, .int .u64 0] 81)).cell? ⟨w.heap.size, 0, none⟩ = some (.int .u64 0) := by rw [← hU3]; exact JR2.out.cell 0 (by simp)
  have d1 : (U2.alloc (.cells #[.int .u64 0, .int .u64 0, .int .u64 0, .int .u64 0] 81)).cell? ⟨w.heap.size, 1, none⟩ = some (.int .u64 0) := by rw [← hU3]; exact JR2.out.cell 1 (by simp)
  have d2 : (U2.alloc (.cells #[.int .u64 0, .int .u64 0, .int .u64 0, .int .u64 0] 81)).cell? ⟨w.heap.size, 2, none⟩ = some (.int .u64 0) := by rw [← hU3]; exact JR2.out.cell 2 (by simp)
  have d3 : (U2.alloc (.cells #[.int .u64 0, .int .u64 0, .int .u64 0, .int .u64 0] 81)).cell? ⟨w.heap.size, 3, none⟩ = some (.int .u64 0) := by rw [← hU3]; exact JR2.out.cell 3 (by simp)
  have f0 : ∀ i, (U2.alloc (.cells #[.int .u64 0, .int .u64 0, .int .u64 0, .int .u64 0] 81)).frozen? ⟨w.heap.size, i, none⟩ = false := by rw [← hU3]; exact fun i => JR2.out.frozen i
  obtain ⟨W9, hW9⟩ : ∃ X, X = ((((U2.alloc (.cells #[.int .u64 0, .int .u64 0, .int .u64 0, .int .u64 0] 81)).setCell ⟨w.heap.size, 0, none⟩ (.int .u64 0)).setCell ⟨w.heap.size, 1, none⟩ (.int .u64 0)).setCell ⟨w.heap.size, 2, none⟩ (.int .u64 0)).setCell ⟨w.heap.size, 3, none⟩ (.int .u64 0) := ⟨_, rfl⟩
  have hZ9 : Hid (IHolds W9 w.heap.size 81 [.int .u64 0, .int .u64 0, .int .u64 0, .int .u64 0]) := by
    show IHolds _ _ _ _
    rw [hW9, ← hU3]; exact (((JR2.out.set 0 (.int .u64 0)).set 1 (.int .u64 0)).set 2 (.int .u64 0)).set 3 (.int .u64 0)
  have hB9 : Hid (Below w.heap.size w W9) := by
    show Below _ _ _
    rw [hW9, ← hU3]; exact (((B2.out.setCell (Nat.le_refl _) _).setCell (Nat.le_refl _) _).setCell (Nat.le_refl _) _).setCell (Nat.le_refl _) _
  clear hU3 B B2 JR JR2 JN J hcp
  go_wp2_with (refine wpList_store_row rfl 97 (.tmp 6) (.tmp 12) rfl U1.heap.size G rfl rfl 97 gz hg hi hG h1 ?_; rw [World.setRow_alloc_new, ← hU2]; clear hg hU2)
  rw [← hW9]
  clear hW9 a0 a1 a2 a3 d0 d1 d2 d3 f0
  have E0 : W9.cell? ⟨w.heap.size, 0, none⟩ = some (.int .u64 0) := hZ9.out.cell 0 (by simp)
  have E1 : W9.cell? ⟨w.heap.size, 1, none⟩ = some (.int .u64 0) := hZ9.out.cell 1 (by simp)
  have E2 : W9.cell? ⟨w.heap.size, 2, none⟩ = some (.int .u64 0) := hZ9.out.cell 2 (by simp)
  have E3 : W9.cell? ⟨w.heap.size, 3, none⟩ = some (.int .u64 0) := hZ9.out.cell 3 (by simp)
  exact bodyPost_ret (v := .tuple #[.agg #[.int .u64 0, .int .u64 0, .int .u64 0, .int .u64 0], .int .i64 1]) (by simp [results, Tryz.results53, go_sem, E0, E1, E2, E3]) rfl ⟨rfl, hB9.out⟩
end Go.Proofs.YtohpbclofcflaaaGreat
