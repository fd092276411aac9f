/- Brought within, taken out again, and the product. -/
import Derived.Test.YtohpbclofcflaaaGreatFNum
set_option linter.unusedSimpArgs false
set_option linter.unusedVariables false
namespace Go.Proofs.YtohpbclofcflaaaGreat
open Go.RowKit Go.Deep Go.PlainAid

set_option maxRecDepth 100000 in
set_option maxHeartbeats 2000000 in
theorem enter_words {w : World} {g o Wd M low one sq : Nat} (F : Hid (FH w g o Wd M low one sq)) (x0 x1 x2 x3 v0 v1 v2 v3 : Nat) (C1 : Hid (∀ W, FH W g o Wd M low one sq → Calls Tryz.prog 86 #[.pointer (some ⟨g, o, none⟩), .agg #[U x0, U x1, U x2, U x3], .agg #[U (w4 sq 0), U (w4 sq 1), U (w4 sq 2), U (w4 sq 3)]] W fun e w' => e = .returned (.agg #[U v0, U v1, U v2, U v3]) ∧ Below W.heap.size W w')) :
    Calls Tryz.prog 92 #[.pointer (some ⟨g, o, none⟩), .agg #[U x0, U x1, U x2, U x3]] w fun e w' => e = .returned (.agg #[U v0, U v1, U v2, U v3]) ∧ Below w.heap.size w w' := by
  go_enter Tryz.func92, Tryz.ntmps92
  go_wp2_with fail
  have neF_x : Hid (g ≠ w.heap.size + 0) := by have h := F.out.lt; show _ ≠ _; omega
  have neF_r : Hid (g ≠ w.heap.size + 1) := by have h := F.out.lt; show _ ≠ _; omega
  obtain ⟨U1, hU1⟩ : ∃ X, X = ((w.alloc (.cells #[U x0, U x1, U x2, U x3] 81)).alloc (.cells #[.int .u64 0, .int .u64 0, .int .u64 0, .int .u64 0] 81)) := ⟨_, rfl⟩
  have Jx : Hid (IHolds U1 (w.heap.size) 81 [U x0, U x1, U x2, U x3]) := by
    have q := IHolds.new w 81 [U x0, U x1, U x2, U x3]
    show IHolds _ _ _ _
    rw [hU1]
    exact (q.alloc _)
  have Jr : Hid (IHolds U1 (w.heap.size + 1) 81 [.int .u64 0, .int .u64 0, .int .u64 0, .int .u64 0]) := by
    have q := IHolds.new (w.alloc (.cells #[U x0, U x1, U x2, U x3] 81)) 81 [.int .u64 0, .int .u64 0, .int .u64 0, .int .u64 0]
    simp only [World.size_alloc, Nat.add_assoc, Nat.reduceAdd] at q
    show IHolds _ _ _ _
    rw [hU1]
    exact q
  have B : Hid (Below w.heap.size w U1) := by
    show Below _ _ _
    rw [hU1]
    exact (((Below.refl _ w).alloc (Nat.le_refl _) _).alloc (by simp only [World.size_alloc]; omega) _)
  rw [← hU1]
  clear hU1
  replace F := aF F (show Below w.heap.size w U1 from B.out)
  have hb := dB U1
  replace F := aF F hb
  replace B := aB B hb
  replace Jx := aJ Jx hb
  replace Jr := aJ Jr hb
  clear hb
  refine wp_region_held_drew (S := fun W => (IHolds W (w.heap.size) 81 [U x0, U x1, U x2, U x3]) ∧ (FH W g o Wd M low one sq)) (by kernel_rfl) ⟨Jx.out, F.out⟩ (fun hHeld1 => ?_)
  generalize U1.drew = U2 at *
  refine tk (i := 0) (v := .pointer (some ⟨g, o, none⟩)) rfl (by kernel_rfl) (fun _ _ _ h => h) rfl ?_ hHeld1 ?_
  · intro W hS; go_simp
  simp only [Act.put, y1, y2, y3, y4, y5, y6, y7]
  refine tk (i := 1) (v := .agg #[U x0, U x1, U x2, U x3]) rfl (by kernel_rfl) (fun _ _ _ h => h) rfl ?_ hHeld1 ?_
  · intro W hS; have zx_0 : W.cell? ⟨w.heap.size, 0, none⟩ = some (U x0) := IHolds.cell (l := [U x0, U x1, U x2, U x3]) (t := 81) (b := w.heap.size) (w := W) (hS.1) 0 (by simp); have zx_1 : W.cell? ⟨w.heap.size, 1, none⟩ = some (U x1) := IHolds.cell (l := [U x0, U x1, U x2, U x3]) (t := 81) (b := w.heap.size) (w := W) (hS.1) 1 (by simp); have zx_2 : W.cell? ⟨w.heap.size, 2, none⟩ = some (U x2) := IHolds.cell (l := [U x0, U x1, U x2, U x3]) (t := 81) (b := w.heap.size) (w := W) (hS.1) 2 (by simp); have zx_3 : W.cell? ⟨w.heap.size, 3, none⟩ = some (U x3) := IHolds.cell (l := [U x0, U x1, U x2, U x3]) (t := 81) (b := w.heap.size) (w := W) (hS.1) 3 (by simp); go_simp
  simp only [Act.put, y1, y2, y3, y4, y5, y6, y7]
  refine tk (i := 2) (v := .pointer (some ⟨g, o, none⟩)) rfl (by kernel_rfl) (fun _ _ _ h => h) rfl ?_ hHeld1 ?_
  · intro W hS; go_simp
  simp only [Act.put, y1, y2, y3, y4, y5, y6, y7]
  refine tk (i := 3) (v := .pointer (some ⟨g, o, none⟩)) rfl (by kernel_rfl) (fun _ _ _ h => h) rfl ?_ hHeld1 ?_
  · intro W hS; go_simp
  simp only [Act.put, y1, y2, y3, y4, y5, y6, y7]
  refine tk (i := 4) (v := .pointer (some ⟨g, o + 10, none⟩)) rfl (by kernel_rfl) (fun _ _ _ h => h) rfl ?_ hHeld1 ?_
  · intro W hS; go_simp
  simp only [Act.put, y1, y2, y3, y4, y5, y6, y7]
  refine tk (i := 5) (v := .agg #[U (w4 sq 0), U (w4 sq 1), U (w4 sq 2), U (w4 sq 3)]) rfl (by kernel_rfl) (fun _ _ _ h => h) rfl ?_ hHeld1 ?_
  · intro W hS; have fz := hS.2; have fz0 := fz.c0; have fz1 := fz.m0; have fz2 := fz.m1; have fz3 := fz.m2; have fz4 := fz.m3; have fz5 := fz.lo; have fz6 := fz.o0; have fz7 := fz.o1; have fz8 := fz.o2; have fz9 := fz.o3; have fz10 := fz.s0; have fz11 := fz.s1; have fz12 := fz.s2; have fz13 := fz.s3; go_simp
  simp only [Act.put, y1, y2, y3, y4, y5, y6, y7]
  refine wpAnyH_ready (rs := [6]) (by kernel_rfl) (by simp) ?_
  refine AllReadyH.cons rfl (fun K hK => ?_) AllReadyH.nil
  clear hHeld1
  go_simp
  refine (C1.out U2 F.out).mono ?_
  rintro e U3 ⟨rfl, hb⟩
  replace F := aF F hb
  replace B := aB B hb
  replace Jx := aJ Jx hb
  replace Jr := aJ Jr hb
  clear hb
  go_wp2_with fail
  refine hK.out _ _ (⟨Jx.out, F.out⟩) (fun hHeld2 => ?_)
  clear hK K
  try simp only [Act.put, y1, y2, y3, y4, y5, y6, y7]
  refine wpAnyH_ready (rs := [7]) (by kernel_rfl) (by simp) ?_
  refine AllReadyH.cons rfl (fun K hK => ?_) AllReadyH.nil
  clear hHeld2
  have zr_0 : U3.cell? ⟨w.heap.size + 1, 0, none⟩ = some (.int .u64 0) := IHolds.cell (l := [.int .u64 0, .int .u64 0, .int .u64 0, .int .u64 0]) (t := 81) (b := w.heap.size + 1) (w := U3) (Jr.out) 0 (by simp)
  have zr_1 : U3.cell? ⟨w.heap.size + 1, 1, none⟩ = some (.int .u64 0) := IHolds.cell (l := [.int .u64 0, .int .u64 0, .int .u64 0, .int .u64 0]) (t := 81) (b := w.heap.size + 1) (w := U3) (Jr.out) 1 (by simp)
  have zr_2 : U3.cell? ⟨w.heap.size + 1, 2, none⟩ = some (.int .u64 0) := IHolds.cell (l := [.int .u64 0, .int .u64 0, .int .u64 0, .int .u64 0]) (t := 81) (b := w.heap.size + 1) (w := U3) (Jr.out) 2 (by simp)
  have zr_3 : U3.cell? ⟨w.heap.size + 1, 3, none⟩ = some (.int .u64 0) := IHolds.cell (l := [.int .u64 0, .int .u64 0, .int .u64 0, .int .u64 0]) (t := 81) (b := w.heap.size + 1) (w := U3) (Jr.out) 3 (by simp)
  have f0 := fJ Jr
  have hBut : But (w.heap.size + 1) U3 ((((U3.setCell ⟨w.heap.size + 1, 0, none⟩ (U v0)).setCell ⟨w.heap.size + 1, 1, none⟩ (U v1)).setCell ⟨w.heap.size + 1, 2, none⟩ (U v2)).setCell ⟨w.heap.size + 1, 3, none⟩ (U v3)) := (((((But.refl _ U3).setCell 0 (U v0)).setCell 1 (U v1)).setCell 2 (U v2)).setCell 3 (U v3))
  replace F := tF F hBut neF_r.out
  have I4 : Hid (IHolds _ (w.heap.size + 1) 81 [U v0, U v1, U v2, U v3]) := ((((Jr.out.set 0 (U v0)).set 1 (U v1)).set 2 (U v2)).set 3 (U v3))
  replace B : Hid (Below w.heap.size w ((((U3.setCell ⟨w.heap.size + 1, 0, none⟩ (U v0)).setCell ⟨w.heap.size + 1, 1, none⟩ (U v1)).setCell ⟨w.heap.size + 1, 2, none⟩ (U v2)).setCell ⟨w.heap.size + 1, 3, none⟩ (U v3))) := ((((B.out.setCell (by first | exact Nat.le_refl _ | exact ge_r.out | (show w.heap.size ≤ w.heap.size + 1; omega)) _).setCell (by first | exact Nat.le_refl _ | exact ge_r.out | (show w.heap.size ≤ w.heap.size + 1; omega)) _).setCell (by first | exact Nat.le_refl _ | exact ge_r.out | (show w.heap.size ≤ w.heap.size + 1; omega)) _).setCell (by first | exact Nat.le_refl _ | exact ge_r.out | (show w.heap.size ≤ w.heap.size + 1; omega)) _)
  replace Jx := tJ Jx hBut (by omega)
  replace Jr := I4
  clear I4 hBut
  go_simp
  try go_wp2_with fail
  clear zr_0 zr_1 zr_2 zr_3
  clear f0
  generalize ((((U3.setCell ⟨w.heap.size + 1, 0, none⟩ (U v0)).setCell ⟨w.heap.size + 1, 1, none⟩ (U v1)).setCell ⟨w.heap.size + 1, 2, none⟩ (U v2)).setCell ⟨w.heap.size + 1, 3, none⟩ (U v3)) = U4 at *
  refine hK.out _ _ (⟨Jx.out, F.out⟩) (fun hHeld3 => ?_)
  clear hK K
  try simp only [Act.put, y1, y2, y3, y4, y5, y6, y7]
  refine wpAnyH_done (by kernel_rfl) ?_ _
  clear hHeld3
  try go_wp2_with fail
  have E0 : Hid (U4.cell? ⟨w.heap.size + 1, 0, none⟩ = some (U v0)) := IHolds.cell (l := [U v0, U v1, U v2, U v3]) (t := 81) (b := w.heap.size + 1) (w := U4) Jr.out 0 (by simp)
  have E1 : Hid (U4.cell? ⟨w.heap.size + 1, 1, none⟩ = some (U v1)) := IHolds.cell (l := [U v0, U v1, U v2, U v3]) (t := 81) (b := w.heap.size + 1) (w := U4) Jr.out 1 (by simp)
  have E2 : Hid (U4.cell? ⟨w.heap.size + 1, 2, none⟩ = some (U v2)) := IHolds.cell (l := [U v0, U v1, U v2, U v3]) (t := 81) (b := w.heap.size + 1) (w := U4) Jr.out 2 (by simp)
  have E3 : Hid (U4.cell? ⟨w.heap.size + 1, 3, none⟩ = some (U v3)) := IHolds.cell (l := [U v0, U v1, U v2, U v3]) (t := 81) (b := w.heap.size + 1) (w := U4) Jr.out 3 (by simp)
  exact bodyPost_ret (v := .agg #[U v0, U v1, U v2, U v3]) (by simp [results, Tryz.results92, go_sem, E0.out, E1.out, E2.out, E3.out]) rfl ⟨rfl, B.out⟩
set_option maxRecDepth 100000 in
set_option maxHeartbeats 2000000 in
theorem leave_words {w : World} {g o Wd M low one sq : Nat} (F : Hid (FH w g o Wd M low one sq)) (x0 x1 x2 x3 v0 v1 v2 v3 : Nat) (C1 : Hid (∀ W, FH W g o Wd M low one sq → Calls Tryz.prog 86 #[.pointer (some ⟨g, o, none⟩), .agg #[U x0, U x1, U x2, U x3], .agg #[.int .u64 1, .int .u64 0, .int .u64 0, .int .u64 0]] W fun e w' => e = .returned (.agg #[U v0, U v1, U v2, U v3]) ∧ Below W.heap.size W w')) :
    Calls Tryz.prog 95 #[.pointer (some ⟨g, o, none⟩), .agg #[U x0, U x1, U x2, U x3]] w fun e w' => e = .returned (.agg #[U v0, U v1, U v2, U v3]) ∧ Below w.heap.size w w' := by
  go_enter Tryz.func95, Tryz.ntmps95
  go_wp2_with fail
  have neF_x : Hid (g ≠ w.heap.size + 0) := by have h := F.out.lt; show _ ≠ _; omega
  have neF_r : Hid (g ≠ w.heap.size + 1) := by have h := F.out.lt; show _ ≠ _; omega
  obtain ⟨U1, hU1⟩ : ∃ X, X = ((w.alloc (.cells #[U x0, U x1, U x2, U x3] 81)).alloc (.cells #[.int .u64 0, .int .u64 0, .int .u64 0, .int .u64 0] 81)) := ⟨_, rfl⟩
  have Jx : Hid (IHolds U1 (w.heap.size) 81 [U x0, U x1, U x2, U x3]) := by
    have q := IHolds.new w 81 [U x0, U x1, U x2, U x3]
    show IHolds _ _ _ _
    rw [hU1]
    exact (q.alloc _)
  have Jr : Hid (IHolds U1 (w.heap.size + 1) 81 [.int .u64 0, .int .u64 0, .int .u64 0, .int .u64 0]) := by
    have q := IHolds.new (w.alloc (.cells #[U x0, U x1, U x2, U x3] 81)) 81 [.int .u64 0, .int .u64 0, .int .u64 0, .int .u64 0]
    simp only [World.size_alloc, Nat.add_assoc, Nat.reduceAdd] at q
    show IHolds _ _ _ _
    rw [hU1]
    exact q
  have B : Hid (Below w.heap.size w U1) := by
    show Below _ _ _
    rw [hU1]
    exact (((Below.refl _ w).alloc (Nat.le_refl _) _).alloc (by simp only [World.size_alloc]; omega) _)
  rw [← hU1]
  clear hU1
  replace F := aF F (show Below w.heap.size w U1 from B.out)
  have zx_0 : U1.cell? ⟨w.heap.size, 0, none⟩ = some (U x0) := IHolds.cell (l := [U x0, U x1, U x2, U x3]) (t := 81) (b := w.heap.size) (w := U1) (Jx.out) 0 (by simp)
  have zx_1 : U1.cell? ⟨w.heap.size, 1, none⟩ = some (U x1) := IHolds.cell (l := [U x0, U x1, U x2, U x3]) (t := 81) (b := w.heap.size) (w := U1) (Jx.out) 1 (by simp)
  have zx_2 : U1.cell? ⟨w.heap.size, 2, none⟩ = some (U x2) := IHolds.cell (l := [U x0, U x1, U x2, U x3]) (t := 81) (b := w.heap.size) (w := U1) (Jx.out) 2 (by simp)
  have zx_3 : U1.cell? ⟨w.heap.size, 3, none⟩ = some (U x3) := IHolds.cell (l := [U x0, U x1, U x2, U x3]) (t := 81) (b := w.heap.size) (w := U1) (Jx.out) 3 (by simp)
  go_wp2_with fail
  clear zx_0 zx_1 zx_2 zx_3
  refine (C1.out U1 F.out).mono ?_
  rintro e U2 ⟨rfl, hb⟩
  replace F := aF F hb
  replace B := aB B hb
  replace Jx := aJ Jx hb
  replace Jr := aJ Jr hb
  clear hb
  have zr_0 : U2.cell? ⟨w.heap.size + 1, 0, none⟩ = some (.int .u64 0) := IHolds.cell (l := [.int .u64 0, .int .u64 0, .int .u64 0, .int .u64 0]) (t := 81) (b := w.heap.size + 1) (w := U2) (Jr.out) 0 (by simp)
  have zr_1 : U2.cell? ⟨w.heap.size + 1, 1, none⟩ = some (.int .u64 0) := IHolds.cell (l := [.int .u64 0, .int .u64 0, .int .u64 0, .int .u64 0]) (t := 81) (b := w.heap.size + 1) (w := U2) (Jr.out) 1 (by simp)
  have zr_2 : U2.cell? ⟨w.heap.size + 1, 2, none⟩ = some (.int .u64 0) := IHolds.cell (l := [.int .u64 0, .int .u64 0, .int .u64 0, .int .u64 0]) (t := 81) (b := w.heap.size + 1) (w := U2) (Jr.out) 2 (by simp)
  have zr_3 : U2.cell? ⟨w.heap.size + 1, 3, none⟩ = some (.int .u64 0) := IHolds.cell (l := [.int .u64 0, .int .u64 0, .int .u64 0, .int .u64 0]) (t := 81) (b := w.heap.size + 1) (w := U2) (Jr.out) 3 (by simp)
  have f0 := fJ Jr
  have hBut : But (w.heap.size + 1) U2 ((((U2.setCell ⟨w.heap.size + 1, 0, none⟩ (U v0)).setCell ⟨w.heap.size + 1, 1, none⟩ (U v1)).setCell ⟨w.heap.size + 1, 2, none⟩ (U v2)).setCell ⟨w.heap.size + 1, 3, none⟩ (U v3)) := (((((But.refl _ U2).setCell 0 (U v0)).setCell 1 (U v1)).setCell 2 (U v2)).setCell 3 (U v3))
  replace F := tF F hBut neF_r.out
  have I4 : Hid (IHolds _ (w.heap.size + 1) 81 [U v0, U v1, U v2, U v3]) := ((((Jr.out.set 0 (U v0)).set 1 (U v1)).set 2 (U v2)).set 3 (U v3))
  replace B : Hid (Below w.heap.size w ((((U2.setCell ⟨w.heap.size + 1, 0, none⟩ (U v0)).setCell ⟨w.heap.size + 1, 1, none⟩ (U v1)).setCell ⟨w.heap.size + 1, 2, none⟩ (U v2)).setCell ⟨w.heap.size + 1, 3, none⟩ (U v3))) := ((((B.out.setCell (by first | exact Nat.le_refl _ | exact ge_r.out | (show w.heap.size ≤ w.heap.size + 1; omega)) _).setCell (by first | exact Nat.le_refl _ | exact ge_r.out | (show w.heap.size ≤ w.heap.size + 1; omega)) _).setCell (by first | exact Nat.le_refl _ | exact ge_r.out | (show w.heap.size ≤ w.heap.size + 1; omega)) _).setCell (by first | exact Nat.le_refl _ | exact ge_r.out | (show w.heap.size ≤ w.heap.size + 1; omega)) _)
  replace Jx := tJ Jx hBut (by omega)
  replace Jr := I4
  clear I4 hBut
  go_wp2_with fail
  clear zr_0 zr_1 zr_2 zr_3
  clear f0
  generalize ((((U2.setCell ⟨w.heap.size + 1, 0, none⟩ (U v0)).setCell ⟨w.heap.size + 1, 1, none⟩ (U v1)).setCell ⟨w.heap.size + 1, 2, none⟩ (U v2)).setCell ⟨w.heap.size + 1, 3, none⟩ (U v3)) = U3 at *
  have E0 : Hid (U3.cell? ⟨w.heap.size + 1, 0, none⟩ = some (U v0)) := IHolds.cell (l := [U v0, U v1, U v2, U v3]) (t := 81) (b := w.heap.size + 1) (w := U3) Jr.out 0 (by simp)
  have E1 : Hid (U3.cell? ⟨w.heap.size + 1, 1, none⟩ = some (U v1)) := IHolds.cell (l := [U v0, U v1, U v2, U v3]) (t := 81) (b := w.heap.size + 1) (w := U3) Jr.out 1 (by simp)
  have E2 : Hid (U3.cell? ⟨w.heap.size + 1, 2, none⟩ = some (U v2)) := IHolds.cell (l := [U v0, U v1, U v2, U v3]) (t := 81) (b := w.heap.size + 1) (w := U3) Jr.out 2 (by simp)
  have E3 : Hid (U3.cell? ⟨w.heap.size + 1, 3, none⟩ = some (U v3)) := IHolds.cell (l := [U v0, U v1, U v2, U v3]) (t := 81) (b := w.heap.size + 1) (w := U3) Jr.out 3 (by simp)
  exact bodyPost_ret (v := .agg #[U v0, U v1, U v2, U v3]) (by simp [results, Tryz.results95, go_sem, E0.out, E1.out, E2.out, E3.out]) rfl ⟨rfl, B.out⟩
set_option maxRecDepth 100000 in
set_option maxHeartbeats 2000000 in
theorem ftimes_words {w : World} {g o Wd M low one sq : Nat} (F : Hid (FH w g o Wd M low one sq)) (x0 x1 x2 x3 m0 m1 m2 m3 z0 z1 z2 z3 v0 v1 v2 v3 : Nat) (C1 : Hid (∀ W, FH W g o Wd M low one sq → Calls Tryz.prog 92 #[.pointer (some ⟨g, o, none⟩), .agg #[U x0, U x1, U x2, U x3]] W fun e w' => e = .returned (.agg #[U z0, U z1, U z2, U z3]) ∧ Below W.heap.size W w')) (C2 : Hid (∀ W, FH W g o Wd M low one sq → Calls Tryz.prog 86 #[.pointer (some ⟨g, o, none⟩), .agg #[U z0, U z1, U z2, U z3], .agg #[U m0, U m1, U m2, U m3]] W fun e w' => e = .returned (.agg #[U v0, U v1, U v2, U v3]) ∧ Below W.heap.size W w')) :
    Calls Tryz.prog 97 #[.pointer (some ⟨g, o, none⟩), .agg #[U x0, U x1, U x2, U x3], .agg #[U m0, U m1, U m2, U m3]] w fun e w' => e = .returned (.agg #[U v0, U v1, U v2, U v3]) ∧ Below w.heap.size w w' := by
  go_enter Tryz.func97, Tryz.ntmps97
  go_wp2_with fail
  have neF_x : Hid (g ≠ w.heap.size + 0) := by have h := F.out.lt; show _ ≠ _; omega
  have neF_m : Hid (g ≠ w.heap.size + 1) := by have h := F.out.lt; show _ ≠ _; omega
  have neF_r : Hid (g ≠ w.heap.size + 2) := by have h := F.out.lt; show _ ≠ _; omega
  obtain ⟨U1, hU1⟩ : ∃ X, X = (((w.alloc (.cells #[U x0, U x1, U x2, U x3] 81)).alloc (.cells #[U m0, U m1, U m2, U m3] 81)).alloc (.cells #[.int .u64 0, .int .u64 0, .int .u64 0, .int .u64 0] 81)) := ⟨_, rfl⟩
  have Jx : Hid (IHolds U1 (w.heap.size) 81 [U x0, U x1, U x2, U x3]) := by
    have q := IHolds.new w 81 [U x0, U x1, U x2, U x3]
    show IHolds _ _ _ _
    rw [hU1]
    exact ((q.alloc _).alloc _)
  have Jm : Hid (IHolds U1 (w.heap.size + 1) 81 [U m0, U m1, U m2, U m3]) := by
    have q := IHolds.new (w.alloc (.cells #[U x0, U x1, U x2, U x3] 81)) 81 [U m0, U m1, U m2, U m3]
    simp only [World.size_alloc, Nat.add_assoc, Nat.reduceAdd] at q
    show IHolds _ _ _ _
    rw [hU1]
    exact (q.alloc _)
  have Jr : Hid (IHolds U1 (w.heap.size + 2) 81 [.int .u64 0, .int .u64 0, .int .u64 0, .int .u64 0]) := by
    have q := IHolds.new ((w.alloc (.cells #[U x0, U x1, U x2, U x3] 81)).alloc (.cells #[U m0, U m1, U m2, U m3] 81)) 81 [.int .u64 0, .int .u64 0, .int .u64 0, .int .u64 0]
    simp only [World.size_alloc, Nat.add_assoc, Nat.reduceAdd] at q
    show IHolds _ _ _ _
    rw [hU1]
    exact q
  have B : Hid (Below w.heap.size w U1) := by
    show Below _ _ _
    rw [hU1]
    exact ((((Below.refl _ w).alloc (Nat.le_refl _) _).alloc (by simp only [World.size_alloc]; omega) _).alloc (by simp only [World.size_alloc]; omega) _)
  rw [← hU1]
  clear hU1
  replace F := aF F (show Below w.heap.size w U1 from B.out)
  have hb := dB U1
  replace F := aF F hb
  replace B := aB B hb
  replace Jx := aJ Jx hb
  replace Jm := aJ Jm hb
  replace Jr := aJ Jr hb
  clear hb
  refine wp_region_held_drew (S := fun W => (IHolds W (w.heap.size) 81 [U x0, U x1, U x2, U x3]) ∧ (IHolds W (w.heap.size + 1) 81 [U m0, U m1, U m2, U m3]) ∧ (FH W g o Wd M low one sq)) (by kernel_rfl) ⟨Jx.out, Jm.out, F.out⟩ (fun hHeld1 => ?_)
  generalize U1.drew = U2 at *
  refine tk (i := 0) (v := .pointer (some ⟨g, o, none⟩)) rfl (by kernel_rfl) (fun _ _ _ h => h) rfl ?_ hHeld1 ?_
  · intro W hS; go_simp
  simp only [Act.put, y1, y2, y3, y4, y5, y6, y7]
  refine tk (i := 1) (v := .pointer (some ⟨g, o, none⟩)) rfl (by kernel_rfl) (fun _ _ _ h => h) rfl ?_ hHeld1 ?_
  · intro W hS; go_simp
  simp only [Act.put, y1, y2, y3, y4, y5, y6, y7]
  refine tk (i := 2) (v := .agg #[U x0, U x1, U x2, U x3]) rfl (by kernel_rfl) (fun _ _ _ h => h) rfl ?_ hHeld1 ?_
  · intro W hS; have zx_0 : W.cell? ⟨w.heap.size, 0, none⟩ = some (U x0) := IHolds.cell (l := [U x0, U x1, U x2, U x3]) (t := 81) (b := w.heap.size) (w := W) (hS.1) 0 (by simp); have zx_1 : W.cell? ⟨w.heap.size, 1, none⟩ = some (U x1) := IHolds.cell (l := [U x0, U x1, U x2, U x3]) (t := 81) (b := w.heap.size) (w := W) (hS.1) 1 (by simp); have zx_2 : W.cell? ⟨w.heap.size, 2, none⟩ = some (U x2) := IHolds.cell (l := [U x0, U x1, U x2, U x3]) (t := 81) (b := w.heap.size) (w := W) (hS.1) 2 (by simp); have zx_3 : W.cell? ⟨w.heap.size, 3, none⟩ = some (U x3) := IHolds.cell (l := [U x0, U x1, U x2, U x3]) (t := 81) (b := w.heap.size) (w := W) (hS.1) 3 (by simp); go_simp
  simp only [Act.put, y1, y2, y3, y4, y5, y6, y7]
  refine tk (i := 4) (v := .agg #[U m0, U m1, U m2, U m3]) rfl (by kernel_rfl) (fun _ _ _ h => h) rfl ?_ hHeld1 ?_
  · intro W hS; have zm_0 : W.cell? ⟨w.heap.size + 1, 0, none⟩ = some (U m0) := IHolds.cell (l := [U m0, U m1, U m2, U m3]) (t := 81) (b := w.heap.size + 1) (w := W) (hS.2.1) 0 (by simp); have zm_1 : W.cell? ⟨w.heap.size + 1, 1, none⟩ = some (U m1) := IHolds.cell (l := [U m0, U m1, U m2, U m3]) (t := 81) (b := w.heap.size + 1) (w := W) (hS.2.1) 1 (by simp); have zm_2 : W.cell? ⟨w.heap.size + 1, 2, none⟩ = some (U m2) := IHolds.cell (l := [U m0, U m1, U m2, U m3]) (t := 81) (b := w.heap.size + 1) (w := W) (hS.2.1) 2 (by simp); have zm_3 : W.cell? ⟨w.heap.size + 1, 3, none⟩ = some (U m3) := IHolds.cell (l := [U m0, U m1, U m2, U m3]) (t := 81) (b := w.heap.size + 1) (w := W) (hS.2.1) 3 (by simp); go_simp
  simp only [Act.put, y1, y2, y3, y4, y5, y6, y7]
  refine wpAnyH_ready (rs := [3]) (by kernel_rfl) (by simp) ?_
  refine AllReadyH.cons rfl (fun K hK => ?_) AllReadyH.nil
  clear hHeld1
  go_simp
  refine (C1.out U2 F.out).mono ?_
  rintro e U3 ⟨rfl, hb⟩
  replace F := aF F hb
  replace B := aB B hb
  replace Jx := aJ Jx hb
  replace Jm := aJ Jm hb
  replace Jr := aJ Jr hb
  clear hb
  go_wp2_with fail
  refine hK.out _ _ (⟨Jx.out, Jm.out, F.out⟩) (fun hHeld2 => ?_)
  clear hK K
  try simp only [Act.put, y1, y2, y3, y4, y5, y6, y7]
  refine wpAnyH_ready (rs := [5]) (by kernel_rfl) (by simp) ?_
  refine AllReadyH.cons rfl (fun K hK => ?_) AllReadyH.nil
  clear hHeld2
  go_simp
  refine (C2.out U3 F.out).mono ?_
  rintro e U4 ⟨rfl, hb⟩
  replace F := aF F hb
  replace B := aB B hb
  replace Jx := aJ Jx hb
  replace Jm := aJ Jm hb
  replace Jr := aJ Jr hb
  clear hb
  go_wp2_with fail
  refine hK.out _ _ (⟨Jx.out, Jm.out, F.out⟩) (fun hHeld3 => ?_)
  clear hK K
  try simp only [Act.put, y1, y2, y3, y4, y5, y6, y7]
  refine wpAnyH_ready (rs := [6]) (by kernel_rfl) (by simp) ?_
  refine AllReadyH.cons rfl (fun K hK => ?_) AllReadyH.nil
  clear hHeld3
  have zr_0 : U4.cell? ⟨w.heap.size + 2, 0, none⟩ = some (.int .u64 0) := IHolds.cell (l := [.int .u64 0, .int .u64 0, .int .u64 0, .int .u64 0]) (t := 81) (b := w.heap.size + 2) (w := U4) (Jr.out) 0 (by simp)
  have zr_1 : U4.cell? ⟨w.heap.size + 2, 1, none⟩ = some (.int .u64 0) := IHolds.cell (l := [.int .u64 0, .int .u64 0, .int .u64 0, .int .u64 0]) (t := 81) (b := w.heap.size + 2) (w := U4) (Jr.out) 1 (by simp)
  have zr_2 : U4.cell? ⟨w.heap.size + 2, 2, none⟩ = some (.int .u64 0) := IHolds.cell (l := [.int .u64 0, .int .u64 0, .int .u64 0, .int .u64 0]) (t := 81) (b := w.heap.size + 2) (w := U4) (Jr.out) 2 (by simp)
  have zr_3 : U4.cell? ⟨w.heap.size + 2, 3, none⟩ = some (.int .u64 0) := IHolds.cell (l := [.int .u64 0, .int .u64 0, .int .u64 0, .int .u64 0]) (t := 81) (b := w.heap.size + 2) (w := U4) (Jr.out) 3 (by simp)
  have f0 := fJ Jr
  have hBut : But (w.heap.size + 2) U4 ((((U4.setCell ⟨w.heap.size + 2, 0, none⟩ (U v0)).setCell ⟨w.heap.size + 2, 1, none⟩ (U v1)).setCell ⟨w.heap.size + 2, 2, none⟩ (U v2)).setCell ⟨w.heap.size + 2, 3, none⟩ (U v3)) := (((((But.refl _ U4).setCell 0 (U v0)).setCell 1 (U v1)).setCell 2 (U v2)).setCell 3 (U v3))
  replace F := tF F hBut neF_r.out
  have I4 : Hid (IHolds _ (w.heap.size + 2) 81 [U v0, U v1, U v2, U v3]) := ((((Jr.out.set 0 (U v0)).set 1 (U v1)).set 2 (U v2)).set 3 (U v3))
  replace B : Hid (Below w.heap.size w ((((U4.setCell ⟨w.heap.size + 2, 0, none⟩ (U v0)).setCell ⟨w.heap.size + 2, 1, none⟩ (U v1)).setCell ⟨w.heap.size + 2, 2, none⟩ (U v2)).setCell ⟨w.heap.size + 2, 3, none⟩ (U v3))) := ((((B.out.setCell (by first | exact Nat.le_refl _ | exact ge_r.out | (show w.heap.size ≤ w.heap.size + 2; omega)) _).setCell (by first | exact Nat.le_refl _ | exact ge_r.out | (show w.heap.size ≤ w.heap.size + 2; omega)) _).setCell (by first | exact Nat.le_refl _ | exact ge_r.out | (show w.heap.size ≤ w.heap.size + 2; omega)) _).setCell (by first | exact Nat.le_refl _ | exact ge_r.out | (show w.heap.size ≤ w.heap.size + 2; omega)) _)
  replace Jx := tJ Jx hBut (by omega)
  replace Jm := tJ Jm hBut (by omega)
  replace Jr := I4
  clear I4 hBut
  go_simp
  try go_wp2_with fail
  clear zr_0 zr_1 zr_2 zr_3
  clear f0
  generalize ((((U4.setCell ⟨w.heap.size + 2, 0, none⟩ (U v0)).setCell ⟨w.heap.size + 2, 1, none⟩ (U v1)).setCell ⟨w.heap.size + 2, 2, none⟩ (U v2)).setCell ⟨w.heap.size + 2, 3, none⟩ (U v3)) = U5 at *
  refine hK.out _ _ (⟨Jx.out, Jm.out, F.out⟩) (fun hHeld4 => ?_)
  clear hK K
  try simp only [Act.put, y1, y2, y3, y4, y5, y6, y7]
  refine wpAnyH_done (by kernel_rfl) ?_ _
  clear hHeld4
  try go_wp2_with fail
  have E0 : Hid (U5.cell? ⟨w.heap.size + 2, 0, none⟩ = some (U v0)) := IHolds.cell (l := [U v0, U v1, U v2, U v3]) (t := 81) (b := w.heap.size + 2) (w := U5) Jr.out 0 (by simp)
  have E1 : Hid (U5.cell? ⟨w.heap.size + 2, 1, none⟩ = some (U v1)) := IHolds.cell (l := [U v0, U v1, U v2, U v3]) (t := 81) (b := w.heap.size + 2) (w := U5) Jr.out 1 (by simp)
  have E2 : Hid (U5.cell? ⟨w.heap.size + 2, 2, none⟩ = some (U v2)) := IHolds.cell (l := [U v0, U v1, U v2, U v3]) (t := 81) (b := w.heap.size + 2) (w := U5) Jr.out 2 (by simp)
  have E3 : Hid (U5.cell? ⟨w.heap.size + 2, 3, none⟩ = some (U v3)) := IHolds.cell (l := [U v0, U v1, U v2, U v3]) (t := 81) (b := w.heap.size + 2) (w := U5) Jr.out 3 (by simp)
  exact bodyPost_ret (v := .agg #[U v0, U v1, U v2, U v3]) (by simp [results, Tryz.results97, go_sem, E0.out, E1.out, E2.out, E3.out]) rfl ⟨rfl, B.out⟩
theorem enterA {w : World} {g o Wd M low one sq Ri a : Nat} (F : FH w g o Wd M low one sq) (fl : Fld Wd M low one sq Ri) (ha : a < BB ^ Wd) :
    Calls Tryz.prog 92 #[.pointer (some ⟨g, o, none⟩), A4 a] w fun e w' => e = .returned (A4 (a * BB ^ Wd % M)) ∧ Below w.heap.size w w' :=
  enter_words F _ _ _ _ _ _ _ _ (fun W hF => joined_sq hF fl ha)
theorem Fld.in_words {Wd M low one sq Ri a : Nat} (fl : Fld Wd M low one sq Ri) (h : a < M) : a < BB ^ Wd := by
  have := fl.m9
  omega
theorem Fld.in_mod {Wd M low one sq Ri : Nat} (fl : Fld Wd M low one sq Ri) (a : Nat) : a % M < BB ^ Wd := fl.in_words (Nat.mod_lt _ (by have := fl.m2; omega))
theorem joined_both {w : World} {g o Wd M low one sq Ri a b : Nat} (F : FH w g o Wd M low one sq) (fl : Fld Wd M low one sq Ri) :
    Calls Tryz.prog 86 #[.pointer (some ⟨g, o, none⟩), A4 (a * BB ^ Wd % M), A4 (b * BB ^ Wd % M)] w fun e w' => e = .returned (A4 (a * b * BB ^ Wd % M)) ∧ Below w.heap.size w w' := by
  have hm := fl.m2
  refine (joined_any F fl (fl.in_mod _) (Nat.mod_lt _ (by omega))).mono ?_
  rintro e w' ⟨⟨r, rfl, h⟩, hb⟩
  rw [fl.both h]
  exact ⟨rfl, hb⟩
theorem leaveA {w : World} {g o Wd M low one sq Ri a : Nat} (F : FH w g o Wd M low one sq) (fl : Fld Wd M low one sq Ri) :
    Calls Tryz.prog 95 #[.pointer (some ⟨g, o, none⟩), A4 (a * BB ^ Wd % M)] w fun e w' => e = .returned (A4 (a % M)) ∧ Below w.heap.size w w' := by
  refine leave_words F _ _ _ _ _ _ _ _ (fun W hF => ?_)
  have hm := fl.m2
  have e1 : Value.agg #[.int .u64 1, .int .u64 0, .int .u64 0, .int .u64 0] = A4 1 := A4_small (k := 1) (by rw [BB_eq]; omega)
  rw [e1]
  refine (joined_any hF fl (fl.in_mod _) (by omega)).mono ?_
  rintro e w' ⟨⟨r, rfl, h⟩, hb⟩
  rw [fl.leave h]
  exact ⟨rfl, hb⟩
theorem ftimesA {w : World} {g o Wd M low one sq Ri a b : Nat} (F : FH w g o Wd M low one sq) (fl : Fld Wd M low one sq Ri) (ha : a < BB ^ Wd) (hb : b < M) :
    Calls Tryz.prog 97 #[.pointer (some ⟨g, o, none⟩), A4 a, A4 b] w fun e w' => e = .returned (A4 (a * b % M)) ∧ Below w.heap.size w w' := by
  refine ftimes_words F _ _ _ _ _ _ _ _ _ _ _ _ _ _ _ _ (fun W hF => enterA hF fl ha) (fun W hF => ?_)
  refine (joined_any hF fl (fl.in_mod _) hb).mono ?_
  rintro e w' ⟨⟨r, rfl, h⟩, hb⟩
  rw [fl.of_entered h]
  exact ⟨rfl, hb⟩
end Go.Proofs.YtohpbclofcflaaaGreat
