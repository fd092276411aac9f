/- Numbers of four words: less, below, and the field's sums and differences. -/
import Derived.Test.YtohpbclofcflaaaGreatNumOf
set_option linter.unusedSimpArgs false
set_option linter.unusedVariables false
namespace Go.Proofs.YtohpbclofcflaaaGreat
open Go.RowKit Go.Deep Go.PlainAid

set_option maxRecDepth 100000 in
set_option maxHeartbeats 2000000 in
theorem less_words (w : World) (x0 x1 x2 x3 m0 m1 m2 m3 z0 z1 z2 z3 b : Nat) (t : Bool) (C : Hid (∀ W, Calls Tryz.prog 89 #[.agg #[U x0, U x1, U x2, U x3], .agg #[U m0, U m1, U m2, U m3]] W fun e w' => e = .returned (.tuple #[.agg #[U z0, U z1, U z2, U z3], U b]) ∧ Below W.heap.size W w')) (ht : ((b : Int) == 1) = t) :
    Calls Tryz.prog 75 #[.agg #[U x0, U x1, U x2, U x3], .agg #[U m0, U m1, U m2, U m3]] w fun e w' => e = .returned (.bool t) ∧ Below w.heap.size w w' := by
  go_enter Tryz.func75, Tryz.ntmps75
  go_wp2_with fail
  obtain ⟨U1, hU1⟩ : ∃ X, X = ((w.alloc (.cells #[U x0, U x1, U x2, U x3] 81)).alloc (.cells #[U m0, U m1, U m2, U m3] 81)) := ⟨_, rfl⟩
  have Jx : Hid (IHolds U1 (w.heap.size) 81 [U x0, U x1, U x2, U x3]) := by
    have q := IHolds.new w 81 [U x0, U x1, U x2, U x3]
    show IHolds _ _ _ _
    rw [hU1]
    exact (q.alloc _)
  have Jm : Hid (IHolds U1 (w.heap.size + 1) 81 [U m0, U m1, U m2, U m3]) := by
    have q := IHolds.new (w.alloc (.cells #[U x0, U x1, U x2, U x3] 81)) 81 [U m0, U m1, U m2, U m3]
    simp only [World.size_alloc, Nat.add_assoc, Nat.reduceAdd] at q
    show IHolds _ _ _ _
    rw [hU1]
    exact q
  have B : Hid (Below w.heap.size w U1) := by
    show Below _ _ _
    rw [hU1]
    exact (((Below.refl _ w).alloc (Nat.le_refl _) _).alloc (by simp only [World.size_alloc]; omega) _)
  rw [← hU1]
  clear hU1
  have zx_0 : U1.cell? ⟨w.heap.size, 0, none⟩ = some (U x0) := IHolds.cell (l := [U x0, U x1, U x2, U x3]) (t := 81) (b := w.heap.size) (w := U1) (Jx.out) 0 (by simp)
  have zx_1 : U1.cell? ⟨w.heap.size, 1, none⟩ = some (U x1) := IHolds.cell (l := [U x0, U x1, U x2, U x3]) (t := 81) (b := w.heap.size) (w := U1) (Jx.out) 1 (by simp)
  have zx_2 : U1.cell? ⟨w.heap.size, 2, none⟩ = some (U x2) := IHolds.cell (l := [U x0, U x1, U x2, U x3]) (t := 81) (b := w.heap.size) (w := U1) (Jx.out) 2 (by simp)
  have zx_3 : U1.cell? ⟨w.heap.size, 3, none⟩ = some (U x3) := IHolds.cell (l := [U x0, U x1, U x2, U x3]) (t := 81) (b := w.heap.size) (w := U1) (Jx.out) 3 (by simp)
  have zm_0 : U1.cell? ⟨w.heap.size + 1, 0, none⟩ = some (U m0) := IHolds.cell (l := [U m0, U m1, U m2, U m3]) (t := 81) (b := w.heap.size + 1) (w := U1) (Jm.out) 0 (by simp)
  have zm_1 : U1.cell? ⟨w.heap.size + 1, 1, none⟩ = some (U m1) := IHolds.cell (l := [U m0, U m1, U m2, U m3]) (t := 81) (b := w.heap.size + 1) (w := U1) (Jm.out) 1 (by simp)
  have zm_2 : U1.cell? ⟨w.heap.size + 1, 2, none⟩ = some (U m2) := IHolds.cell (l := [U m0, U m1, U m2, U m3]) (t := 81) (b := w.heap.size + 1) (w := U1) (Jm.out) 2 (by simp)
  have zm_3 : U1.cell? ⟨w.heap.size + 1, 3, none⟩ = some (U m3) := IHolds.cell (l := [U m0, U m1, U m2, U m3]) (t := 81) (b := w.heap.size + 1) (w := U1) (Jm.out) 3 (by simp)
  go_wp2_with fail
  clear zx_0 zx_1 zx_2 zx_3 zm_0 zm_1 zm_2 zm_3
  refine (C.out U1).mono ?_
  rintro e U2 ⟨rfl, hb⟩
  replace B := aB B hb
  replace Jx := aJ Jx hb
  replace Jm := aJ Jm hb
  clear hb
  have hb := nB U2 (.cells #[U z0, U z1, U z2, U z3] 81)
  have Jd : Hid (IHolds (U2.alloc (.cells #[U z0, U z1, U z2, U z3] 81)) U2.heap.size 81 [U z0, U z1, U z2, U z3]) := IHolds.new _ _ _
  have ne_x_d := nJ Jx
  have ne_m_d := nJ Jm
  have ge_d : Hid (w.heap.size ≤ U2.heap.size) := B.out.size
  replace B := aB B hb
  replace Jx := aJ Jx hb
  replace Jm := aJ Jm hb
  clear hb
  go_wp2_with fail
  generalize (U2.alloc (.cells #[U z0, U z1, U z2, U z3] 81)) = U3 at *
  generalize U2.heap.size = b4 at *
  go_ret
  exact ⟨rfl, B.out⟩
theorem lessA (w : World) {n m : Nat} (hn : n < BB ^ 4) (hm : m < BB ^ 4) : Calls Tryz.prog 75 #[A4 n, A4 m] w fun e w' => e = .returned (.bool (decide (n < m))) ∧ Below w.heap.size w w' := by
  refine less_words w _ _ _ _ _ _ _ _ _ _ _ _ _ _ (fun W => minusA W hn hm) ?_
  unfold borN
  split <;> rename_i h <;> simp [h]
/-- A field in memory. -/
structure FH (w : World) (g o Wd M low one sq : Nat) : Prop where
  c0 : w.cell? ⟨g, o, none⟩ = some (.int .i64 (Wd : Int))
  m0 : w.cell? ⟨g, o + 1, none⟩ = some (U (w4 M 0))
  m1 : w.cell? ⟨g, o + 2, none⟩ = some (U (w4 M 1))
  m2 : w.cell? ⟨g, o + 3, none⟩ = some (U (w4 M 2))
  m3 : w.cell? ⟨g, o + 4, none⟩ = some (U (w4 M 3))
  lo : w.cell? ⟨g, o + 5, none⟩ = some (U low)
  o0 : w.cell? ⟨g, o + 6, none⟩ = some (U (w4 one 0))
  o1 : w.cell? ⟨g, o + 7, none⟩ = some (U (w4 one 1))
  o2 : w.cell? ⟨g, o + 8, none⟩ = some (U (w4 one 2))
  o3 : w.cell? ⟨g, o + 9, none⟩ = some (U (w4 one 3))
  s0 : w.cell? ⟨g, o + 10, none⟩ = some (U (w4 sq 0))
  s1 : w.cell? ⟨g, o + 11, none⟩ = some (U (w4 sq 1))
  s2 : w.cell? ⟨g, o + 12, none⟩ = some (U (w4 sq 2))
  s3 : w.cell? ⟨g, o + 13, none⟩ = some (U (w4 sq 3))
theorem FH.lt {w : World} {g o Wd M low one sq : Nat} (h : FH w g o Wd M low one sq) : g < w.heap.size := World.block_lt_of_cell? w ⟨g, o, none⟩ h.c0
theorem FH.ne {w : World} {g o Wd M low one sq : Nat} (h : FH w g o Wd M low one sq) : g ≠ w.heap.size := by have := h.lt; omega
theorem FH.same {w w' : World} {g o Wd M low one sq : Nat} (h : FH w g o Wd M low one sq) (e : ∀ i, w'.cell? ⟨g, i, none⟩ = w.cell? ⟨g, i, none⟩) : FH w' g o Wd M low one sq := by
  constructor <;> rw [e]
  · exact h.c0
  · exact h.m0
  · exact h.m1
  · exact h.m2
  · exact h.m3
  · exact h.lo
  · exact h.o0
  · exact h.o1
  · exact h.o2
  · exact h.o3
  · exact h.s0
  · exact h.s1
  · exact h.s2
  · exact h.s3
theorem FH.of_below {w w' : World} {g o Wd M low one sq : Nat} (h : FH w g o Wd M low one sq) (hb : Below w.heap.size w w') : FH w' g o Wd M low one sq := h.same fun i => hb.cell h.lt
theorem FH.of_but {w w' : World} {b g o Wd M low one sq : Nat} (h : FH w g o Wd M low one sq) (hb : But b w w') (hne : g ≠ b) : FH w' g o Wd M low one sq := h.same fun i => hb.cell h.lt hne i
theorem aF {w w' : World} {g o Wd M low one sq : Nat} (h : Hid (FH w g o Wd M low one sq)) (hb : Below w.heap.size w w') : Hid (FH w' g o Wd M low one sq) := h.out.of_below hb
theorem tF {w w' : World} {b g o Wd M low one sq : Nat} (h : Hid (FH w g o Wd M low one sq)) (hb : But b w w') (hne : g ≠ b) : Hid (FH w' g o Wd M low one sq) := h.out.of_but hb hne
set_option maxRecDepth 100000 in
set_option maxHeartbeats 2000000 in
theorem below_lt {w : World} {g o Wd M low one sq : Nat} (F : Hid (FH w g o Wd M low one sq)) (x0 x1 x2 x3 z0 z1 z2 z3 b : Nat) (C : Hid (∀ W, Calls Tryz.prog 89 #[.agg #[U x0, U x1, U x2, U x3], .agg #[U (w4 M 0), U (w4 M 1), U (w4 M 2), U (w4 M 3)]] W fun e w' => e = .returned (.tuple #[.agg #[U z0, U z1, U z2, U z3], U b]) ∧ Below W.heap.size W w')) (hb1 : ((b : Int) == 1) = true) :
    Calls Tryz.prog 100 #[.pointer (some ⟨g, o, none⟩), .agg #[U x0, U x1, U x2, U x3]] w fun e w' => e = .returned (.agg #[U x0, U x1, U x2, U x3]) ∧ Below w.heap.size w w' := by
  go_enter Tryz.func100, Tryz.ntmps100
  go_wp2_with fail
  have neF_x : Hid (g ≠ w.heap.size + 0) := by have h := F.out.lt; show _ ≠ _; omega
  have neF_r : Hid (g ≠ w.heap.size + 1) := by have h := F.out.lt; show _ ≠ _; omega
  obtain ⟨U1, hU1⟩ : ∃ X, X = ((w.alloc (.cells #[U x0, U x1, U x2, U x3] 81)).alloc (.cells #[.int .u64 0, .int .u64 0, .int .u64 0, .int .u64 0] 81)) := ⟨_, rfl⟩
  have Jx : Hid (IHolds U1 (w.heap.size) 81 [U x0, U x1, U x2, U x3]) := by
    have q := IHolds.new w 81 [U x0, U x1, U x2, U x3]
    show IHolds _ _ _ _
    rw [hU1]
    exact (q.alloc _)
  have Jr : Hid (IHolds U1 (w.heap.size + 1) 81 [.int .u64 0, .int .u64 0, .int .u64 0, .int .u64 0]) := by
    have q := IHolds.new (w.alloc (.cells #[U x0, U x1, U x2, U x3] 81)) 81 [.int .u64 0, .int .u64 0, .int .u64 0, .int .u64 0]
    simp only [World.size_alloc, Nat.add_assoc, Nat.reduceAdd] at q
    show IHolds _ _ _ _
    rw [hU1]
    exact q
  have B : Hid (Below w.heap.size w U1) := by
    show Below _ _ _
    rw [hU1]
    exact (((Below.refl _ w).alloc (Nat.le_refl _) _).alloc (by simp only [World.size_alloc]; omega) _)
  rw [← hU1]
  clear hU1
  replace F := aF F (show Below w.heap.size w U1 from B.out)
  have hb := dB U1
  replace F := aF F hb
  replace B := aB B hb
  replace Jx := aJ Jx hb
  replace Jr := aJ Jr hb
  clear hb
  refine wp_region_held_drew (S := fun W => (IHolds W (w.heap.size) 81 [U x0, U x1, U x2, U x3]) ∧ (FH W g o Wd M low one sq)) (by kernel_rfl) ⟨Jx.out, F.out⟩ (fun hHeld1 => ?_)
  generalize U1.drew = U2 at *
  refine tk (i := 0) (v := .agg #[U x0, U x1, U x2, U x3]) rfl (by kernel_rfl) (fun _ _ _ h => h) rfl ?_ hHeld1 ?_
  · intro W hS; have zx_0 : W.cell? ⟨w.heap.size, 0, none⟩ = some (U x0) := IHolds.cell (l := [U x0, U x1, U x2, U x3]) (t := 81) (b := w.heap.size) (w := W) (hS.1) 0 (by simp); have zx_1 : W.cell? ⟨w.heap.size, 1, none⟩ = some (U x1) := IHolds.cell (l := [U x0, U x1, U x2, U x3]) (t := 81) (b := w.heap.size) (w := W) (hS.1) 1 (by simp); have zx_2 : W.cell? ⟨w.heap.size, 2, none⟩ = some (U x2) := IHolds.cell (l := [U x0, U x1, U x2, U x3]) (t := 81) (b := w.heap.size) (w := W) (hS.1) 2 (by simp); have zx_3 : W.cell? ⟨w.heap.size, 3, none⟩ = some (U x3) := IHolds.cell (l := [U x0, U x1, U x2, U x3]) (t := 81) (b := w.heap.size) (w := W) (hS.1) 3 (by simp); go_simp
  simp only [Act.put, y1, y2, y3, y4, y5, y6, y7]
  refine tk (i := 1) (v := .pointer (some ⟨g, o, none⟩)) rfl (by kernel_rfl) (fun _ _ _ h => h) rfl ?_ hHeld1 ?_
  · intro W hS; go_simp
  simp only [Act.put, y1, y2, y3, y4, y5, y6, y7]
  refine tk (i := 2) (v := .pointer (some ⟨g, o, none⟩)) rfl (by kernel_rfl) (fun _ _ _ h => h) rfl ?_ hHeld1 ?_
  · intro W hS; go_simp
  simp only [Act.put, y1, y2, y3, y4, y5, y6, y7]
  refine tk (i := 3) (v := .pointer (some ⟨g, o + 1, none⟩)) rfl (by kernel_rfl) (fun _ _ _ h => h) rfl ?_ hHeld1 ?_
  · intro W hS; go_simp
  simp only [Act.put, y1, y2, y3, y4, y5, y6, y7]
  refine tk (i := 4) (v := .agg #[U (w4 M 0), U (w4 M 1), U (w4 M 2), U (w4 M 3)]) rfl (by kernel_rfl) (fun _ _ _ h => h) rfl ?_ hHeld1 ?_
  · intro W hS; have fz := hS.2; have fz0 := fz.c0; have fz1 := fz.m0; have fz2 := fz.m1; have fz3 := fz.m2; have fz4 := fz.m3; have fz5 := fz.lo; have fz6 := fz.o0; have fz7 := fz.o1; have fz8 := fz.o2; have fz9 := fz.o3; have fz10 := fz.s0; have fz11 := fz.s1; have fz12 := fz.s2; have fz13 := fz.s3; go_simp
  simp only [Act.put, y1, y2, y3, y4, y5, y6, y7]
  refine wpAnyH_ready (rs := [5, 9]) (by kernel_rfl) (by simp) ?_
  refine AllReadyH.cons rfl (fun K hK => ?_) (AllReadyH.cons rfl (fun K hK => ?_) AllReadyH.nil)
  · clear hHeld1
    go_simp
    refine (C.out U2).mono ?_
    rintro e U3 ⟨rfl, hb⟩
    replace F := aF F hb
    replace B := aB B hb
    replace Jx := aJ Jx hb
    replace Jr := aJ Jr hb
    clear hb
    go_wp2_with fail
    refine hK.out _ _ (⟨Jx.out, F.out⟩) (fun hHeld2 => ?_)
    clear hK K
    try simp only [Act.put, y1, y2, y3, y4, y5, y6, y7]
    refine tk (i := 6) (v := .tuple #[.agg #[U z0, U z1, U z2, U z3], U b]) rfl (by kernel_rfl) (fun _ _ _ h => h) rfl ?_ hHeld2 ?_
    · intro W hS; go_simp
    simp only [Act.put, y1, y2, y3, y4, y5, y6, y7]
    refine tk (i := 7) (v := .agg #[U z0, U z1, U z2, U z3]) rfl (by kernel_rfl) (fun _ _ _ h => h) rfl ?_ hHeld2 ?_
    · intro W hS; go_simp
    simp only [Act.put, y1, y2, y3, y4, y5, y6, y7]
    refine tk (i := 8) (v := U b) rfl (by kernel_rfl) (fun _ _ _ h => h) rfl ?_ hHeld2 ?_
    · intro W hS; go_simp
    simp only [Act.put, y1, y2, y3, y4, y5, y6, y7]
    refine wpAnyH_ready (rs := [9]) (by kernel_rfl) (by simp) ?_
    refine AllReadyH.cons rfl (fun K hK => ?_) AllReadyH.nil
    clear hHeld2
    have neF_d : Hid (g ≠ U3.heap.size) := F.out.ne
    go_simp
    have ne_x_d := nJ Jx
    have ne_r_d := nJ Jr
    have ge_d : Hid (w.heap.size ≤ U3.heap.size) := B.out.size
    have hb := nB U3 (.cells #[.int .u64 0, .int .u64 0, .int .u64 0, .int .u64 0] 81)
    have Jd : Hid (IHolds (U3.alloc (.cells #[.int .u64 0, .int .u64 0, .int .u64 0, .int .u64 0] 81)) U3.heap.size 81 [.int .u64 0, .int .u64 0, .int .u64 0, .int .u64 0]) := IHolds.new _ _ _
    replace F := aF F hb
    replace B := aB B hb
    replace Jx := aJ Jx hb
    replace Jr := aJ Jr hb
    clear hb
    generalize (U3.alloc (.cells #[.int .u64 0, .int .u64 0, .int .u64 0, .int .u64 0] 81)) = U4 at *
    generalize U3.heap.size = b5 at *
    refine hK.out _ _ (⟨Jx.out, F.out⟩) (fun hHeld3 => ?_)
    clear hK K
    try simp only [Act.put, y1, y2, y3, y4, y5, y6, y7]
    refine wpAnyH_ready (rs := [10]) (by kernel_rfl) (by simp) ?_
    refine AllReadyH.cons rfl (fun K hK => ?_) AllReadyH.nil
    clear hHeld3
    have zd_0 : U4.cell? ⟨b5, 0, none⟩ = some (.int .u64 0) := IHolds.cell (l := [.int .u64 0, .int .u64 0, .int .u64 0, .int .u64 0]) (t := 81) (b := b5) (w := U4) (Jd.out) 0 (by simp)
    have zd_1 : U4.cell? ⟨b5, 1, none⟩ = some (.int .u64 0) := IHolds.cell (l := [.int .u64 0, .int .u64 0, .int .u64 0, .int .u64 0]) (t := 81) (b := b5) (w := U4) (Jd.out) 1 (by simp)
    have zd_2 : U4.cell? ⟨b5, 2, none⟩ = some (.int .u64 0) := IHolds.cell (l := [.int .u64 0, .int .u64 0, .int .u64 0, .int .u64 0]) (t := 81) (b := b5) (w := U4) (Jd.out) 2 (by simp)
    have zd_3 : U4.cell? ⟨b5, 3, none⟩ = some (.int .u64 0) := IHolds.cell (l := [.int .u64 0, .int .u64 0, .int .u64 0, .int .u64 0]) (t := 81) (b := b5) (w := U4) (Jd.out) 3 (by simp)
    have f0 := fJ Jd
    have hBut : But (b5) U4 ((((U4.setCell ⟨b5, 0, none⟩ (U z0)).setCell ⟨b5, 1, none⟩ (U z1)).setCell ⟨b5, 2, none⟩ (U z2)).setCell ⟨b5, 3, none⟩ (U z3)) := (((((But.refl _ U4).setCell 0 (U z0)).setCell 1 (U z1)).setCell 2 (U z2)).setCell 3 (U z3))
    replace F := tF F hBut neF_d.out
    have I4 : Hid (IHolds _ (b5) 81 [U z0, U z1, U z2, U z3]) := ((((Jd.out.set 0 (U z0)).set 1 (U z1)).set 2 (U z2)).set 3 (U z3))
    replace B : Hid (Below w.heap.size w ((((U4.setCell ⟨b5, 0, none⟩ (U z0)).setCell ⟨b5, 1, none⟩ (U z1)).setCell ⟨b5, 2, none⟩ (U z2)).setCell ⟨b5, 3, none⟩ (U z3))) := ((((B.out.setCell (by first | exact Nat.le_refl _ | exact ge_d.out | (show w.heap.size ≤ b5; omega)) _).setCell (by first | exact Nat.le_refl _ | exact ge_d.out | (show w.heap.size ≤ b5; omega)) _).setCell (by first | exact Nat.le_refl _ | exact ge_d.out | (show w.heap.size ≤ b5; omega)) _).setCell (by first | exact Nat.le_refl _ | exact ge_d.out | (show w.heap.size ≤ b5; omega)) _)
    replace Jx := tJ Jx hBut ne_x_d.out
    replace Jr := tJ Jr hBut ne_r_d.out
    replace Jd := I4
    clear I4 hBut
    go_simp
    try go_wp2_with fail
    clear zd_0 zd_1 zd_2 zd_3
    clear f0
    generalize ((((U4.setCell ⟨b5, 0, none⟩ (U z0)).setCell ⟨b5, 1, none⟩ (U z1)).setCell ⟨b5, 2, none⟩ (U z2)).setCell ⟨b5, 3, none⟩ (U z3)) = U6 at *
    refine hK.out _ _ (⟨Jx.out, F.out⟩) (fun hHeld4 => ?_)
    clear hK K
    try simp only [Act.put, y1, y2, y3, y4, y5, y6, y7]
    refine tk (i := 11) (v := U b) rfl (by kernel_rfl) (fun _ _ _ h => h) rfl ?_ hHeld4 ?_
    · intro W hS; go_simp
    simp only [Act.put, y1, y2, y3, y4, y5, y6, y7]
    refine wpAnyH_done (by kernel_rfl) ?_ _
    clear hHeld4
    have Kx : Hid (IHolds U6 (w.heap.size) 81 [U x0, U x1, U x2, U x3]) := Jx.out
    have zr_0 : U6.cell? ⟨w.heap.size + 1, 0, none⟩ = some (.int .u64 0) := IHolds.cell (l := [.int .u64 0, .int .u64 0, .int .u64 0, .int .u64 0]) (t := 81) (b := w.heap.size + 1) (w := U6) (Jr.out) 0 (by simp)
    have zr_1 : U6.cell? ⟨w.heap.size + 1, 1, none⟩ = some (.int .u64 0) := IHolds.cell (l := [.int .u64 0, .int .u64 0, .int .u64 0, .int .u64 0]) (t := 81) (b := w.heap.size + 1) (w := U6) (Jr.out) 1 (by simp)
    have zr_2 : U6.cell? ⟨w.heap.size + 1, 2, none⟩ = some (.int .u64 0) := IHolds.cell (l := [.int .u64 0, .int .u64 0, .int .u64 0, .int .u64 0]) (t := 81) (b := w.heap.size + 1) (w := U6) (Jr.out) 2 (by simp)
    have zr_3 : U6.cell? ⟨w.heap.size + 1, 3, none⟩ = some (.int .u64 0) := IHolds.cell (l := [.int .u64 0, .int .u64 0, .int .u64 0, .int .u64 0]) (t := 81) (b := w.heap.size + 1) (w := U6) (Jr.out) 3 (by simp)
    have f0 := fJ Jr
    have hBut : But (w.heap.size + 1) U6 ((((U6.setCell ⟨w.heap.size + 1, 0, none⟩ (U x0)).setCell ⟨w.heap.size + 1, 1, none⟩ (U x1)).setCell ⟨w.heap.size + 1, 2, none⟩ (U x2)).setCell ⟨w.heap.size + 1, 3, none⟩ (U x3)) := (((((But.refl _ U6).setCell 0 (U x0)).setCell 1 (U x1)).setCell 2 (U x2)).setCell 3 (U x3))
    replace F := tF F hBut neF_r.out
    have I4 : Hid (IHolds _ (w.heap.size + 1) 81 [U x0, U x1, U x2, U x3]) := ((((Jr.out.set 0 (U x0)).set 1 (U x1)).set 2 (U x2)).set 3 (U x3))
    replace B : Hid (Below w.heap.size w ((((U6.setCell ⟨w.heap.size + 1, 0, none⟩ (U x0)).setCell ⟨w.heap.size + 1, 1, none⟩ (U x1)).setCell ⟨w.heap.size + 1, 2, none⟩ (U x2)).setCell ⟨w.heap.size + 1, 3, none⟩ (U x3))) := ((((B.out.setCell (by first | exact Nat.le_refl _ | exact ge_r.out | (show w.heap.size ≤ w.heap.size + 1; omega)) _).setCell (by first | exact Nat.le_refl _ | exact ge_r.out | (show w.heap.size ≤ w.heap.size + 1; omega)) _).setCell (by first | exact Nat.le_refl _ | exact ge_r.out | (show w.heap.size ≤ w.heap.size + 1; omega)) _).setCell (by first | exact Nat.le_refl _ | exact ge_r.out | (show w.heap.size ≤ w.heap.size + 1; omega)) _)
    replace Jx := tJ Jx hBut (by omega)
    replace Jd := tJ Jd hBut (fun h => ne_r_d.out h.symm)
    replace Jr := I4
    clear I4 hBut
    have zx_0 : U6.cell? ⟨w.heap.size, 0, none⟩ = some (U x0) := IHolds.cell (l := [U x0, U x1, U x2, U x3]) (t := 81) (b := w.heap.size) (w := U6) (Kx.out) 0 (by simp)
    have zx_1 : U6.cell? ⟨w.heap.size, 1, none⟩ = some (U x1) := IHolds.cell (l := [U x0, U x1, U x2, U x3]) (t := 81) (b := w.heap.size) (w := U6) (Kx.out) 1 (by simp)
    have zx_2 : U6.cell? ⟨w.heap.size, 2, none⟩ = some (U x2) := IHolds.cell (l := [U x0, U x1, U x2, U x3]) (t := 81) (b := w.heap.size) (w := U6) (Kx.out) 2 (by simp)
    have zx_3 : U6.cell? ⟨w.heap.size, 3, none⟩ = some (U x3) := IHolds.cell (l := [U x0, U x1, U x2, U x3]) (t := 81) (b := w.heap.size) (w := U6) (Kx.out) 3 (by simp)
    go_wp2_with fail
    clear zx_0 zx_1 zx_2 zx_3
    clear Kx
    clear zr_0 zr_1 zr_2 zr_3
    clear f0
    generalize ((((U6.setCell ⟨w.heap.size + 1, 0, none⟩ (U x0)).setCell ⟨w.heap.size + 1, 1, none⟩ (U x1)).setCell ⟨w.heap.size + 1, 2, none⟩ (U x2)).setCell ⟨w.heap.size + 1, 3, none⟩ (U x3)) = U7 at *
    have E0 : Hid (U7.cell? ⟨w.heap.size + 1, 0, none⟩ = some (U x0)) := IHolds.cell (l := [U x0, U x1, U x2, U x3]) (t := 81) (b := w.heap.size + 1) (w := U7) Jr.out 0 (by simp)
    have E1 : Hid (U7.cell? ⟨w.heap.size + 1, 1, none⟩ = some (U x1)) := IHolds.cell (l := [U x0, U x1, U x2, U x3]) (t := 81) (b := w.heap.size + 1) (w := U7) Jr.out 1 (by simp)
    have E2 : Hid (U7.cell? ⟨w.heap.size + 1, 2, none⟩ = some (U x2)) := IHolds.cell (l := [U x0, U x1, U x2, U x3]) (t := 81) (b := w.heap.size + 1) (w := U7) Jr.out 2 (by simp)
    have E3 : Hid (U7.cell? ⟨w.heap.size + 1, 3, none⟩ = some (U x3)) := IHolds.cell (l := [U x0, U x1, U x2, U x3]) (t := 81) (b := w.heap.size + 1) (w := U7) Jr.out 3 (by simp)
    exact bodyPost_ret (v := .agg #[U x0, U x1, U x2, U x3]) (by simp [results, Tryz.results100, go_sem, E0.out, E1.out, E2.out, E3.out]) rfl ⟨rfl, B.out⟩
  · clear hHeld1
    have neF_d : Hid (g ≠ U2.heap.size) := F.out.ne
    go_simp
    have ne_x_d := nJ Jx
    have ne_r_d := nJ Jr
    have ge_d : Hid (w.heap.size ≤ U2.heap.size) := B.out.size
    have hb := nB U2 (.cells #[.int .u64 0, .int .u64 0, .int .u64 0, .int .u64 0] 81)
    have Jd : Hid (IHolds (U2.alloc (.cells #[.int .u64 0, .int .u64 0, .int .u64 0, .int .u64 0] 81)) U2.heap.size 81 [.int .u64 0, .int .u64 0, .int .u64 0, .int .u64 0]) := IHolds.new _ _ _
    replace F := aF F hb
    replace B := aB B hb
    replace Jx := aJ Jx hb
    replace Jr := aJ Jr hb
    clear hb
    generalize (U2.alloc (.cells #[.int .u64 0, .int .u64 0, .int .u64 0, .int .u64 0] 81)) = U8 at *
    generalize U2.heap.size = b9 at *
    refine hK.out _ _ (⟨Jx.out, F.out⟩) (fun hHeld5 => ?_)
    clear hK K
    try simp only [Act.put, y1, y2, y3, y4, y5, y6, y7]
    refine wpAnyH_ready (rs := [5]) (by kernel_rfl) (by simp) ?_
    refine AllReadyH.cons rfl (fun K hK => ?_) AllReadyH.nil
    clear hHeld5
    go_simp
    refine (C.out U8).mono ?_
    rintro e U10 ⟨rfl, hb⟩
    replace F := aF F hb
    replace B := aB B hb
    replace Jx := aJ Jx hb
    replace Jr := aJ Jr hb
    replace Jd := aJ Jd hb
    clear hb
    go_wp2_with fail
    refine hK.out _ _ (⟨Jx.out, F.out⟩) (fun hHeld6 => ?_)
    clear hK K
    try simp only [Act.put, y1, y2, y3, y4, y5, y6, y7]
    refine tk (i := 6) (v := .tuple #[.agg #[U z0, U z1, U z2, U z3], U b]) rfl (by kernel_rfl) (fun _ _ _ h => h) rfl ?_ hHeld6 ?_
    · intro W hS; go_simp
    simp only [Act.put, y1, y2, y3, y4, y5, y6, y7]
    refine tk (i := 7) (v := .agg #[U z0, U z1, U z2, U z3]) rfl (by kernel_rfl) (fun _ _ _ h => h) rfl ?_ hHeld6 ?_
    · intro W hS; go_simp
    simp only [Act.put, y1, y2, y3, y4, y5, y6, y7]
    refine tk (i := 8) (v := U b) rfl (by kernel_rfl) (fun _ _ _ h => h) rfl ?_ hHeld6 ?_
    · intro W hS; go_simp
    simp only [Act.put, y1, y2, y3, y4, y5, y6, y7]
    refine wpAnyH_ready (rs := [10]) (by kernel_rfl) (by simp) ?_
    refine AllReadyH.cons rfl (fun K hK => ?_) AllReadyH.nil
    clear hHeld6
    have zd_0 : U10.cell? ⟨b9, 0, none⟩ = some (.int .u64 0) := IHolds.cell (l := [.int .u64 0, .int .u64 0, .int .u64 0, .int .u64 0]) (t := 81) (b := b9) (w := U10) (Jd.out) 0 (by simp)
    have zd_1 : U10.cell? ⟨b9, 1, none⟩ = some (.int .u64 0) := IHolds.cell (l := [.int .u64 0, .int .u64 0, .int .u64 0, .int .u64 0]) (t := 81) (b := b9) (w := U10) (Jd.out) 1 (by simp)
    have zd_2 : U10.cell? ⟨b9, 2, none⟩ = some (.int .u64 0) := IHolds.cell (l := [.int .u64 0, .int .u64 0, .int .u64 0, .int .u64 0]) (t := 81) (b := b9) (w := U10) (Jd.out) 2 (by simp)
    have zd_3 : U10.cell? ⟨b9, 3, none⟩ = some (.int .u64 0) := IHolds.cell (l := [.int .u64 0, .int .u64 0, .int .u64 0, .int .u64 0]) (t := 81) (b := b9) (w := U10) (Jd.out) 3 (by simp)
    have f0 := fJ Jd
    have hBut : But (b9) U10 ((((U10.setCell ⟨b9, 0, none⟩ (U z0)).setCell ⟨b9, 1, none⟩ (U z1)).setCell ⟨b9, 2, none⟩ (U z2)).setCell ⟨b9, 3, none⟩ (U z3)) := (((((But.refl _ U10).setCell 0 (U z0)).setCell 1 (U z1)).setCell 2 (U z2)).setCell 3 (U z3))
    replace F := tF F hBut neF_d.out
    have I4 : Hid (IHolds _ (b9) 81 [U z0, U z1, U z2, U z3]) := ((((Jd.out.set 0 (U z0)).set 1 (U z1)).set 2 (U z2)).set 3 (U z3))
    replace B : Hid (Below w.heap.size w ((((U10.setCell ⟨b9, 0, none⟩ (U z0)).setCell ⟨b9, 1, none⟩ (U z1)).setCell ⟨b9, 2, none⟩ (U z2)).setCell ⟨b9, 3, none⟩ (U z3))) := ((((B.out.setCell (by first | exact Nat.le_refl _ | exact ge_d.out | (show w.heap.size ≤ b9; omega)) _).setCell (by first | exact Nat.le_refl _ | exact ge_d.out | (show w.heap.size ≤ b9; omega)) _).setCell (by first | exact Nat.le_refl _ | exact ge_d.out | (show w.heap.size ≤ b9; omega)) _).setCell (by first | exact Nat.le_refl _ | exact ge_d.out | (show w.heap.size ≤ b9; omega)) _)
    replace Jx := tJ Jx hBut ne_x_d.out
    replace Jr := tJ Jr hBut ne_r_d.out
    replace Jd := I4
    clear I4 hBut
    go_simp
    try go_wp2_with fail
    clear zd_0 zd_1 zd_2 zd_3
    clear f0
    generalize ((((U10.setCell ⟨b9, 0, none⟩ (U z0)).setCell ⟨b9, 1, none⟩ (U z1)).setCell ⟨b9, 2, none⟩ (U z2)).setCell ⟨b9, 3, none⟩ (U z3)) = U11 at *
    refine hK.out _ _ (⟨Jx.out, F.out⟩) (fun hHeld7 => ?_)
    clear hK K
    try simp only [Act.put, y1, y2, y3, y4, y5, y6, y7]
    refine tk (i := 11) (v := U b) rfl (by kernel_rfl) (fun _ _ _ h => h) rfl ?_ hHeld7 ?_
    · intro W hS; go_simp
    simp only [Act.put, y1, y2, y3, y4, y5, y6, y7]
    refine wpAnyH_done (by kernel_rfl) ?_ _
    clear hHeld7
    have Kx : Hid (IHolds U11 (w.heap.size) 81 [U x0, U x1, U x2, U x3]) := Jx.out
    have zr_0 : U11.cell? ⟨w.heap.size + 1, 0, none⟩ = some (.int .u64 0) := IHolds.cell (l := [.int .u64 0, .int .u64 0, .int .u64 0, .int .u64 0]) (t := 81) (b := w.heap.size + 1) (w := U11) (Jr.out) 0 (by simp)
    have zr_1 : U11.cell? ⟨w.heap.size + 1, 1, none⟩ = some (.int .u64 0) := IHolds.cell (l := [.int .u64 0, .int .u64 0, .int .u64 0, .int .u64 0]) (t := 81) (b := w.heap.size + 1) (w := U11) (Jr.out) 1 (by simp)
    have zr_2 : U11.cell? ⟨w.heap.size + 1, 2, none⟩ = some (.int .u64 0) := IHolds.cell (l := [.int .u64 0, .int .u64 0, .int .u64 0, .int .u64 0]) (t := 81) (b := w.heap.size + 1) (w := U11) (Jr.out) 2 (by simp)
    have zr_3 : U11.cell? ⟨w.heap.size + 1, 3, none⟩ = some (.int .u64 0) := IHolds.cell (l := [.int .u64 0, .int .u64 0, .int .u64 0, .int .u64 0]) (t := 81) (b := w.heap.size + 1) (w := U11) (Jr.out) 3 (by simp)
    have f0 := fJ Jr
    have hBut : But (w.heap.size + 1) U11 ((((U11.setCell ⟨w.heap.size + 1, 0, none⟩ (U x0)).setCell ⟨w.heap.size + 1, 1, none⟩ (U x1)).setCell ⟨w.heap.size + 1, 2, none⟩ (U x2)).setCell ⟨w.heap.size + 1, 3, none⟩ (U x3)) := (((((But.refl _ U11).setCell 0 (U x0)).setCell 1 (U x1)).setCell 2 (U x2)).setCell 3 (U x3))
    replace F := tF F hBut neF_r.out
    have I4 : Hid (IHolds _ (w.heap.size + 1) 81 [U x0, U x1, U x2, U x3]) := ((((Jr.out.set 0 (U x0)).set 1 (U x1)).set 2 (U x2)).set 3 (U x3))
    replace B : Hid (Below w.heap.size w ((((U11.setCell ⟨w.heap.size + 1, 0, none⟩ (U x0)).setCell ⟨w.heap.size + 1, 1, none⟩ (U x1)).setCell ⟨w.heap.size + 1, 2, none⟩ (U x2)).setCell ⟨w.heap.size + 1, 3, none⟩ (U x3))) := ((((B.out.setCell (by first | exact Nat.le_refl _ | exact ge_r.out | (show w.heap.size ≤ w.heap.size + 1; omega)) _).setCell (by first | exact Nat.le_refl _ | exact ge_r.out | (show w.heap.size ≤ w.heap.size + 1; omega)) _).setCell (by first | exact Nat.le_refl _ | exact ge_r.out | (show w.heap.size ≤ w.heap.size + 1; omega)) _).setCell (by first | exact Nat.le_refl _ | exact ge_r.out | (show w.heap.size ≤ w.heap.size + 1; omega)) _)
    replace Jx := tJ Jx hBut (by omega)
    replace Jd := tJ Jd hBut (fun h => ne_r_d.out h.symm)
    replace Jr := I4
    clear I4 hBut
    have zx_0 : U11.cell? ⟨w.heap.size, 0, none⟩ = some (U x0) := IHolds.cell (l := [U x0, U x1, U x2, U x3]) (t := 81) (b := w.heap.size) (w := U11) (Kx.out) 0 (by simp)
    have zx_1 : U11.cell? ⟨w.heap.size, 1, none⟩ = some (U x1) := IHolds.cell (l := [U x0, U x1, U x2, U x3]) (t := 81) (b := w.heap.size) (w := U11) (Kx.out) 1 (by simp)
    have zx_2 : U11.cell? ⟨w.heap.size, 2, none⟩ = some (U x2) := IHolds.cell (l := [U x0, U x1, U x2, U x3]) (t := 81) (b := w.heap.size) (w := U11) (Kx.out) 2 (by simp)
    have zx_3 : U11.cell? ⟨w.heap.size, 3, none⟩ = some (U x3) := IHolds.cell (l := [U x0, U x1, U x2, U x3]) (t := 81) (b := w.heap.size) (w := U11) (Kx.out) 3 (by simp)
    go_wp2_with fail
    clear zx_0 zx_1 zx_2 zx_3
    clear Kx
    clear zr_0 zr_1 zr_2 zr_3
    clear f0
    generalize ((((U11.setCell ⟨w.heap.size + 1, 0, none⟩ (U x0)).setCell ⟨w.heap.size + 1, 1, none⟩ (U x1)).setCell ⟨w.heap.size + 1, 2, none⟩ (U x2)).setCell ⟨w.heap.size + 1, 3, none⟩ (U x3)) = U12 at *
    have E0 : Hid (U12.cell? ⟨w.heap.size + 1, 0, none⟩ = some (U x0)) := IHolds.cell (l := [U x0, U x1, U x2, U x3]) (t := 81) (b := w.heap.size + 1) (w := U12) Jr.out 0 (by simp)
    have E1 : Hid (U12.cell? ⟨w.heap.size + 1, 1, none⟩ = some (U x1)) := IHolds.cell (l := [U x0, U x1, U x2, U x3]) (t := 81) (b := w.heap.size + 1) (w := U12) Jr.out 1 (by simp)
    have E2 : Hid (U12.cell? ⟨w.heap.size + 1, 2, none⟩ = some (U x2)) := IHolds.cell (l := [U x0, U x1, U x2, U x3]) (t := 81) (b := w.heap.size + 1) (w := U12) Jr.out 2 (by simp)
    have E3 : Hid (U12.cell? ⟨w.heap.size + 1, 3, none⟩ = some (U x3)) := IHolds.cell (l := [U x0, U x1, U x2, U x3]) (t := 81) (b := w.heap.size + 1) (w := U12) Jr.out 3 (by simp)
    exact bodyPost_ret (v := .agg #[U x0, U x1, U x2, U x3]) (by simp [results, Tryz.results100, go_sem, E0.out, E1.out, E2.out, E3.out]) rfl ⟨rfl, B.out⟩
set_option maxRecDepth 100000 in
set_option maxHeartbeats 2000000 in
theorem below_ge {w : World} {g o Wd M low one sq : Nat} (F : Hid (FH w g o Wd M low one sq)) (x0 x1 x2 x3 z0 z1 z2 z3 b : Nat) (C : Hid (∀ W, Calls Tryz.prog 89 #[.agg #[U x0, U x1, U x2, U x3], .agg #[U (w4 M 0), U (w4 M 1), U (w4 M 2), U (w4 M 3)]] W fun e w' => e = .returned (.tuple #[.agg #[U z0, U z1, U z2, U z3], U b]) ∧ Below W.heap.size W w')) (hb1 : ((b : Int) == 1) = false) :
    Calls Tryz.prog 100 #[.pointer (some ⟨g, o, none⟩), .agg #[U x0, U x1, U x2, U x3]] w fun e w' => e = .returned (.agg #[U z0, U z1, U z2, U z3]) ∧ Below w.heap.size w w' := by
  go_enter Tryz.func100, Tryz.ntmps100
  go_wp2_with fail
  have neF_x : Hid (g ≠ w.heap.size + 0) := by have h := F.out.lt; show _ ≠ _; omega
  have neF_r : Hid (g ≠ w.heap.size + 1) := by have h := F.out.lt; show _ ≠ _; omega
  obtain ⟨U1, hU1⟩ : ∃ X, X = ((w.alloc (.cells #[U x0, U x1, U x2, U x3] 81)).alloc (.cells #[.int .u64 0, .int .u64 0, .int .u64 0, .int .u64 0] 81)) := ⟨_, rfl⟩
  have Jx : Hid (IHolds U1 (w.heap.size) 81 [U x0, U x1, U x2, U x3]) := by
    have q := IHolds.new w 81 [U x0, U x1, U x2, U x3]
    show IHolds _ _ _ _
    rw [hU1]
    exact (q.alloc _)
  have Jr : Hid (IHolds U1 (w.heap.size + 1) 81 [.int .u64 0, .int .u64 0, .int .u64 0, .int .u64 0]) := by
    have q := IHolds.new (w.alloc (.cells #[U x0, U x1, U x2, U x3] 81)) 81 [.int .u64 0, .int .u64 0, .int .u64 0, .int .u64 0]
    simp only [World.size_alloc, Nat.add_assoc, Nat.reduceAdd] at q
    show IHolds _ _ _ _
    rw [hU1]
    exact q
  have B : Hid (Below w.heap.size w U1) := by
    show Below _ _ _
    rw [hU1]
    exact (((Below.refl _ w).alloc (Nat.le_refl _) _).alloc (by simp only [World.size_alloc]; omega) _)
  rw [← hU1]
  clear hU1
  replace F := aF F (show Below w.heap.size w U1 from B.out)
  have hb := dB U1
  replace F := aF F hb
  replace B := aB B hb
  replace Jx := aJ Jx hb
  replace Jr := aJ Jr hb
  clear hb
  refine wp_region_held_drew (S := fun W => (IHolds W (w.heap.size) 81 [U x0, U x1, U x2, U x3]) ∧ (FH W g o Wd M low one sq)) (by kernel_rfl) ⟨Jx.out, F.out⟩ (fun hHeld1 => ?_)
  generalize U1.drew = U2 at *
  refine tk (i := 0) (v := .agg #[U x0, U x1, U x2, U x3]) rfl (by kernel_rfl) (fun _ _ _ h => h) rfl ?_ hHeld1 ?_
  · intro W hS; have zx_0 : W.cell? ⟨w.heap.size, 0, none⟩ = some (U x0) := IHolds.cell (l := [U x0, U x1, U x2, U x3]) (t := 81) (b := w.heap.size) (w := W) (hS.1) 0 (by simp); have zx_1 : W.cell? ⟨w.heap.size, 1, none⟩ = some (U x1) := IHolds.cell (l := [U x0, U x1, U x2, U x3]) (t := 81) (b := w.heap.size) (w := W) (hS.1) 1 (by simp); have zx_2 : W.cell? ⟨w.heap.size, 2, none⟩ = some (U x2) := IHolds.cell (l := [U x0, U x1, U x2, U x3]) (t := 81) (b := w.heap.size) (w := W) (hS.1) 2 (by simp); have zx_3 : W.cell? ⟨w.heap.size, 3, none⟩ = some (U x3) := IHolds.cell (l := [U x0, U x1, U x2, U x3]) (t := 81) (b := w.heap.size) (w := W) (hS.1) 3 (by simp); go_simp
  simp only [Act.put, y1, y2, y3, y4, y5, y6, y7]
  refine tk (i := 1) (v := .pointer (some ⟨g, o, none⟩)) rfl (by kernel_rfl) (fun _ _ _ h => h) rfl ?_ hHeld1 ?_
  · intro W hS; go_simp
  simp only [Act.put, y1, y2, y3, y4, y5, y6, y7]
  refine tk (i := 2) (v := .pointer (some ⟨g, o, none⟩)) rfl (by kernel_rfl) (fun _ _ _ h => h) rfl ?_ hHeld1 ?_
  · intro W hS; go_simp
  simp only [Act.put, y1, y2, y3, y4, y5, y6, y7]
  refine tk (i := 3) (v := .pointer (some ⟨g, o + 1, none⟩)) rfl (by kernel_rfl) (fun _ _ _ h => h) rfl ?_ hHeld1 ?_
  · intro W hS; go_simp
  simp only [Act.put, y1, y2, y3, y4, y5, y6, y7]
  refine tk (i := 4) (v := .agg #[U (w4 M 0), U (w4 M 1), U (w4 M 2), U (w4 M 3)]) rfl (by kernel_rfl) (fun _ _ _ h => h) rfl ?_ hHeld1 ?_
  · intro W hS; have fz := hS.2; have fz0 := fz.c0; have fz1 := fz.m0; have fz2 := fz.m1; have fz3 := fz.m2; have fz4 := fz.m3; have fz5 := fz.lo; have fz6 := fz.o0; have fz7 := fz.o1; have fz8 := fz.o2; have fz9 := fz.o3; have fz10 := fz.s0; have fz11 := fz.s1; have fz12 := fz.s2; have fz13 := fz.s3; go_simp
  simp only [Act.put, y1, y2, y3, y4, y5, y6, y7]
  refine wpAnyH_ready (rs := [5, 9]) (by kernel_rfl) (by simp) ?_
  refine AllReadyH.cons rfl (fun K hK => ?_) (AllReadyH.cons rfl (fun K hK => ?_) AllReadyH.nil)
  · clear hHeld1
    go_simp
    refine (C.out U2).mono ?_
    rintro e U3 ⟨rfl, hb⟩
    replace F := aF F hb
    replace B := aB B hb
    replace Jx := aJ Jx hb
    replace Jr := aJ Jr hb
    clear hb
    go_wp2_with fail
    refine hK.out _ _ (⟨Jx.out, F.out⟩) (fun hHeld2 => ?_)
    clear hK K
    try simp only [Act.put, y1, y2, y3, y4, y5, y6, y7]
    refine tk (i := 6) (v := .tuple #[.agg #[U z0, U z1, U z2, U z3], U b]) rfl (by kernel_rfl) (fun _ _ _ h => h) rfl ?_ hHeld2 ?_
    · intro W hS; go_simp
    simp only [Act.put, y1, y2, y3, y4, y5, y6, y7]
    refine tk (i := 7) (v := .agg #[U z0, U z1, U z2, U z3]) rfl (by kernel_rfl) (fun _ _ _ h => h) rfl ?_ hHeld2 ?_
    · intro W hS; go_simp
    simp only [Act.put, y1, y2, y3, y4, y5, y6, y7]
    refine tk (i := 8) (v := U b) rfl (by kernel_rfl) (fun _ _ _ h => h) rfl ?_ hHeld2 ?_
    · intro W hS; go_simp
    simp only [Act.put, y1, y2, y3, y4, y5, y6, y7]
    refine wpAnyH_ready (rs := [9]) (by kernel_rfl) (by simp) ?_
    refine AllReadyH.cons rfl (fun K hK => ?_) AllReadyH.nil
    clear hHeld2
    have neF_d : Hid (g ≠ U3.heap.size) := F.out.ne
    go_simp
    have ne_x_d := nJ Jx
    have ne_r_d := nJ Jr
    have ge_d : Hid (w.heap.size ≤ U3.heap.size) := B.out.size
    have hb := nB U3 (.cells #[.int .u64 0, .int .u64 0, .int .u64 0, .int .u64 0] 81)
    have Jd : Hid (IHolds (U3.alloc (.cells #[.int .u64 0, .int .u64 0, .int .u64 0, .int .u64 0] 81)) U3.heap.size 81 [.int .u64 0, .int .u64 0, .int .u64 0, .int .u64 0]) := IHolds.new _ _ _
    replace F := aF F hb
    replace B := aB B hb
    replace Jx := aJ Jx hb
    replace Jr := aJ Jr hb
    clear hb
    generalize (U3.alloc (.cells #[.int .u64 0, .int .u64 0, .int .u64 0, .int .u64 0] 81)) = U4 at *
    generalize U3.heap.size = b5 at *
    refine hK.out _ _ (⟨Jx.out, F.out⟩) (fun hHeld3 => ?_)
    clear hK K
    try simp only [Act.put, y1, y2, y3, y4, y5, y6, y7]
    refine wpAnyH_ready (rs := [10]) (by kernel_rfl) (by simp) ?_
    refine AllReadyH.cons rfl (fun K hK => ?_) AllReadyH.nil
    clear hHeld3
    have zd_0 : U4.cell? ⟨b5, 0, none⟩ = some (.int .u64 0) := IHolds.cell (l := [.int .u64 0, .int .u64 0, .int .u64 0, .int .u64 0]) (t := 81) (b := b5) (w := U4) (Jd.out) 0 (by simp)
    have zd_1 : U4.cell? ⟨b5, 1, none⟩ = some (.int .u64 0) := IHolds.cell (l := [.int .u64 0, .int .u64 0, .int .u64 0, .int .u64 0]) (t := 81) (b := b5) (w := U4) (Jd.out) 1 (by simp)
    have zd_2 : U4.cell? ⟨b5, 2, none⟩ = some (.int .u64 0) := IHolds.cell (l := [.int .u64 0, .int .u64 0, .int .u64 0, .int .u64 0]) (t := 81) (b := b5) (w := U4) (Jd.out) 2 (by simp)
    have zd_3 : U4.cell? ⟨b5, 3, none⟩ = some (.int .u64 0) := IHolds.cell (l := [.int .u64 0, .int .u64 0, .int .u64 0, .int .u64 0]) (t := 81) (b := b5) (w := U4) (Jd.out) 3 (by simp)
    have f0 := fJ Jd
    have hBut : But (b5) U4 ((((U4.setCell ⟨b5, 0, none⟩ (U z0)).setCell ⟨b5, 1, none⟩ (U z1)).setCell ⟨b5, 2, none⟩ (U z2)).setCell ⟨b5, 3, none⟩ (U z3)) := (((((But.refl _ U4).setCell 0 (U z0)).setCell 1 (U z1)).setCell 2 (U z2)).setCell 3 (U z3))
    replace F := tF F hBut neF_d.out
    have I4 : Hid (IHolds _ (b5) 81 [U z0, U z1, U z2, U z3]) := ((((Jd.out.set 0 (U z0)).set 1 (U z1)).set 2 (U z2)).set 3 (U z3))
    replace B : Hid (Below w.heap.size w ((((U4.setCell ⟨b5, 0, none⟩ (U z0)).setCell ⟨b5, 1, none⟩ (U z1)).setCell ⟨b5, 2, none⟩ (U z2)).setCell ⟨b5, 3, none⟩ (U z3))) := ((((B.out.setCell (by first | exact Nat.le_refl _ | exact ge_d.out | (show w.heap.size ≤ b5; omega)) _).setCell (by first | exact Nat.le_refl _ | exact ge_d.out | (show w.heap.size ≤ b5; omega)) _).setCell (by first | exact Nat.le_refl _ | exact ge_d.out | (show w.heap.size ≤ b5; omega)) _).setCell (by first | exact Nat.le_refl _ | exact ge_d.out | (show w.heap.size ≤ b5; omega)) _)
    replace Jx := tJ Jx hBut ne_x_d.out
    replace Jr := tJ Jr hBut ne_r_d.out
    replace Jd := I4
    clear I4 hBut
    go_simp
    try go_wp2_with fail
    clear zd_0 zd_1 zd_2 zd_3
    clear f0
    generalize ((((U4.setCell ⟨b5, 0, none⟩ (U z0)).setCell ⟨b5, 1, none⟩ (U z1)).setCell ⟨b5, 2, none⟩ (U z2)).setCell ⟨b5, 3, none⟩ (U z3)) = U6 at *
    refine hK.out _ _ (⟨Jx.out, F.out⟩) (fun hHeld4 => ?_)
    clear hK K
    try simp only [Act.put, y1, y2, y3, y4, y5, y6, y7]
    refine tk (i := 11) (v := U b) rfl (by kernel_rfl) (fun _ _ _ h => h) rfl ?_ hHeld4 ?_
    · intro W hS; go_simp
    simp only [Act.put, y1, y2, y3, y4, y5, y6, y7]
    refine wpAnyH_done (by kernel_rfl) ?_ _
    clear hHeld4
    have Kd : Hid (IHolds U6 (b5) 81 [U z0, U z1, U z2, U z3]) := Jd.out
    have zr_0 : U6.cell? ⟨w.heap.size + 1, 0, none⟩ = some (.int .u64 0) := IHolds.cell (l := [.int .u64 0, .int .u64 0, .int .u64 0, .int .u64 0]) (t := 81) (b := w.heap.size + 1) (w := U6) (Jr.out) 0 (by simp)
    have zr_1 : U6.cell? ⟨w.heap.size + 1, 1, none⟩ = some (.int .u64 0) := IHolds.cell (l := [.int .u64 0, .int .u64 0, .int .u64 0, .int .u64 0]) (t := 81) (b := w.heap.size + 1) (w := U6) (Jr.out) 1 (by simp)
    have zr_2 : U6.cell? ⟨w.heap.size + 1, 2, none⟩ = some (.int .u64 0) := IHolds.cell (l := [.int .u64 0, .int .u64 0, .int .u64 0, .int .u64 0]) (t := 81) (b := w.heap.size + 1) (w := U6) (Jr.out) 2 (by simp)
    have zr_3 : U6.cell? ⟨w.heap.size + 1, 3, none⟩ = some (.int .u64 0) := IHolds.cell (l := [.int .u64 0, .int .u64 0, .int .u64 0, .int .u64 0]) (t := 81) (b := w.heap.size + 1) (w := U6) (Jr.out) 3 (by simp)
    have f0 := fJ Jr
    have hBut : But (w.heap.size + 1) U6 ((((U6.setCell ⟨w.heap.size + 1, 0, none⟩ (U z0)).setCell ⟨w.heap.size + 1, 1, none⟩ (U z1)).setCell ⟨w.heap.size + 1, 2, none⟩ (U z2)).setCell ⟨w.heap.size + 1, 3, none⟩ (U z3)) := (((((But.refl _ U6).setCell 0 (U z0)).setCell 1 (U z1)).setCell 2 (U z2)).setCell 3 (U z3))
    replace F := tF F hBut neF_r.out
    have I4 : Hid (IHolds _ (w.heap.size + 1) 81 [U z0, U z1, U z2, U z3]) := ((((Jr.out.set 0 (U z0)).set 1 (U z1)).set 2 (U z2)).set 3 (U z3))
    replace B : Hid (Below w.heap.size w ((((U6.setCell ⟨w.heap.size + 1, 0, none⟩ (U z0)).setCell ⟨w.heap.size + 1, 1, none⟩ (U z1)).setCell ⟨w.heap.size + 1, 2, none⟩ (U z2)).setCell ⟨w.heap.size + 1, 3, none⟩ (U z3))) := ((((B.out.setCell (by first | exact Nat.le_refl _ | exact ge_r.out | (show w.heap.size ≤ w.heap.size + 1; omega)) _).setCell (by first | exact Nat.le_refl _ | exact ge_r.out | (show w.heap.size ≤ w.heap.size + 1; omega)) _).setCell (by first | exact Nat.le_refl _ | exact ge_r.out | (show w.heap.size ≤ w.heap.size + 1; omega)) _).setCell (by first | exact Nat.le_refl _ | exact ge_r.out | (show w.heap.size ≤ w.heap.size + 1; omega)) _)
    replace Jx := tJ Jx hBut (by omega)
    replace Jd := tJ Jd hBut (fun h => ne_r_d.out h.symm)
    replace Jr := I4
    clear I4 hBut
    have zd_0 : U6.cell? ⟨b5, 0, none⟩ = some (U z0) := IHolds.cell (l := [U z0, U z1, U z2, U z3]) (t := 81) (b := b5) (w := U6) (Kd.out) 0 (by simp)
    have zd_1 : U6.cell? ⟨b5, 1, none⟩ = some (U z1) := IHolds.cell (l := [U z0, U z1, U z2, U z3]) (t := 81) (b := b5) (w := U6) (Kd.out) 1 (by simp)
    have zd_2 : U6.cell? ⟨b5, 2, none⟩ = some (U z2) := IHolds.cell (l := [U z0, U z1, U z2, U z3]) (t := 81) (b := b5) (w := U6) (Kd.out) 2 (by simp)
    have zd_3 : U6.cell? ⟨b5, 3, none⟩ = some (U z3) := IHolds.cell (l := [U z0, U z1, U z2, U z3]) (t := 81) (b := b5) (w := U6) (Kd.out) 3 (by simp)
    go_wp2_with fail
    clear zd_0 zd_1 zd_2 zd_3
    clear Kd
    clear zr_0 zr_1 zr_2 zr_3
    clear f0
    generalize ((((U6.setCell ⟨w.heap.size + 1, 0, none⟩ (U z0)).setCell ⟨w.heap.size + 1, 1, none⟩ (U z1)).setCell ⟨w.heap.size + 1, 2, none⟩ (U z2)).setCell ⟨w.heap.size + 1, 3, none⟩ (U z3)) = U7 at *
    have E0 : Hid (U7.cell? ⟨w.heap.size + 1, 0, none⟩ = some (U z0)) := IHolds.cell (l := [U z0, U z1, U z2, U z3]) (t := 81) (b := w.heap.size + 1) (w := U7) Jr.out 0 (by simp)
    have E1 : Hid (U7.cell? ⟨w.heap.size + 1, 1, none⟩ = some (U z1)) := IHolds.cell (l := [U z0, U z1, U z2, U z3]) (t := 81) (b := w.heap.size + 1) (w := U7) Jr.out 1 (by simp)
    have E2 : Hid (U7.cell? ⟨w.heap.size + 1, 2, none⟩ = some (U z2)) := IHolds.cell (l := [U z0, U z1, U z2, U z3]) (t := 81) (b := w.heap.size + 1) (w := U7) Jr.out 2 (by simp)
    have E3 : Hid (U7.cell? ⟨w.heap.size + 1, 3, none⟩ = some (U z3)) := IHolds.cell (l := [U z0, U z1, U z2, U z3]) (t := 81) (b := w.heap.size + 1) (w := U7) Jr.out 3 (by simp)
    exact bodyPost_ret (v := .agg #[U z0, U z1, U z2, U z3]) (by simp [results, Tryz.results100, go_sem, E0.out, E1.out, E2.out, E3.out]) rfl ⟨rfl, B.out⟩
  · clear hHeld1
    have neF_d : Hid (g ≠ U2.heap.size) := F.out.ne
    go_simp
    have ne_x_d := nJ Jx
    have ne_r_d := nJ Jr
    have ge_d : Hid (w.heap.size ≤ U2.heap.size) := B.out.size
    have hb := nB U2 (.cells #[.int .u64 0, .int .u64 0, .int .u64 0, .int .u64 0] 81)
    have Jd : Hid (IHolds (U2.alloc (.cells #[.int .u64 0, .int .u64 0, .int .u64 0, .int .u64 0] 81)) U2.heap.size 81 [.int .u64 0, .int .u64 0, .int .u64 0, .int .u64 0]) := IHolds.new _ _ _
    replace F := aF F hb
    replace B := aB B hb
    replace Jx := aJ Jx hb
    replace Jr := aJ Jr hb
    clear hb
    generalize (U2.alloc (.cells #[.int .u64 0, .int .u64 0, .int .u64 0, .int .u64 0] 81)) = U8 at *
    generalize U2.heap.size = b9 at *
    refine hK.out _ _ (⟨Jx.out, F.out⟩) (fun hHeld5 => ?_)
    clear hK K
    try simp only [Act.put, y1, y2, y3, y4, y5, y6, y7]
    refine wpAnyH_ready (rs := [5]) (by kernel_rfl) (by simp) ?_
    refine AllReadyH.cons rfl (fun K hK => ?_) AllReadyH.nil
    clear hHeld5
    go_simp
    refine (C.out U8).mono ?_
    rintro e U10 ⟨rfl, hb⟩
    replace F := aF F hb
    replace B := aB B hb
    replace Jx := aJ Jx hb
    replace Jr := aJ Jr hb
    replace Jd := aJ Jd hb
    clear hb
    go_wp2_with fail
    refine hK.out _ _ (⟨Jx.out, F.out⟩) (fun hHeld6 => ?_)
    clear hK K
    try simp only [Act.put, y1, y2, y3, y4, y5, y6, y7]
    refine tk (i := 6) (v := .tuple #[.agg #[U z0, U z1, U z2, U z3], U b]) rfl (by kernel_rfl) (fun _ _ _ h => h) rfl ?_ hHeld6 ?_
    · intro W hS; go_simp
    simp only [Act.put, y1, y2, y3, y4, y5, y6, y7]
    refine tk (i := 7) (v := .agg #[U z0, U z1, U z2, U z3]) rfl (by kernel_rfl) (fun _ _ _ h => h) rfl ?_ hHeld6 ?_
    · intro W hS; go_simp
    simp only [Act.put, y1, y2, y3, y4, y5, y6, y7]
    refine tk (i := 8) (v := U b) rfl (by kernel_rfl) (fun _ _ _ h => h) rfl ?_ hHeld6 ?_
    · intro W hS; go_simp
    simp only [Act.put, y1, y2, y3, y4, y5, y6, y7]
    refine wpAnyH_ready (rs := [10]) (by kernel_rfl) (by simp) ?_
    refine AllReadyH.cons rfl (fun K hK => ?_) AllReadyH.nil
    clear hHeld6
    have zd_0 : U10.cell? ⟨b9, 0, none⟩ = some (.int .u64 0) := IHolds.cell (l := [.int .u64 0, .int .u64 0, .int .u64 0, .int .u64 0]) (t := 81) (b := b9) (w := U10) (Jd.out) 0 (by simp)
    have zd_1 : U10.cell? ⟨b9, 1, none⟩ = some (.int .u64 0) := IHolds.cell (l := [.int .u64 0, .int .u64 0, .int .u64 0, .int .u64 0]) (t := 81) (b := b9) (w := U10) (Jd.out) 1 (by simp)
    have zd_2 : U10.cell? ⟨b9, 2, none⟩ = some (.int .u64 0) := IHolds.cell (l := [.int .u64 0, .int .u64 0, .int .u64 0, .int .u64 0]) (t := 81) (b := b9) (w := U10) (Jd.out) 2 (by simp)
    have zd_3 : U10.cell? ⟨b9, 3, none⟩ = some (.int .u64 0) := IHolds.cell (l := [.int .u64 0, .int .u64 0, .int .u64 0, .int .u64 0]) (t := 81) (b := b9) (w := U10) (Jd.out) 3 (by simp)
    have f0 := fJ Jd
    have hBut : But (b9) U10 ((((U10.setCell ⟨b9, 0, none⟩ (U z0)).setCell ⟨b9, 1, none⟩ (U z1)).setCell ⟨b9, 2, none⟩ (U z2)).setCell ⟨b9, 3, none⟩ (U z3)) := (((((But.refl _ U10).setCell 0 (U z0)).setCell 1 (U z1)).setCell 2 (U z2)).setCell 3 (U z3))
    replace F := tF F hBut neF_d.out
    have I4 : Hid (IHolds _ (b9) 81 [U z0, U z1, U z2, U z3]) := ((((Jd.out.set 0 (U z0)).set 1 (U z1)).set 2 (U z2)).set 3 (U z3))
    replace B : Hid (Below w.heap.size w ((((U10.setCell ⟨b9, 0, none⟩ (U z0)).setCell ⟨b9, 1, none⟩ (U z1)).setCell ⟨b9, 2, none⟩ (U z2)).setCell ⟨b9, 3, none⟩ (U z3))) := ((((B.out.setCell (by first | exact Nat.le_refl _ | exact ge_d.out | (show w.heap.size ≤ b9; omega)) _).setCell (by first | exact Nat.le_refl _ | exact ge_d.out | (show w.heap.size ≤ b9; omega)) _).setCell (by first | exact Nat.le_refl _ | exact ge_d.out | (show w.heap.size ≤ b9; omega)) _).setCell (by first | exact Nat.le_refl _ | exact ge_d.out | (show w.heap.size ≤ b9; omega)) _)
    replace Jx := tJ Jx hBut ne_x_d.out
    replace Jr := tJ Jr hBut ne_r_d.out
    replace Jd := I4
    clear I4 hBut
    go_simp
    try go_wp2_with fail
    clear zd_0 zd_1 zd_2 zd_3
    clear f0
    generalize ((((U10.setCell ⟨b9, 0, none⟩ (U z0)).setCell ⟨b9, 1, none⟩ (U z1)).setCell ⟨b9, 2, none⟩ (U z2)).setCell ⟨b9, 3, none⟩ (U z3)) = U11 at *
    refine hK.out _ _ (⟨Jx.out, F.out⟩) (fun hHeld7 => ?_)
    clear hK K
    try simp only [Act.put, y1, y2, y3, y4, y5, y6, y7]
    refine tk (i := 11) (v := U b) rfl (by kernel_rfl) (fun _ _ _ h => h) rfl ?_ hHeld7 ?_
    · intro W hS; go_simp
    simp only [Act.put, y1, y2, y3, y4, y5, y6, y7]
    refine wpAnyH_done (by kernel_rfl) ?_ _
    clear hHeld7
    have Kd : Hid (IHolds U11 (b9) 81 [U z0, U z1, U z2, U z3]) := Jd.out
    have zr_0 : U11.cell? ⟨w.heap.size + 1, 0, none⟩ = some (.int .u64 0) := IHolds.cell (l := [.int .u64 0, .int .u64 0, .int .u64 0, .int .u64 0]) (t := 81) (b := w.heap.size + 1) (w := U11) (Jr.out) 0 (by simp)
    have zr_1 : U11.cell? ⟨w.heap.size + 1, 1, none⟩ = some (.int .u64 0) := IHolds.cell (l := [.int .u64 0, .int .u64 0, .int .u64 0, .int .u64 0]) (t := 81) (b := w.heap.size + 1) (w := U11) (Jr.out) 1 (by simp)
    have zr_2 : U11.cell? ⟨w.heap.size + 1, 2, none⟩ = some (.int .u64 0) := IHolds.cell (l := [.int .u64 0, .int .u64 0, .int .u64 0, .int .u64 0]) (t := 81) (b := w.heap.size + 1) (w := U11) (Jr.out) 2 (by simp)
    have zr_3 : U11.cell? ⟨w.heap.size + 1, 3, none⟩ = some (.int .u64 0) := IHolds.cell (l := [.int .u64 0, .int .u64 0, .int .u64 0, .int .u64 0]) (t := 81) (b := w.heap.size + 1) (w := U11) (Jr.out) 3 (by simp)
    have f0 := fJ Jr
    have hBut : But (w.heap.size + 1) U11 ((((U11.setCell ⟨w.heap.size + 1, 0, none⟩ (U z0)).setCell ⟨w.heap.size + 1, 1, none⟩ (U z1)).setCell ⟨w.heap.size + 1, 2, none⟩ (U z2)).setCell ⟨w.heap.size + 1, 3, none⟩ (U z3)) := (((((But.refl _ U11).setCell 0 (U z0)).setCell 1 (U z1)).setCell 2 (U z2)).setCell 3 (U z3))
    replace F := tF F hBut neF_r.out
    have I4 : Hid (IHolds _ (w.heap.size + 1) 81 [U z0, U z1, U z2, U z3]) := ((((Jr.out.set 0 (U z0)).set 1 (U z1)).set 2 (U z2)).set 3 (U z3))
    replace B : Hid (Below w.heap.size w ((((U11.setCell ⟨w.heap.size + 1, 0, none⟩ (U z0)).setCell ⟨w.heap.size + 1, 1, none⟩ (U z1)).setCell ⟨w.heap.size + 1, 2, none⟩ (U z2)).setCell ⟨w.heap.size + 1, 3, none⟩ (U z3))) := ((((B.out.setCell (by first | exact Nat.le_refl _ | exact ge_r.out | (show w.heap.size ≤ w.heap.size + 1; omega)) _).setCell (by first | exact Nat.le_refl _ | exact ge_r.out | (show w.heap.size ≤ w.heap.size + 1; omega)) _).setCell (by first | exact Nat.le_refl _ | exact ge_r.out | (show w.heap.size ≤ w.heap.size + 1; omega)) _).setCell (by first | exact Nat.le_refl _ | exact ge_r.out | (show w.heap.size ≤ w.heap.size + 1; omega)) _)
    replace Jx := tJ Jx hBut (by omega)
    replace Jd := tJ Jd hBut (fun h => ne_r_d.out h.symm)
    replace Jr := I4
    clear I4 hBut
    have zd_0 : U11.cell? ⟨b9, 0, none⟩ = some (U z0) := IHolds.cell (l := [U z0, U z1, U z2, U z3]) (t := 81) (b := b9) (w := U11) (Kd.out) 0 (by simp)
    have zd_1 : U11.cell? ⟨b9, 1, none⟩ = some (U z1) := IHolds.cell (l := [U z0, U z1, U z2, U z3]) (t := 81) (b := b9) (w := U11) (Kd.out) 1 (by simp)
    have zd_2 : U11.cell? ⟨b9, 2, none⟩ = some (U z2) := IHolds.cell (l := [U z0, U z1, U z2, U z3]) (t := 81) (b := b9) (w := U11) (Kd.out) 2 (by simp)
    have zd_3 : U11.cell? ⟨b9, 3, none⟩ = some (U z3) := IHolds.cell (l := [U z0, U z1, U z2, U z3]) (t := 81) (b := b9) (w := U11) (Kd.out) 3 (by simp)
    go_wp2_with fail
    clear zd_0 zd_1 zd_2 zd_3
    clear Kd
    clear zr_0 zr_1 zr_2 zr_3
    clear f0
    generalize ((((U11.setCell ⟨w.heap.size + 1, 0, none⟩ (U z0)).setCell ⟨w.heap.size + 1, 1, none⟩ (U z1)).setCell ⟨w.heap.size + 1, 2, none⟩ (U z2)).setCell ⟨w.heap.size + 1, 3, none⟩ (U z3)) = U12 at *
    have E0 : Hid (U12.cell? ⟨w.heap.size + 1, 0, none⟩ = some (U z0)) := IHolds.cell (l := [U z0, U z1, U z2, U z3]) (t := 81) (b := w.heap.size + 1) (w := U12) Jr.out 0 (by simp)
    have E1 : Hid (U12.cell? ⟨w.heap.size + 1, 1, none⟩ = some (U z1)) := IHolds.cell (l := [U z0, U z1, U z2, U z3]) (t := 81) (b := w.heap.size + 1) (w := U12) Jr.out 1 (by simp)
    have E2 : Hid (U12.cell? ⟨w.heap.size + 1, 2, none⟩ = some (U z2)) := IHolds.cell (l := [U z0, U z1, U z2, U z3]) (t := 81) (b := w.heap.size + 1) (w := U12) Jr.out 2 (by simp)
    have E3 : Hid (U12.cell? ⟨w.heap.size + 1, 3, none⟩ = some (U z3)) := IHolds.cell (l := [U z0, U z1, U z2, U z3]) (t := 81) (b := w.heap.size + 1) (w := U12) Jr.out 3 (by simp)
    exact bodyPost_ret (v := .agg #[U z0, U z1, U z2, U z3]) (by simp [results, Tryz.results100, go_sem, E0.out, E1.out, E2.out, E3.out]) rfl ⟨rfl, B.out⟩
theorem belowA {w : World} {g o Wd M low one sq n : Nat} (F : Hid (FH w g o Wd M low one sq)) (hn : n < BB ^ 4) (hm : M < BB ^ 4) :
    Calls Tryz.prog 100 #[.pointer (some ⟨g, o, none⟩), A4 n] w fun e w' => e = .returned (A4 (belowN M n)) ∧ Below w.heap.size w w' := by
  unfold belowN
  by_cases h : n < M
  · rw [if_pos h]
    have e : borN n M = 1 := by unfold borN; rw [if_pos h]
    exact below_lt F _ _ _ _ _ _ _ _ _ (fun W => minusA W hn hm) (by rw [e]; rfl)
  · rw [if_neg h]
    have e : borN n M = 0 := by unfold borN; rw [if_neg h]
    have e2 : subN n M = n - M := by unfold subN; rw [if_neg h]
    rw [← e2]
    exact below_ge F _ _ _ _ _ _ _ _ _ (fun W => minusA W hn hm) (by rw [e]; rfl)
theorem plusM (w : World) {n m : Nat} (hn : n < BB ^ 4) (hm : m < BB ^ 4) : Calls Tryz.prog 98 #[A4 n, A4 m] w fun e w' => e = .returned (A4 ((n + m) % BB ^ 4)) ∧ Below w.heap.size w w' := by
  refine (plus_words w _ _ _ _ _ _ _ _ (w4_mem n) (w4_mem m)).mono ?_
  rintro e w' ⟨⟨z0, z1, z2, z3, b, rfl, hz, hb, eq⟩, hB⟩
  refine ⟨?_, hB⟩
  rw [vl_w4 hn, vl_w4 hm] at eq
  have hl4 : vl BB [z0, z1, z2, z3] < BB ^ 4 := vl_lt BB _ hz
  have e1 : vl BB [z0, z1, z2, z3] = (n + m) % BB ^ 4 := by
    rw [← eq, Nat.add_mul_mod_self_left, Nat.mod_eq_of_lt hl4]
  rw [A4_of hz e1]
set_option maxRecDepth 100000 in
set_option maxHeartbeats 2000000 in
theorem fminus_lt {w : World} {g o Wd M low one sq : Nat} (F : Hid (FH w g o Wd M low one sq)) (x0 x1 x2 x3 m0 m1 m2 m3 z0 z1 z2 z3 v0 v1 v2 v3 b : Nat) (C1 : Hid (∀ W, Calls Tryz.prog 89 #[.agg #[U x0, U x1, U x2, U x3], .agg #[U m0, U m1, U m2, U m3]] W fun e w' => e = .returned (.tuple #[.agg #[U z0, U z1, U z2, U z3], U b]) ∧ Below W.heap.size W w')) (hb1 : ((b : Int) == 1) = true) (C2 : Hid (∀ W, Calls Tryz.prog 98 #[.agg #[U z0, U z1, U z2, U z3], .agg #[U (w4 M 0), U (w4 M 1), U (w4 M 2), U (w4 M 3)]] W fun e w' => e = .returned (.agg #[U v0, U v1, U v2, U v3]) ∧ Below W.heap.size W w')) :
    Calls Tryz.prog 85 #[.pointer (some ⟨g, o, none⟩), .agg #[U x0, U x1, U x2, U x3], .agg #[U m0, U m1, U m2, U m3]] w fun e w' => e = .returned (.agg #[U v0, U v1, U v2, U v3]) ∧ Below w.heap.size w w' := by
  go_enter Tryz.func85, Tryz.ntmps85
  go_wp2_with fail
  have neF_x : Hid (g ≠ w.heap.size + 0) := by have h := F.out.lt; show _ ≠ _; omega
  have neF_m : Hid (g ≠ w.heap.size + 1) := by have h := F.out.lt; show _ ≠ _; omega
  have neF_r : Hid (g ≠ w.heap.size + 2) := by have h := F.out.lt; show _ ≠ _; omega
  obtain ⟨U1, hU1⟩ : ∃ X, X = (((w.alloc (.cells #[U x0, U x1, U x2, U x3] 81)).alloc (.cells #[U m0, U m1, U m2, U m3] 81)).alloc (.cells #[.int .u64 0, .int .u64 0, .int .u64 0, .int .u64 0] 81)) := ⟨_, rfl⟩
  have Jx : Hid (IHolds U1 (w.heap.size) 81 [U x0, U x1, U x2, U x3]) := by
    have q := IHolds.new w 81 [U x0, U x1, U x2, U x3]
    show IHolds _ _ _ _
    rw [hU1]
    exact ((q.alloc _).alloc _)
  have Jm : Hid (IHolds U1 (w.heap.size + 1) 81 [U m0, U m1, U m2, U m3]) := by
    have q := IHolds.new (w.alloc (.cells #[U x0, U x1, U x2, U x3] 81)) 81 [U m0, U m1, U m2, U m3]
    simp only [World.size_alloc, Nat.add_assoc, Nat.reduceAdd] at q
    show IHolds _ _ _ _
    rw [hU1]
    exact (q.alloc _)
  have Jr : Hid (IHolds U1 (w.heap.size + 2) 81 [.int .u64 0, .int .u64 0, .int .u64 0, .int .u64 0]) := by
    have q := IHolds.new ((w.alloc (.cells #[U x0, U x1, U x2, U x3] 81)).alloc (.cells #[U m0, U m1, U m2, U m3] 81)) 81 [.int .u64 0, .int .u64 0, .int .u64 0, .int .u64 0]
    simp only [World.size_alloc, Nat.add_assoc, Nat.reduceAdd] at q
    show IHolds _ _ _ _
    rw [hU1]
    exact q
  have B : Hid (Below w.heap.size w U1) := by
    show Below _ _ _
    rw [hU1]
    exact ((((Below.refl _ w).alloc (Nat.le_refl _) _).alloc (by simp only [World.size_alloc]; omega) _).alloc (by simp only [World.size_alloc]; omega) _)
  rw [← hU1]
  clear hU1
  replace F := aF F (show Below w.heap.size w U1 from B.out)
  have zx_0 : U1.cell? ⟨w.heap.size, 0, none⟩ = some (U x0) := IHolds.cell (l := [U x0, U x1, U x2, U x3]) (t := 81) (b := w.heap.size) (w := U1) (Jx.out) 0 (by simp)
  have zx_1 : U1.cell? ⟨w.heap.size, 1, none⟩ = some (U x1) := IHolds.cell (l := [U x0, U x1, U x2, U x3]) (t := 81) (b := w.heap.size) (w := U1) (Jx.out) 1 (by simp)
  have zx_2 : U1.cell? ⟨w.heap.size, 2, none⟩ = some (U x2) := IHolds.cell (l := [U x0, U x1, U x2, U x3]) (t := 81) (b := w.heap.size) (w := U1) (Jx.out) 2 (by simp)
  have zx_3 : U1.cell? ⟨w.heap.size, 3, none⟩ = some (U x3) := IHolds.cell (l := [U x0, U x1, U x2, U x3]) (t := 81) (b := w.heap.size) (w := U1) (Jx.out) 3 (by simp)
  have zm_0 : U1.cell? ⟨w.heap.size + 1, 0, none⟩ = some (U m0) := IHolds.cell (l := [U m0, U m1, U m2, U m3]) (t := 81) (b := w.heap.size + 1) (w := U1) (Jm.out) 0 (by simp)
  have zm_1 : U1.cell? ⟨w.heap.size + 1, 1, none⟩ = some (U m1) := IHolds.cell (l := [U m0, U m1, U m2, U m3]) (t := 81) (b := w.heap.size + 1) (w := U1) (Jm.out) 1 (by simp)
  have zm_2 : U1.cell? ⟨w.heap.size + 1, 2, none⟩ = some (U m2) := IHolds.cell (l := [U m0, U m1, U m2, U m3]) (t := 81) (b := w.heap.size + 1) (w := U1) (Jm.out) 2 (by simp)
  have zm_3 : U1.cell? ⟨w.heap.size + 1, 3, none⟩ = some (U m3) := IHolds.cell (l := [U m0, U m1, U m2, U m3]) (t := 81) (b := w.heap.size + 1) (w := U1) (Jm.out) 3 (by simp)
  go_wp2_with fail
  clear zx_0 zx_1 zx_2 zx_3 zm_0 zm_1 zm_2 zm_3
  refine (C1.out U1).mono ?_
  rintro e U2 ⟨rfl, hb⟩
  replace F := aF F hb
  replace B := aB B hb
  replace Jx := aJ Jx hb
  replace Jm := aJ Jm hb
  replace Jr := aJ Jr hb
  clear hb
  have neF_d : Hid (g ≠ U2.heap.size) := F.out.ne
  have hb := nB U2 (.cells #[U z0, U z1, U z2, U z3] 81)
  have Jd : Hid (IHolds (U2.alloc (.cells #[U z0, U z1, U z2, U z3] 81)) U2.heap.size 81 [U z0, U z1, U z2, U z3]) := IHolds.new _ _ _
  have ne_x_d := nJ Jx
  have ne_m_d := nJ Jm
  have ne_r_d := nJ Jr
  have ge_d : Hid (w.heap.size ≤ U2.heap.size) := B.out.size
  replace F := aF F hb
  replace B := aB B hb
  replace Jx := aJ Jx hb
  replace Jm := aJ Jm hb
  replace Jr := aJ Jr hb
  clear hb
  go_wp2_with fail
  generalize (U2.alloc (.cells #[U z0, U z1, U z2, U z3] 81)) = U3 at *
  generalize U2.heap.size = b4 at *
  have hb := dB U3
  replace F := aF F hb
  replace B := aB B hb
  replace Jx := aJ Jx hb
  replace Jm := aJ Jm hb
  replace Jr := aJ Jr hb
  replace Jd := aJ Jd hb
  clear hb
  refine wp_region_held_drew (S := fun W => (FH W g o Wd M low one sq)) (by kernel_rfl) F.out (fun hHeld1 => ?_)
  generalize U3.drew = U5 at *
  refine tk (i := 1) (v := .pointer (some ⟨g, o, none⟩)) rfl (by kernel_rfl) (fun _ _ _ h => h) rfl ?_ hHeld1 ?_
  · intro W hS; go_simp
  simp only [Act.put, y1, y2, y3, y4, y5, y6, y7]
  refine tk (i := 2) (v := .pointer (some ⟨g, o, none⟩)) rfl (by kernel_rfl) (fun _ _ _ h => h) rfl ?_ hHeld1 ?_
  · intro W hS; go_simp
  simp only [Act.put, y1, y2, y3, y4, y5, y6, y7]
  refine tk (i := 3) (v := .pointer (some ⟨g, o + 1, none⟩)) rfl (by kernel_rfl) (fun _ _ _ h => h) rfl ?_ hHeld1 ?_
  · intro W hS; go_simp
  simp only [Act.put, y1, y2, y3, y4, y5, y6, y7]
  refine tk (i := 4) (v := .agg #[U (w4 M 0), U (w4 M 1), U (w4 M 2), U (w4 M 3)]) rfl (by kernel_rfl) (fun _ _ _ h => h) rfl ?_ hHeld1 ?_
  · intro W hS; have fz := hS; have fz0 := fz.c0; have fz1 := fz.m0; have fz2 := fz.m1; have fz3 := fz.m2; have fz4 := fz.m3; have fz5 := fz.lo; have fz6 := fz.o0; have fz7 := fz.o1; have fz8 := fz.o2; have fz9 := fz.o3; have fz10 := fz.s0; have fz11 := fz.s1; have fz12 := fz.s2; have fz13 := fz.s3; go_simp
  simp only [Act.put, y1, y2, y3, y4, y5, y6, y7]
  refine wpAnyH_ready (rs := [0]) (by kernel_rfl) (by simp) ?_
  refine AllReadyH.cons rfl (fun K hK => ?_) AllReadyH.nil
  clear hHeld1
  have zd_0 : U5.cell? ⟨b4, 0, none⟩ = some (U z0) := IHolds.cell (l := [U z0, U z1, U z2, U z3]) (t := 81) (b := b4) (w := U5) (Jd.out) 0 (by simp)
  have zd_1 : U5.cell? ⟨b4, 1, none⟩ = some (U z1) := IHolds.cell (l := [U z0, U z1, U z2, U z3]) (t := 81) (b := b4) (w := U5) (Jd.out) 1 (by simp)
  have zd_2 : U5.cell? ⟨b4, 2, none⟩ = some (U z2) := IHolds.cell (l := [U z0, U z1, U z2, U z3]) (t := 81) (b := b4) (w := U5) (Jd.out) 2 (by simp)
  have zd_3 : U5.cell? ⟨b4, 3, none⟩ = some (U z3) := IHolds.cell (l := [U z0, U z1, U z2, U z3]) (t := 81) (b := b4) (w := U5) (Jd.out) 3 (by simp)
  go_simp
  clear zd_0 zd_1 zd_2 zd_3
  refine hK.out _ _ (F.out) (fun hHeld2 => ?_)
  clear hK K
  try simp only [Act.put, y1, y2, y3, y4, y5, y6, y7]
  refine wpAnyH_ready (rs := [5]) (by kernel_rfl) (by simp) ?_
  refine AllReadyH.cons rfl (fun K hK => ?_) AllReadyH.nil
  clear hHeld2
  go_simp
  refine (C2.out U5).mono ?_
  rintro e U6 ⟨rfl, hb⟩
  replace F := aF F hb
  replace B := aB B hb
  replace Jx := aJ Jx hb
  replace Jm := aJ Jm hb
  replace Jr := aJ Jr hb
  replace Jd := aJ Jd hb
  clear hb
  go_wp2_with fail
  refine hK.out _ _ (F.out) (fun hHeld3 => ?_)
  clear hK K
  try simp only [Act.put, y1, y2, y3, y4, y5, y6, y7]
  refine wpAnyH_ready (rs := [6]) (by kernel_rfl) (by simp) ?_
  refine AllReadyH.cons rfl (fun K hK => ?_) AllReadyH.nil
  clear hHeld3
  have zd_0 : U6.cell? ⟨b4, 0, none⟩ = some (U z0) := IHolds.cell (l := [U z0, U z1, U z2, U z3]) (t := 81) (b := b4) (w := U6) (Jd.out) 0 (by simp)
  have zd_1 : U6.cell? ⟨b4, 1, none⟩ = some (U z1) := IHolds.cell (l := [U z0, U z1, U z2, U z3]) (t := 81) (b := b4) (w := U6) (Jd.out) 1 (by simp)
  have zd_2 : U6.cell? ⟨b4, 2, none⟩ = some (U z2) := IHolds.cell (l := [U z0, U z1, U z2, U z3]) (t := 81) (b := b4) (w := U6) (Jd.out) 2 (by simp)
  have zd_3 : U6.cell? ⟨b4, 3, none⟩ = some (U z3) := IHolds.cell (l := [U z0, U z1, U z2, U z3]) (t := 81) (b := b4) (w := U6) (Jd.out) 3 (by simp)
  have f0 := fJ Jd
  have hBut : But (b4) U6 ((((U6.setCell ⟨b4, 0, none⟩ (U v0)).setCell ⟨b4, 1, none⟩ (U v1)).setCell ⟨b4, 2, none⟩ (U v2)).setCell ⟨b4, 3, none⟩ (U v3)) := (((((But.refl _ U6).setCell 0 (U v0)).setCell 1 (U v1)).setCell 2 (U v2)).setCell 3 (U v3))
  replace F := tF F hBut neF_d.out
  have I4 : Hid (IHolds _ (b4) 81 [U v0, U v1, U v2, U v3]) := ((((Jd.out.set 0 (U v0)).set 1 (U v1)).set 2 (U v2)).set 3 (U v3))
  replace B : Hid (Below w.heap.size w ((((U6.setCell ⟨b4, 0, none⟩ (U v0)).setCell ⟨b4, 1, none⟩ (U v1)).setCell ⟨b4, 2, none⟩ (U v2)).setCell ⟨b4, 3, none⟩ (U v3))) := ((((B.out.setCell (by first | exact Nat.le_refl _ | exact ge_d.out | (show w.heap.size ≤ b4; omega)) _).setCell (by first | exact Nat.le_refl _ | exact ge_d.out | (show w.heap.size ≤ b4; omega)) _).setCell (by first | exact Nat.le_refl _ | exact ge_d.out | (show w.heap.size ≤ b4; omega)) _).setCell (by first | exact Nat.le_refl _ | exact ge_d.out | (show w.heap.size ≤ b4; omega)) _)
  replace Jx := tJ Jx hBut ne_x_d.out
  replace Jm := tJ Jm hBut ne_m_d.out
  replace Jr := tJ Jr hBut ne_r_d.out
  replace Jd := I4
  clear I4 hBut
  go_simp
  try go_wp2_with fail
  clear zd_0 zd_1 zd_2 zd_3
  clear f0
  generalize ((((U6.setCell ⟨b4, 0, none⟩ (U v0)).setCell ⟨b4, 1, none⟩ (U v1)).setCell ⟨b4, 2, none⟩ (U v2)).setCell ⟨b4, 3, none⟩ (U v3)) = U7 at *
  refine hK.out _ _ (F.out) (fun hHeld4 => ?_)
  clear hK K
  try simp only [Act.put, y1, y2, y3, y4, y5, y6, y7]
  refine wpAnyH_done (by kernel_rfl) ?_ _
  clear hHeld4
  have Kd : Hid (IHolds U7 (b4) 81 [U v0, U v1, U v2, U v3]) := Jd.out
  have zr_0 : U7.cell? ⟨w.heap.size + 2, 0, none⟩ = some (.int .u64 0) := IHolds.cell (l := [.int .u64 0, .int .u64 0, .int .u64 0, .int .u64 0]) (t := 81) (b := w.heap.size + 2) (w := U7) (Jr.out) 0 (by simp)
  have zr_1 : U7.cell? ⟨w.heap.size + 2, 1, none⟩ = some (.int .u64 0) := IHolds.cell (l := [.int .u64 0, .int .u64 0, .int .u64 0, .int .u64 0]) (t := 81) (b := w.heap.size + 2) (w := U7) (Jr.out) 1 (by simp)
  have zr_2 : U7.cell? ⟨w.heap.size + 2, 2, none⟩ = some (.int .u64 0) := IHolds.cell (l := [.int .u64 0, .int .u64 0, .int .u64 0, .int .u64 0]) (t := 81) (b := w.heap.size + 2) (w := U7) (Jr.out) 2 (by simp)
  have zr_3 : U7.cell? ⟨w.heap.size + 2, 3, none⟩ = some (.int .u64 0) := IHolds.cell (l := [.int .u64 0, .int .u64 0, .int .u64 0, .int .u64 0]) (t := 81) (b := w.heap.size + 2) (w := U7) (Jr.out) 3 (by simp)
  have f0 := fJ Jr
  have hBut : But (w.heap.size + 2) U7 ((((U7.setCell ⟨w.heap.size + 2, 0, none⟩ (U v0)).setCell ⟨w.heap.size + 2, 1, none⟩ (U v1)).setCell ⟨w.heap.size + 2, 2, none⟩ (U v2)).setCell ⟨w.heap.size + 2, 3, none⟩ (U v3)) := (((((But.refl _ U7).setCell 0 (U v0)).setCell 1 (U v1)).setCell 2 (U v2)).setCell 3 (U v3))
  replace F := tF F hBut neF_r.out
  have I4 : Hid (IHolds _ (w.heap.size + 2) 81 [U v0, U v1, U v2, U v3]) := ((((Jr.out.set 0 (U v0)).set 1 (U v1)).set 2 (U v2)).set 3 (U v3))
  replace B : Hid (Below w.heap.size w ((((U7.setCell ⟨w.heap.size + 2, 0, none⟩ (U v0)).setCell ⟨w.heap.size + 2, 1, none⟩ (U v1)).setCell ⟨w.heap.size + 2, 2, none⟩ (U v2)).setCell ⟨w.heap.size + 2, 3, none⟩ (U v3))) := ((((B.out.setCell (by first | exact Nat.le_refl _ | exact ge_r.out | (show w.heap.size ≤ w.heap.size + 2; omega)) _).setCell (by first | exact Nat.le_refl _ | exact ge_r.out | (show w.heap.size ≤ w.heap.size + 2; omega)) _).setCell (by first | exact Nat.le_refl _ | exact ge_r.out | (show w.heap.size ≤ w.heap.size + 2; omega)) _).setCell (by first | exact Nat.le_refl _ | exact ge_r.out | (show w.heap.size ≤ w.heap.size + 2; omega)) _)
  replace Jx := tJ Jx hBut (by omega)
  replace Jm := tJ Jm hBut (by omega)
  replace Jd := tJ Jd hBut (fun h => ne_r_d.out h.symm)
  replace Jr := I4
  clear I4 hBut
  have zd_0 : U7.cell? ⟨b4, 0, none⟩ = some (U v0) := IHolds.cell (l := [U v0, U v1, U v2, U v3]) (t := 81) (b := b4) (w := U7) (Kd.out) 0 (by simp)
  have zd_1 : U7.cell? ⟨b4, 1, none⟩ = some (U v1) := IHolds.cell (l := [U v0, U v1, U v2, U v3]) (t := 81) (b := b4) (w := U7) (Kd.out) 1 (by simp)
  have zd_2 : U7.cell? ⟨b4, 2, none⟩ = some (U v2) := IHolds.cell (l := [U v0, U v1, U v2, U v3]) (t := 81) (b := b4) (w := U7) (Kd.out) 2 (by simp)
  have zd_3 : U7.cell? ⟨b4, 3, none⟩ = some (U v3) := IHolds.cell (l := [U v0, U v1, U v2, U v3]) (t := 81) (b := b4) (w := U7) (Kd.out) 3 (by simp)
  go_wp2_with fail
  clear zd_0 zd_1 zd_2 zd_3
  clear Kd
  clear zr_0 zr_1 zr_2 zr_3
  clear f0
  generalize ((((U7.setCell ⟨w.heap.size + 2, 0, none⟩ (U v0)).setCell ⟨w.heap.size + 2, 1, none⟩ (U v1)).setCell ⟨w.heap.size + 2, 2, none⟩ (U v2)).setCell ⟨w.heap.size + 2, 3, none⟩ (U v3)) = U8 at *
  have E0 : Hid (U8.cell? ⟨w.heap.size + 2, 0, none⟩ = some (U v0)) := IHolds.cell (l := [U v0, U v1, U v2, U v3]) (t := 81) (b := w.heap.size + 2) (w := U8) Jr.out 0 (by simp)
  have E1 : Hid (U8.cell? ⟨w.heap.size + 2, 1, none⟩ = some (U v1)) := IHolds.cell (l := [U v0, U v1, U v2, U v3]) (t := 81) (b := w.heap.size + 2) (w := U8) Jr.out 1 (by simp)
  have E2 : Hid (U8.cell? ⟨w.heap.size + 2, 2, none⟩ = some (U v2)) := IHolds.cell (l := [U v0, U v1, U v2, U v3]) (t := 81) (b := w.heap.size + 2) (w := U8) Jr.out 2 (by simp)
  have E3 : Hid (U8.cell? ⟨w.heap.size + 2, 3, none⟩ = some (U v3)) := IHolds.cell (l := [U v0, U v1, U v2, U v3]) (t := 81) (b := w.heap.size + 2) (w := U8) Jr.out 3 (by simp)
  exact bodyPost_ret (v := .agg #[U v0, U v1, U v2, U v3]) (by simp [results, Tryz.results85, go_sem, E0.out, E1.out, E2.out, E3.out]) rfl ⟨rfl, B.out⟩
set_option maxRecDepth 100000 in
set_option maxHeartbeats 2000000 in
theorem fminus_ge {w : World} {g o Wd M low one sq : Nat} (F : Hid (FH w g o Wd M low one sq)) (x0 x1 x2 x3 m0 m1 m2 m3 z0 z1 z2 z3 b : Nat) (C1 : Hid (∀ W, Calls Tryz.prog 89 #[.agg #[U x0, U x1, U x2, U x3], .agg #[U m0, U m1, U m2, U m3]] W fun e w' => e = .returned (.tuple #[.agg #[U z0, U z1, U z2, U z3], U b]) ∧ Below W.heap.size W w')) (hb1 : ((b : Int) == 1) = false)  :
    Calls Tryz.prog 85 #[.pointer (some ⟨g, o, none⟩), .agg #[U x0, U x1, U x2, U x3], .agg #[U m0, U m1, U m2, U m3]] w fun e w' => e = .returned (.agg #[U z0, U z1, U z2, U z3]) ∧ Below w.heap.size w w' := by
  go_enter Tryz.func85, Tryz.ntmps85
  go_wp2_with fail
  have neF_x : Hid (g ≠ w.heap.size + 0) := by have h := F.out.lt; show _ ≠ _; omega
  have neF_m : Hid (g ≠ w.heap.size + 1) := by have h := F.out.lt; show _ ≠ _; omega
  have neF_r : Hid (g ≠ w.heap.size + 2) := by have h := F.out.lt; show _ ≠ _; omega
  obtain ⟨U1, hU1⟩ : ∃ X, X = (((w.alloc (.cells #[U x0, U x1, U x2, U x3] 81)).alloc (.cells #[U m0, U m1, U m2, U m3] 81)).alloc (.cells #[.int .u64 0, .int .u64 0, .int .u64 0, .int .u64 0] 81)) := ⟨_, rfl⟩
  have Jx : Hid (IHolds U1 (w.heap.size) 81 [U x0, U x1, U x2, U x3]) := by
    have q := IHolds.new w 81 [U x0, U x1, U x2, U x3]
    show IHolds _ _ _ _
    rw [hU1]
    exact ((q.alloc _).alloc _)
  have Jm : Hid (IHolds U1 (w.heap.size + 1) 81 [U m0, U m1, U m2, U m3]) := by
    have q := IHolds.new (w.alloc (.cells #[U x0, U x1, U x2, U x3] 81)) 81 [U m0, U m1, U m2, U m3]
    simp only [World.size_alloc, Nat.add_assoc, Nat.reduceAdd] at q
    show IHolds _ _ _ _
    rw [hU1]
    exact (q.alloc _)
  have Jr : Hid (IHolds U1 (w.heap.size + 2) 81 [.int .u64 0, .int .u64 0, .int .u64 0, .int .u64 0]) := by
    have q := IHolds.new ((w.alloc (.cells #[U x0, U x1, U x2, U x3] 81)).alloc (.cells #[U m0, U m1, U m2, U m3] 81)) 81 [.int .u64 0, .int .u64 0, .int .u64 0, .int .u64 0]
    simp only [World.size_alloc, Nat.add_assoc, Nat.reduceAdd] at q
    show IHolds _ _ _ _
    rw [hU1]
    exact q
  have B : Hid (Below w.heap.size w U1) := by
    show Below _ _ _
    rw [hU1]
    exact ((((Below.refl _ w).alloc (Nat.le_refl _) _).alloc (by simp only [World.size_alloc]; omega) _).alloc (by simp only [World.size_alloc]; omega) _)
  rw [← hU1]
  clear hU1
  replace F := aF F (show Below w.heap.size w U1 from B.out)
  have zx_0 : U1.cell? ⟨w.heap.size, 0, none⟩ = some (U x0) := IHolds.cell (l := [U x0, U x1, U x2, U x3]) (t := 81) (b := w.heap.size) (w := U1) (Jx.out) 0 (by simp)
  have zx_1 : U1.cell? ⟨w.heap.size, 1, none⟩ = some (U x1) := IHolds.cell (l := [U x0, U x1, U x2, U x3]) (t := 81) (b := w.heap.size) (w := U1) (Jx.out) 1 (by simp)
  have zx_2 : U1.cell? ⟨w.heap.size, 2, none⟩ = some (U x2) := IHolds.cell (l := [U x0, U x1, U x2, U x3]) (t := 81) (b := w.heap.size) (w := U1) (Jx.out) 2 (by simp)
  have zx_3 : U1.cell? ⟨w.heap.size, 3, none⟩ = some (U x3) := IHolds.cell (l := [U x0, U x1, U x2, U x3]) (t := 81) (b := w.heap.size) (w := U1) (Jx.out) 3 (by simp)
  have zm_0 : U1.cell? ⟨w.heap.size + 1, 0, none⟩ = some (U m0) := IHolds.cell (l := [U m0, U m1, U m2, U m3]) (t := 81) (b := w.heap.size + 1) (w := U1) (Jm.out) 0 (by simp)
  have zm_1 : U1.cell? ⟨w.heap.size + 1, 1, none⟩ = some (U m1) := IHolds.cell (l := [U m0, U m1, U m2, U m3]) (t := 81) (b := w.heap.size + 1) (w := U1) (Jm.out) 1 (by simp)
  have zm_2 : U1.cell? ⟨w.heap.size + 1, 2, none⟩ = some (U m2) := IHolds.cell (l := [U m0, U m1, U m2, U m3]) (t := 81) (b := w.heap.size + 1) (w := U1) (Jm.out) 2 (by simp)
  have zm_3 : U1.cell? ⟨w.heap.size + 1, 3, none⟩ = some (U m3) := IHolds.cell (l := [U m0, U m1, U m2, U m3]) (t := 81) (b := w.heap.size + 1) (w := U1) (Jm.out) 3 (by simp)
  go_wp2_with fail
  clear zx_0 zx_1 zx_2 zx_3 zm_0 zm_1 zm_2 zm_3
  refine (C1.out U1).mono ?_
  rintro e U2 ⟨rfl, hb⟩
  replace F := aF F hb
  replace B := aB B hb
  replace Jx := aJ Jx hb
  replace Jm := aJ Jm hb
  replace Jr := aJ Jr hb
  clear hb
  have hb := nB U2 (.cells #[U z0, U z1, U z2, U z3] 81)
  have Jd : Hid (IHolds (U2.alloc (.cells #[U z0, U z1, U z2, U z3] 81)) U2.heap.size 81 [U z0, U z1, U z2, U z3]) := IHolds.new _ _ _
  have ne_x_d := nJ Jx
  have ne_m_d := nJ Jm
  have ne_r_d := nJ Jr
  have ge_d : Hid (w.heap.size ≤ U2.heap.size) := B.out.size
  replace F := aF F hb
  replace B := aB B hb
  replace Jx := aJ Jx hb
  replace Jm := aJ Jm hb
  replace Jr := aJ Jr hb
  clear hb
  have Kd : Hid (IHolds (U2.alloc (.cells #[U z0, U z1, U z2, U z3] 81)) (U2.heap.size) 81 [U z0, U z1, U z2, U z3]) := Jd.out
  have zr_0 : (U2.alloc (.cells #[U z0, U z1, U z2, U z3] 81)).cell? ⟨w.heap.size + 2, 0, none⟩ = some (.int .u64 0) := IHolds.cell (l := [.int .u64 0, .int .u64 0, .int .u64 0, .int .u64 0]) (t := 81) (b := w.heap.size + 2) (w := (U2.alloc (.cells #[U z0, U z1, U z2, U z3] 81))) (Jr.out) 0 (by simp)
  have zr_1 : (U2.alloc (.cells #[U z0, U z1, U z2, U z3] 81)).cell? ⟨w.heap.size + 2, 1, none⟩ = some (.int .u64 0) := IHolds.cell (l := [.int .u64 0, .int .u64 0, .int .u64 0, .int .u64 0]) (t := 81) (b := w.heap.size + 2) (w := (U2.alloc (.cells #[U z0, U z1, U z2, U z3] 81))) (Jr.out) 1 (by simp)
  have zr_2 : (U2.alloc (.cells #[U z0, U z1, U z2, U z3] 81)).cell? ⟨w.heap.size + 2, 2, none⟩ = some (.int .u64 0) := IHolds.cell (l := [.int .u64 0, .int .u64 0, .int .u64 0, .int .u64 0]) (t := 81) (b := w.heap.size + 2) (w := (U2.alloc (.cells #[U z0, U z1, U z2, U z3] 81))) (Jr.out) 2 (by simp)
  have zr_3 : (U2.alloc (.cells #[U z0, U z1, U z2, U z3] 81)).cell? ⟨w.heap.size + 2, 3, none⟩ = some (.int .u64 0) := IHolds.cell (l := [.int .u64 0, .int .u64 0, .int .u64 0, .int .u64 0]) (t := 81) (b := w.heap.size + 2) (w := (U2.alloc (.cells #[U z0, U z1, U z2, U z3] 81))) (Jr.out) 3 (by simp)
  have f0 := fJ Jr
  have hBut : But (w.heap.size + 2) (U2.alloc (.cells #[U z0, U z1, U z2, U z3] 81)) (((((U2.alloc (.cells #[U z0, U z1, U z2, U z3] 81)).setCell ⟨w.heap.size + 2, 0, none⟩ (U z0)).setCell ⟨w.heap.size + 2, 1, none⟩ (U z1)).setCell ⟨w.heap.size + 2, 2, none⟩ (U z2)).setCell ⟨w.heap.size + 2, 3, none⟩ (U z3)) := (((((But.refl _ (U2.alloc (.cells #[U z0, U z1, U z2, U z3] 81))).setCell 0 (U z0)).setCell 1 (U z1)).setCell 2 (U z2)).setCell 3 (U z3))
  replace F := tF F hBut neF_r.out
  have I4 : Hid (IHolds _ (w.heap.size + 2) 81 [U z0, U z1, U z2, U z3]) := ((((Jr.out.set 0 (U z0)).set 1 (U z1)).set 2 (U z2)).set 3 (U z3))
  replace B : Hid (Below w.heap.size w (((((U2.alloc (.cells #[U z0, U z1, U z2, U z3] 81)).setCell ⟨w.heap.size + 2, 0, none⟩ (U z0)).setCell ⟨w.heap.size + 2, 1, none⟩ (U z1)).setCell ⟨w.heap.size + 2, 2, none⟩ (U z2)).setCell ⟨w.heap.size + 2, 3, none⟩ (U z3))) := ((((B.out.setCell (by first | exact Nat.le_refl _ | exact ge_r.out | (show w.heap.size ≤ w.heap.size + 2; omega)) _).setCell (by first | exact Nat.le_refl _ | exact ge_r.out | (show w.heap.size ≤ w.heap.size + 2; omega)) _).setCell (by first | exact Nat.le_refl _ | exact ge_r.out | (show w.heap.size ≤ w.heap.size + 2; omega)) _).setCell (by first | exact Nat.le_refl _ | exact ge_r.out | (show w.heap.size ≤ w.heap.size + 2; omega)) _)
  replace Jx := tJ Jx hBut (by omega)
  replace Jm := tJ Jm hBut (by omega)
  replace Jd := tJ Jd hBut (fun h => ne_r_d.out h.symm)
  replace Jr := I4
  clear I4 hBut
  have zd_0 : (U2.alloc (.cells #[U z0, U z1, U z2, U z3] 81)).cell? ⟨U2.heap.size, 0, none⟩ = some (U z0) := IHolds.cell (l := [U z0, U z1, U z2, U z3]) (t := 81) (b := U2.heap.size) (w := (U2.alloc (.cells #[U z0, U z1, U z2, U z3] 81))) (Kd.out) 0 (by simp)
  have zd_1 : (U2.alloc (.cells #[U z0, U z1, U z2, U z3] 81)).cell? ⟨U2.heap.size, 1, none⟩ = some (U z1) := IHolds.cell (l := [U z0, U z1, U z2, U z3]) (t := 81) (b := U2.heap.size) (w := (U2.alloc (.cells #[U z0, U z1, U z2, U z3] 81))) (Kd.out) 1 (by simp)
  have zd_2 : (U2.alloc (.cells #[U z0, U z1, U z2, U z3] 81)).cell? ⟨U2.heap.size, 2, none⟩ = some (U z2) := IHolds.cell (l := [U z0, U z1, U z2, U z3]) (t := 81) (b := U2.heap.size) (w := (U2.alloc (.cells #[U z0, U z1, U z2, U z3] 81))) (Kd.out) 2 (by simp)
  have zd_3 : (U2.alloc (.cells #[U z0, U z1, U z2, U z3] 81)).cell? ⟨U2.heap.size, 3, none⟩ = some (U z3) := IHolds.cell (l := [U z0, U z1, U z2, U z3]) (t := 81) (b := U2.heap.size) (w := (U2.alloc (.cells #[U z0, U z1, U z2, U z3] 81))) (Kd.out) 3 (by simp)
  go_wp2_with fail
  clear zd_0 zd_1 zd_2 zd_3
  clear Kd
  clear zr_0 zr_1 zr_2 zr_3
  clear f0
  generalize (((((U2.alloc (.cells #[U z0, U z1, U z2, U z3] 81)).setCell ⟨w.heap.size + 2, 0, none⟩ (U z0)).setCell ⟨w.heap.size + 2, 1, none⟩ (U z1)).setCell ⟨w.heap.size + 2, 2, none⟩ (U z2)).setCell ⟨w.heap.size + 2, 3, none⟩ (U z3)) = U3 at *
  have E0 : Hid (U3.cell? ⟨w.heap.size + 2, 0, none⟩ = some (U z0)) := IHolds.cell (l := [U z0, U z1, U z2, U z3]) (t := 81) (b := w.heap.size + 2) (w := U3) Jr.out 0 (by simp)
  have E1 : Hid (U3.cell? ⟨w.heap.size + 2, 1, none⟩ = some (U z1)) := IHolds.cell (l := [U z0, U z1, U z2, U z3]) (t := 81) (b := w.heap.size + 2) (w := U3) Jr.out 1 (by simp)
  have E2 : Hid (U3.cell? ⟨w.heap.size + 2, 2, none⟩ = some (U z2)) := IHolds.cell (l := [U z0, U z1, U z2, U z3]) (t := 81) (b := w.heap.size + 2) (w := U3) Jr.out 2 (by simp)
  have E3 : Hid (U3.cell? ⟨w.heap.size + 2, 3, none⟩ = some (U z3)) := IHolds.cell (l := [U z0, U z1, U z2, U z3]) (t := 81) (b := w.heap.size + 2) (w := U3) Jr.out 3 (by simp)
  exact bodyPost_ret (v := .agg #[U z0, U z1, U z2, U z3]) (by simp [results, Tryz.results85, go_sem, E0.out, E1.out, E2.out, E3.out]) rfl ⟨rfl, B.out⟩
/-- The difference, modulo. -/
def subF (M a b : Nat) : Nat := if a < b then a + M - b else a - b
theorem fminusA {w : World} {g o Wd M low one sq a b : Nat} (F : Hid (FH w g o Wd M low one sq)) (ha : a < M) (hb : b < M) (hM : 2 * M ≤ BB ^ 4) :
    Calls Tryz.prog 85 #[.pointer (some ⟨g, o, none⟩), A4 a, A4 b] w fun e w' => e = .returned (A4 (subF M a b)) ∧ Below w.heap.size w w' := by
  unfold subF
  by_cases h : a < b
  · rw [if_pos h]
    have e : borN a b = 1 := by unfold borN; rw [if_pos h]
    have e2 : (subN a b + M) % BB ^ 4 = a + M - b := by
      unfold subN
      rw [if_pos h, show a + BB ^ 4 - b + M = a + M - b + BB ^ 4 by omega, Nat.add_mod_right, Nat.mod_eq_of_lt (by omega)]
    rw [← e2]
    exact fminus_lt F _ _ _ _ _ _ _ _ _ _ _ _ _ _ _ _ _ (fun W => minusA W (by omega) (by omega)) (by rw [e]; rfl) (fun W => plusM W (subN_lt (by omega) (by omega)) (by omega))
  · rw [if_neg h]
    have e : borN a b = 0 := by unfold borN; rw [if_neg h]
    have e2 : subN a b = a - b := by unfold subN; rw [if_neg h]
    rw [← e2]
    exact fminus_ge F _ _ _ _ _ _ _ _ _ _ _ _ _ (fun W => minusA W (by omega) (by omega)) (by rw [e]; rfl)
end Go.Proofs.YtohpbclofcflaaaGreat
