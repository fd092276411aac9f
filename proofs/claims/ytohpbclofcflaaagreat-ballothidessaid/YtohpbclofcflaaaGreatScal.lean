/- Scalars and elements out of bytes. -/
import Derived.Test.YtohpbclofcflaaaGreatEq
import Derived.Test.YtohpbclofcflaaaGreatIsRef
set_option linter.unusedSimpArgs false
set_option linter.unusedVariables false
namespace Go.Proofs.YtohpbclofcflaaaGreat
open Go.RowKit Go.Deep Go.PlainAid

/-- What a kind stands on, in memory. -/
structure GH (w : World) (g S Wd M low one sq Wd2 M2 low2 one2 sq2 : Nat) : Prop where
  c : w.cell? ⟨g, 0, none⟩ = some (.int .i64 (S : Int))
  fs : FH w g 1 Wd M low one sq
  fe : FH w g 15 Wd2 M2 low2 one2 sq2
theorem GH.lt {w : World} {g S Wd M low one sq Wd2 M2 low2 one2 sq2 : Nat} (h : GH w g S Wd M low one sq Wd2 M2 low2 one2 sq2) : g < w.heap.size := h.fs.lt
theorem GH.ne {w : World} {g S Wd M low one sq Wd2 M2 low2 one2 sq2 : Nat} (h : GH w g S Wd M low one sq Wd2 M2 low2 one2 sq2) : g ≠ w.heap.size := h.fs.ne
theorem GH.of_below {w w' : World} {g S Wd M low one sq Wd2 M2 low2 one2 sq2 : Nat} (h : GH w g S Wd M low one sq Wd2 M2 low2 one2 sq2) (hb : Below w.heap.size w w') : GH w' g S Wd M low one sq Wd2 M2 low2 one2 sq2 := ⟨by rw [hb.cell h.lt]; exact h.c, h.fs.of_below hb, h.fe.of_below hb⟩
theorem GH.of_but {w w' : World} {b g S Wd M low one sq Wd2 M2 low2 one2 sq2 : Nat} (h : GH w g S Wd M low one sq Wd2 M2 low2 one2 sq2) (hb : But b w w') (hne : g ≠ b) : GH w' g S Wd M low one sq Wd2 M2 low2 one2 sq2 := ⟨by rw [hb.cell h.lt hne]; exact h.c, h.fs.of_but hb hne, h.fe.of_but hb hne⟩
theorem aG {w w' : World} {g S Wd M low one sq Wd2 M2 low2 one2 sq2 : Nat} (h : Hid (GH w g S Wd M low one sq Wd2 M2 low2 one2 sq2)) (hb : Below w.heap.size w w') : Hid (GH w' g S Wd M low one sq Wd2 M2 low2 one2 sq2) := h.out.of_below hb
theorem tG {w w' : World} {b g S Wd M low one sq Wd2 M2 low2 one2 sq2 : Nat} (h : Hid (GH w g S Wd M low one sq Wd2 M2 low2 one2 sq2)) (hb : But b w w') (hne : g ≠ b) : Hid (GH w' g S Wd M low one sq Wd2 M2 low2 one2 sq2) := h.out.of_but hb hne
set_option maxRecDepth 100000 in
set_option maxHeartbeats 2000000 in
theorem scalar_no {w : World} {g S Wd M low one sq Wd2 M2 low2 one2 sq2 : Nat} (F : Hid (GH w g S Wd M low one sq Wd2 M2 low2 one2 sq2)) {s : ByteArray} (hne : ((s.size : Int) == (S : Int)) = false) :
    Calls Tryz.prog 57 #[.pointer (some ⟨g, 0, none⟩), .string s] w fun e w' => e = .returned (.tuple #[.agg #[.int .u64 0, .int .u64 0, .int .u64 0, .int .u64 0], .int .i64 6]) ∧ Below w.heap.size w w' := by
  have hne2 : ¬ (s.size : Int) = (S : Int) := by simpa using hne
  have hb := nB w (.cells #[.int .u64 0, .int .u64 0, .int .u64 0, .int .u64 0] 81)
  have Jr : Hid (IHolds (w.alloc (.cells #[.int .u64 0, .int .u64 0, .int .u64 0, .int .u64 0] 81)) w.heap.size 81 [.int .u64 0, .int .u64 0, .int .u64 0, .int .u64 0]) := IHolds.new w 81 _
  have B : Hid (Below w.heap.size w (w.alloc (.cells #[.int .u64 0, .int .u64 0, .int .u64 0, .int .u64 0] 81))) := hb
  have neF_r : Hid (g ≠ w.heap.size) := F.out.ne
  replace F := aG F hb
  clear hb
  have fz0 : (w.alloc (.cells #[.int .u64 0, .int .u64 0, .int .u64 0, .int .u64 0] 81)).cell? ⟨g, 0, none⟩ = some (.int .i64 (S : Int)) := F.out.c
  go_enter Tryz.func57, Tryz.ntmps57
  go_wp2_with fail
  clear fz0 F
  generalize (w.alloc (.cells #[.int .u64 0, .int .u64 0, .int .u64 0, .int .u64 0] 81)) = W9 at *
  have E0 : W9.cell? ⟨w.heap.size, 0, none⟩ = some (.int .u64 0) := Jr.out.cell 0 (by simp)
  have E1 : W9.cell? ⟨w.heap.size, 1, none⟩ = some (.int .u64 0) := Jr.out.cell 1 (by simp)
  have E2 : W9.cell? ⟨w.heap.size, 2, none⟩ = some (.int .u64 0) := Jr.out.cell 2 (by simp)
  have E3 : W9.cell? ⟨w.heap.size, 3, none⟩ = some (.int .u64 0) := Jr.out.cell 3 (by simp)
  exact bodyPost_ret (v := .tuple #[.agg #[.int .u64 0, .int .u64 0, .int .u64 0, .int .u64 0], .int .i64 6]) (by simp [results, Tryz.results57, go_sem, E0, E1, E2, E3]) rfl ⟨rfl, B.out⟩
set_option maxRecDepth 100000 in
set_option maxHeartbeats 2000000 in
theorem scalar_is {w : World} {g S Wd M low one sq Wd2 M2 low2 one2 sq2 : Nat} (F : Hid (GH w g S Wd M low one sq Wd2 M2 low2 one2 sq2)) {s : ByteArray} {z0 z1 z2 z3 : Nat} (hS : S = s.size) (CN : Hid (∀ W, Calls Tryz.prog 74 #[.string s] W fun e w' => e = .returned (.agg #[U z0, U z1, U z2, U z3]) ∧ Below W.heap.size W w')) (CL : Hid (∀ W, Calls Tryz.prog 75 #[.agg #[U z0, U z1, U z2, U z3], .agg #[U (w4 M 0), U (w4 M 1), U (w4 M 2), U (w4 M 3)]] W fun e w' => e = .returned (.bool true) ∧ Below W.heap.size W w'))  :
    Calls Tryz.prog 57 #[.pointer (some ⟨g, 0, none⟩), .string s] w fun e w' => e = .returned (.tuple #[.agg #[U z0, U z1, U z2, U z3], .int .i64 0]) ∧ Below w.heap.size w w' := by
  subst hS
  have hb := nB w (.cells #[.int .u64 0, .int .u64 0, .int .u64 0, .int .u64 0] 81)
  have Jr : Hid (IHolds (w.alloc (.cells #[.int .u64 0, .int .u64 0, .int .u64 0, .int .u64 0] 81)) w.heap.size 81 [.int .u64 0, .int .u64 0, .int .u64 0, .int .u64 0]) := IHolds.new w 81 _
  have B : Hid (Below w.heap.size w (w.alloc (.cells #[.int .u64 0, .int .u64 0, .int .u64 0, .int .u64 0] 81))) := hb
  have neF_r : Hid (g ≠ w.heap.size) := F.out.ne
  replace F := aG F hb
  clear hb
  have fz0 : (w.alloc (.cells #[.int .u64 0, .int .u64 0, .int .u64 0, .int .u64 0] 81)).cell? ⟨g, 0, none⟩ = some (.int .i64 (s.size : Int)) := F.out.c
  go_enter Tryz.func57, Tryz.ntmps57
  go_wp2_with fail
  clear fz0
  generalize (w.alloc (.cells #[.int .u64 0, .int .u64 0, .int .u64 0, .int .u64 0] 81)) = V0 at *
  refine (CN.out V0).mono ?_
  rintro e U1 ⟨rfl, hb⟩
  replace F := aG F hb
  replace B := aB B hb
  replace Jr := aJ Jr hb
  clear hb
  have neF_d : Hid (g ≠ U1.heap.size) := F.out.ne
  have hb := nB U1 (.cells #[U z0, U z1, U z2, U z3] 81)
  have Jd : Hid (IHolds (U1.alloc (.cells #[U z0, U z1, U z2, U z3] 81)) U1.heap.size 81 [U z0, U z1, U z2, U z3]) := IHolds.new _ _ _
  have ne_r_d := nJ Jr
  have ge_d : Hid (w.heap.size ≤ U1.heap.size) := B.out.size
  replace F := aG F hb
  replace B := aB B hb
  replace Jr := aJ Jr hb
  clear hb
  go_wp2_with fail
  generalize (U1.alloc (.cells #[U z0, U z1, U z2, U z3] 81)) = U2 at *
  generalize U1.heap.size = b3 at *
  have hb := dB U2
  replace F := aG F hb
  replace B := aB B hb
  replace Jr := aJ Jr hb
  replace Jd := aJ Jd hb
  clear hb
  refine wp_region_held_drew (S := fun W => (IHolds W (b3) 81 [U z0, U z1, U z2, U z3]) ∧ (GH W g s.size Wd M low one sq Wd2 M2 low2 one2 sq2)) (by kernel_rfl) ⟨Jd.out, F.out⟩ (fun hHeld1 => ?_)
  generalize U2.drew = U4 at *
  refine tk (i := 0) (v := .agg #[U z0, U z1, U z2, U z3]) rfl (by kernel_rfl) (fun _ _ _ h => h) rfl ?_ hHeld1 ?_
  · intro W hS; have zd_0 : W.cell? ⟨b3, 0, none⟩ = some (U z0) := IHolds.cell (l := [U z0, U z1, U z2, U z3]) (t := 81) (b := b3) (w := W) (hS.1) 0 (by simp); have zd_1 : W.cell? ⟨b3, 1, none⟩ = some (U z1) := IHolds.cell (l := [U z0, U z1, U z2, U z3]) (t := 81) (b := b3) (w := W) (hS.1) 1 (by simp); have zd_2 : W.cell? ⟨b3, 2, none⟩ = some (U z2) := IHolds.cell (l := [U z0, U z1, U z2, U z3]) (t := 81) (b := b3) (w := W) (hS.1) 2 (by simp); have zd_3 : W.cell? ⟨b3, 3, none⟩ = some (U z3) := IHolds.cell (l := [U z0, U z1, U z2, U z3]) (t := 81) (b := b3) (w := W) (hS.1) 3 (by simp); go_simp
  simp only [Act.put, y1, y2, y3, y4, y5, y6, y7]
  refine tk (i := 1) (v := .pointer (some ⟨g, 0, none⟩)) rfl (by kernel_rfl) (fun _ _ _ h => h) rfl ?_ hHeld1 ?_
  · intro W hS; go_simp
  simp only [Act.put, y1, y2, y3, y4, y5, y6, y7]
  refine tk (i := 2) (v := .pointer (some ⟨g, 0, none⟩)) rfl (by kernel_rfl) (fun _ _ _ h => h) rfl ?_ hHeld1 ?_
  · intro W hS; go_simp
  simp only [Act.put, y1, y2, y3, y4, y5, y6, y7]
  refine tk (i := 3) (v := .pointer (some ⟨g, 1, none⟩)) rfl (by kernel_rfl) (fun _ _ _ h => h) rfl ?_ hHeld1 ?_
  · intro W hS; go_simp
  simp only [Act.put, y1, y2, y3, y4, y5, y6, y7]
  refine tk (i := 4) (v := .pointer (some ⟨g, 2, none⟩)) rfl (by kernel_rfl) (fun _ _ _ h => h) rfl ?_ hHeld1 ?_
  · intro W hS; go_simp
  simp only [Act.put, y1, y2, y3, y4, y5, y6, y7]
  refine tk (i := 5) (v := .agg #[U (w4 M 0), U (w4 M 1), U (w4 M 2), U (w4 M 3)]) rfl (by kernel_rfl) (fun _ _ _ h => h) rfl ?_ hHeld1 ?_
  · intro W hS; have fz := hS.2; have fz0 : W.cell? ⟨g, 2, none⟩ = some (U (w4 M 0)) := fz.fs.m0; have fz1 : W.cell? ⟨g, 3, none⟩ = some (U (w4 M 1)) := fz.fs.m1; have fz2 : W.cell? ⟨g, 4, none⟩ = some (U (w4 M 2)) := fz.fs.m2; have fz3 : W.cell? ⟨g, 5, none⟩ = some (U (w4 M 3)) := fz.fs.m3; go_simp
  simp only [Act.put, y1, y2, y3, y4, y5, y6, y7]
  refine wpAnyH_ready (rs := [6]) (by kernel_rfl) (by simp) ?_
  refine AllReadyH.cons rfl (fun K hK => ?_) AllReadyH.nil
  clear hHeld1
  go_simp
  refine (CL.out U4).mono ?_
  rintro e U5 ⟨rfl, hb⟩
  replace F := aG F hb
  replace B := aB B hb
  replace Jr := aJ Jr hb
  replace Jd := aJ Jd hb
  clear hb
  go_wp2_with fail
  refine hK.out _ _ (⟨Jd.out, F.out⟩) (fun hHeld2 => ?_)
  clear hK K
  try simp only [Act.put, y1, y2, y3, y4, y5, y6, y7]
  refine wpAnyH_done (by kernel_rfl) ?_ _
  clear hHeld2
  have Kd : Hid (IHolds U5 (b3) 81 [U z0, U z1, U z2, U z3]) := Jd.out
  have zr_0 : U5.cell? ⟨w.heap.size, 0, none⟩ = some (.int .u64 0) := IHolds.cell (l := [.int .u64 0, .int .u64 0, .int .u64 0, .int .u64 0]) (t := 81) (b := w.heap.size) (w := U5) (Jr.out) 0 (by simp)
  have zr_1 : U5.cell? ⟨w.heap.size, 1, none⟩ = some (.int .u64 0) := IHolds.cell (l := [.int .u64 0, .int .u64 0, .int .u64 0, .int .u64 0]) (t := 81) (b := w.heap.size) (w := U5) (Jr.out) 1 (by simp)
  have zr_2 : U5.cell? ⟨w.heap.size, 2, none⟩ = some (.int .u64 0) := IHolds.cell (l := [.int .u64 0, .int .u64 0, .int .u64 0, .int .u64 0]) (t := 81) (b := w.heap.size) (w := U5) (Jr.out) 2 (by simp)
  have zr_3 : U5.cell? ⟨w.heap.size, 3, none⟩ = some (.int .u64 0) := IHolds.cell (l := [.int .u64 0, .int .u64 0, .int .u64 0, .int .u64 0]) (t := 81) (b := w.heap.size) (w := U5) (Jr.out) 3 (by simp)
  have f0 := fJ Jr
  have hBut : But (w.heap.size) U5 ((((U5.setCell ⟨w.heap.size, 0, none⟩ (U z0)).setCell ⟨w.heap.size, 1, none⟩ (U z1)).setCell ⟨w.heap.size, 2, none⟩ (U z2)).setCell ⟨w.heap.size, 3, none⟩ (U z3)) := (((((But.refl _ U5).setCell 0 (U z0)).setCell 1 (U z1)).setCell 2 (U z2)).setCell 3 (U z3))
  replace F := tG F hBut neF_r.out
  have I4 : Hid (IHolds _ (w.heap.size) 81 [U z0, U z1, U z2, U z3]) := ((((Jr.out.set 0 (U z0)).set 1 (U z1)).set 2 (U z2)).set 3 (U z3))
  replace B : Hid (Below w.heap.size w ((((U5.setCell ⟨w.heap.size, 0, none⟩ (U z0)).setCell ⟨w.heap.size, 1, none⟩ (U z1)).setCell ⟨w.heap.size, 2, none⟩ (U z2)).setCell ⟨w.heap.size, 3, none⟩ (U z3))) := ((((B.out.setCell (by first | exact Nat.le_refl _ | exact ge_r.out | (show w.heap.size ≤ w.heap.size; omega)) _).setCell (by first | exact Nat.le_refl _ | exact ge_r.out | (show w.heap.size ≤ w.heap.size; omega)) _).setCell (by first | exact Nat.le_refl _ | exact ge_r.out | (show w.heap.size ≤ w.heap.size; omega)) _).setCell (by first | exact Nat.le_refl _ | exact ge_r.out | (show w.heap.size ≤ w.heap.size; omega)) _)
  replace Jd := tJ Jd hBut (fun h => ne_r_d.out h.symm)
  replace Jr := I4
  clear I4 hBut
  have zd_0 : U5.cell? ⟨b3, 0, none⟩ = some (U z0) := IHolds.cell (l := [U z0, U z1, U z2, U z3]) (t := 81) (b := b3) (w := U5) (Kd.out) 0 (by simp)
  have zd_1 : U5.cell? ⟨b3, 1, none⟩ = some (U z1) := IHolds.cell (l := [U z0, U z1, U z2, U z3]) (t := 81) (b := b3) (w := U5) (Kd.out) 1 (by simp)
  have zd_2 : U5.cell? ⟨b3, 2, none⟩ = some (U z2) := IHolds.cell (l := [U z0, U z1, U z2, U z3]) (t := 81) (b := b3) (w := U5) (Kd.out) 2 (by simp)
  have zd_3 : U5.cell? ⟨b3, 3, none⟩ = some (U z3) := IHolds.cell (l := [U z0, U z1, U z2, U z3]) (t := 81) (b := b3) (w := U5) (Kd.out) 3 (by simp)
  go_wp2_with fail
  clear zd_0 zd_1 zd_2 zd_3
  clear Kd
  clear zr_0 zr_1 zr_2 zr_3
  clear f0
  generalize ((((U5.setCell ⟨w.heap.size, 0, none⟩ (U z0)).setCell ⟨w.heap.size, 1, none⟩ (U z1)).setCell ⟨w.heap.size, 2, none⟩ (U z2)).setCell ⟨w.heap.size, 3, none⟩ (U z3)) = U6 at *
  have E0 : Hid (U6.cell? ⟨w.heap.size, 0, none⟩ = some (U z0)) := IHolds.cell (l := [U z0, U z1, U z2, U z3]) (t := 81) (b := w.heap.size) (w := U6) Jr.out 0 (by simp)
  have E1 : Hid (U6.cell? ⟨w.heap.size, 1, none⟩ = some (U z1)) := IHolds.cell (l := [U z0, U z1, U z2, U z3]) (t := 81) (b := w.heap.size) (w := U6) Jr.out 1 (by simp)
  have E2 : Hid (U6.cell? ⟨w.heap.size, 2, none⟩ = some (U z2)) := IHolds.cell (l := [U z0, U z1, U z2, U z3]) (t := 81) (b := w.heap.size) (w := U6) Jr.out 2 (by simp)
  have E3 : Hid (U6.cell? ⟨w.heap.size, 3, none⟩ = some (U z3)) := IHolds.cell (l := [U z0, U z1, U z2, U z3]) (t := 81) (b := w.heap.size) (w := U6) Jr.out 3 (by simp)
  exact bodyPost_ret (v := .tuple #[.agg #[U z0, U z1, U z2, U z3], .int .i64 0]) (by simp [results, Tryz.results57, go_sem, E0.out, E1.out, E2.out, E3.out]) rfl ⟨rfl, B.out⟩
set_option maxRecDepth 100000 in
set_option maxHeartbeats 2000000 in
theorem scalar_not {w : World} {g S Wd M low one sq Wd2 M2 low2 one2 sq2 : Nat} (F : Hid (GH w g S Wd M low one sq Wd2 M2 low2 one2 sq2)) {s : ByteArray} {z0 z1 z2 z3 : Nat} (hS : S = s.size) (CN : Hid (∀ W, Calls Tryz.prog 74 #[.string s] W fun e w' => e = .returned (.agg #[U z0, U z1, U z2, U z3]) ∧ Below W.heap.size W w')) (CL : Hid (∀ W, Calls Tryz.prog 75 #[.agg #[U z0, U z1, U z2, U z3], .agg #[U (w4 M 0), U (w4 M 1), U (w4 M 2), U (w4 M 3)]] W fun e w' => e = .returned (.bool false) ∧ Below W.heap.size W w'))  :
    Calls Tryz.prog 57 #[.pointer (some ⟨g, 0, none⟩), .string s] w fun e w' => e = .returned (.tuple #[.agg #[.int .u64 0, .int .u64 0, .int .u64 0, .int .u64 0], .int .i64 6]) ∧ Below w.heap.size w w' := by
  subst hS
  have hb := nB w (.cells #[.int .u64 0, .int .u64 0, .int .u64 0, .int .u64 0] 81)
  have Jr : Hid (IHolds (w.alloc (.cells #[.int .u64 0, .int .u64 0, .int .u64 0, .int .u64 0] 81)) w.heap.size 81 [.int .u64 0, .int .u64 0, .int .u64 0, .int .u64 0]) := IHolds.new w 81 _
  have B : Hid (Below w.heap.size w (w.alloc (.cells #[.int .u64 0, .int .u64 0, .int .u64 0, .int .u64 0] 81))) := hb
  have neF_r : Hid (g ≠ w.heap.size) := F.out.ne
  replace F := aG F hb
  clear hb
  have fz0 : (w.alloc (.cells #[.int .u64 0, .int .u64 0, .int .u64 0, .int .u64 0] 81)).cell? ⟨g, 0, none⟩ = some (.int .i64 (s.size : Int)) := F.out.c
  go_enter Tryz.func57, Tryz.ntmps57
  go_wp2_with fail
  clear fz0
  generalize (w.alloc (.cells #[.int .u64 0, .int .u64 0, .int .u64 0, .int .u64 0] 81)) = V0 at *
  refine (CN.out V0).mono ?_
  rintro e U1 ⟨rfl, hb⟩
  replace F := aG F hb
  replace B := aB B hb
  replace Jr := aJ Jr hb
  clear hb
  have neF_d : Hid (g ≠ U1.heap.size) := F.out.ne
  have hb := nB U1 (.cells #[U z0, U z1, U z2, U z3] 81)
  have Jd : Hid (IHolds (U1.alloc (.cells #[U z0, U z1, U z2, U z3] 81)) U1.heap.size 81 [U z0, U z1, U z2, U z3]) := IHolds.new _ _ _
  have ne_r_d := nJ Jr
  have ge_d : Hid (w.heap.size ≤ U1.heap.size) := B.out.size
  replace F := aG F hb
  replace B := aB B hb
  replace Jr := aJ Jr hb
  clear hb
  go_wp2_with fail
  generalize (U1.alloc (.cells #[U z0, U z1, U z2, U z3] 81)) = U2 at *
  generalize U1.heap.size = b3 at *
  have hb := dB U2
  replace F := aG F hb
  replace B := aB B hb
  replace Jr := aJ Jr hb
  replace Jd := aJ Jd hb
  clear hb
  refine wp_region_held_drew (S := fun W => (IHolds W (b3) 81 [U z0, U z1, U z2, U z3]) ∧ (GH W g s.size Wd M low one sq Wd2 M2 low2 one2 sq2)) (by kernel_rfl) ⟨Jd.out, F.out⟩ (fun hHeld1 => ?_)
  generalize U2.drew = U4 at *
  refine tk (i := 0) (v := .agg #[U z0, U z1, U z2, U z3]) rfl (by kernel_rfl) (fun _ _ _ h => h) rfl ?_ hHeld1 ?_
  · intro W hS; have zd_0 : W.cell? ⟨b3, 0, none⟩ = some (U z0) := IHolds.cell (l := [U z0, U z1, U z2, U z3]) (t := 81) (b := b3) (w := W) (hS.1) 0 (by simp); have zd_1 : W.cell? ⟨b3, 1, none⟩ = some (U z1) := IHolds.cell (l := [U z0, U z1, U z2, U z3]) (t := 81) (b := b3) (w := W) (hS.1) 1 (by simp); have zd_2 : W.cell? ⟨b3, 2, none⟩ = some (U z2) := IHolds.cell (l := [U z0, U z1, U z2, U z3]) (t := 81) (b := b3) (w := W) (hS.1) 2 (by simp); have zd_3 : W.cell? ⟨b3, 3, none⟩ = some (U z3) := IHolds.cell (l := [U z0, U z1, U z2, U z3]) (t := 81) (b := b3) (w := W) (hS.1) 3 (by simp); go_simp
  simp only [Act.put, y1, y2, y3, y4, y5, y6, y7]
  refine tk (i := 1) (v := .pointer (some ⟨g, 0, none⟩)) rfl (by kernel_rfl) (fun _ _ _ h => h) rfl ?_ hHeld1 ?_
  · intro W hS; go_simp
  simp only [Act.put, y1, y2, y3, y4, y5, y6, y7]
  refine tk (i := 2) (v := .pointer (some ⟨g, 0, none⟩)) rfl (by kernel_rfl) (fun _ _ _ h => h) rfl ?_ hHeld1 ?_
  · intro W hS; go_simp
  simp only [Act.put, y1, y2, y3, y4, y5, y6, y7]
  refine tk (i := 3) (v := .pointer (some ⟨g, 1, none⟩)) rfl (by kernel_rfl) (fun _ _ _ h => h) rfl ?_ hHeld1 ?_
  · intro W hS; go_simp
  simp only [Act.put, y1, y2, y3, y4, y5, y6, y7]
  refine tk (i := 4) (v := .pointer (some ⟨g, 2, none⟩)) rfl (by kernel_rfl) (fun _ _ _ h => h) rfl ?_ hHeld1 ?_
  · intro W hS; go_simp
  simp only [Act.put, y1, y2, y3, y4, y5, y6, y7]
  refine tk (i := 5) (v := .agg #[U (w4 M 0), U (w4 M 1), U (w4 M 2), U (w4 M 3)]) rfl (by kernel_rfl) (fun _ _ _ h => h) rfl ?_ hHeld1 ?_
  · intro W hS; have fz := hS.2; have fz0 : W.cell? ⟨g, 2, none⟩ = some (U (w4 M 0)) := fz.fs.m0; have fz1 : W.cell? ⟨g, 3, none⟩ = some (U (w4 M 1)) := fz.fs.m1; have fz2 : W.cell? ⟨g, 4, none⟩ = some (U (w4 M 2)) := fz.fs.m2; have fz3 : W.cell? ⟨g, 5, none⟩ = some (U (w4 M 3)) := fz.fs.m3; go_simp
  simp only [Act.put, y1, y2, y3, y4, y5, y6, y7]
  refine wpAnyH_ready (rs := [6]) (by kernel_rfl) (by simp) ?_
  refine AllReadyH.cons rfl (fun K hK => ?_) AllReadyH.nil
  clear hHeld1
  go_simp
  refine (CL.out U4).mono ?_
  rintro e U5 ⟨rfl, hb⟩
  replace F := aG F hb
  replace B := aB B hb
  replace Jr := aJ Jr hb
  replace Jd := aJ Jd hb
  clear hb
  go_wp2_with fail
  refine hK.out _ _ (⟨Jd.out, F.out⟩) (fun hHeld2 => ?_)
  clear hK K
  try simp only [Act.put, y1, y2, y3, y4, y5, y6, y7]
  refine wpAnyH_done (by kernel_rfl) ?_ _
  clear hHeld2
  have zr_0 : U5.cell? ⟨w.heap.size, 0, none⟩ = some (.int .u64 0) := IHolds.cell (l := [.int .u64 0, .int .u64 0, .int .u64 0, .int .u64 0]) (t := 81) (b := w.heap.size) (w := U5) (Jr.out) 0 (by simp)
  have zr_1 : U5.cell? ⟨w.heap.size, 1, none⟩ = some (.int .u64 0) := IHolds.cell (l := [.int .u64 0, .int .u64 0, .int .u64 0, .int .u64 0]) (t := 81) (b := w.heap.size) (w := U5) (Jr.out) 1 (by simp)
  have zr_2 : U5.cell? ⟨w.heap.size, 2, none⟩ = some (.int .u64 0) := IHolds.cell (l := [.int .u64 0, .int .u64 0, .int .u64 0, .int .u64 0]) (t := 81) (b := w.heap.size) (w := U5) (Jr.out) 2 (by simp)
  have zr_3 : U5.cell? ⟨w.heap.size, 3, none⟩ = some (.int .u64 0) := IHolds.cell (l := [.int .u64 0, .int .u64 0, .int .u64 0, .int .u64 0]) (t := 81) (b := w.heap.size) (w := U5) (Jr.out) 3 (by simp)
  have f0 := fJ Jr
  have hBut : But (w.heap.size) U5 ((((U5.setCell ⟨w.heap.size, 0, none⟩ (.int .u64 0)).setCell ⟨w.heap.size, 1, none⟩ (.int .u64 0)).setCell ⟨w.heap.size, 2, none⟩ (.int .u64 0)).setCell ⟨w.heap.size, 3, none⟩ (.int .u64 0)) := (((((But.refl _ U5).setCell 0 (.int .u64 0)).setCell 1 (.int .u64 0)).setCell 2 (.int .u64 0)).setCell 3 (.int .u64 0))
  replace F := tG F hBut neF_r.out
  have I4 : Hid (IHolds _ (w.heap.size) 81 [.int .u64 0, .int .u64 0, .int .u64 0, .int .u64 0]) := ((((Jr.out.set 0 (.int .u64 0)).set 1 (.int .u64 0)).set 2 (.int .u64 0)).set 3 (.int .u64 0))
  replace B : Hid (Below w.heap.size w ((((U5.setCell ⟨w.heap.size, 0, none⟩ (.int .u64 0)).setCell ⟨w.heap.size, 1, none⟩ (.int .u64 0)).setCell ⟨w.heap.size, 2, none⟩ (.int .u64 0)).setCell ⟨w.heap.size, 3, none⟩ (.int .u64 0))) := ((((B.out.setCell (by first | exact Nat.le_refl _ | exact ge_r.out | (show w.heap.size ≤ w.heap.size; omega)) _).setCell (by first | exact Nat.le_refl _ | exact ge_r.out | (show w.heap.size ≤ w.heap.size; omega)) _).setCell (by first | exact Nat.le_refl _ | exact ge_r.out | (show w.heap.size ≤ w.heap.size; omega)) _).setCell (by first | exact Nat.le_refl _ | exact ge_r.out | (show w.heap.size ≤ w.heap.size; omega)) _)
  replace Jd := tJ Jd hBut (fun h => ne_r_d.out h.symm)
  replace Jr := I4
  clear I4 hBut
  go_wp2_with fail
  clear zr_0 zr_1 zr_2 zr_3
  clear f0
  generalize ((((U5.setCell ⟨w.heap.size, 0, none⟩ (.int .u64 0)).setCell ⟨w.heap.size, 1, none⟩ (.int .u64 0)).setCell ⟨w.heap.size, 2, none⟩ (.int .u64 0)).setCell ⟨w.heap.size, 3, none⟩ (.int .u64 0)) = U6 at *
  have E0 : Hid (U6.cell? ⟨w.heap.size, 0, none⟩ = some (.int .u64 0)) := IHolds.cell (l := [.int .u64 0, .int .u64 0, .int .u64 0, .int .u64 0]) (t := 81) (b := w.heap.size) (w := U6) Jr.out 0 (by simp)
  have E1 : Hid (U6.cell? ⟨w.heap.size, 1, none⟩ = some (.int .u64 0)) := IHolds.cell (l := [.int .u64 0, .int .u64 0, .int .u64 0, .int .u64 0]) (t := 81) (b := w.heap.size) (w := U6) Jr.out 1 (by simp)
  have E2 : Hid (U6.cell? ⟨w.heap.size, 2, none⟩ = some (.int .u64 0)) := IHolds.cell (l := [.int .u64 0, .int .u64 0, .int .u64 0, .int .u64 0]) (t := 81) (b := w.heap.size) (w := U6) Jr.out 2 (by simp)
  have E3 : Hid (U6.cell? ⟨w.heap.size, 3, none⟩ = some (.int .u64 0)) := IHolds.cell (l := [.int .u64 0, .int .u64 0, .int .u64 0, .int .u64 0]) (t := 81) (b := w.heap.size) (w := U6) Jr.out 3 (by simp)
  exact bodyPost_ret (v := .tuple #[.agg #[.int .u64 0, .int .u64 0, .int .u64 0, .int .u64 0], .int .i64 6]) (by simp [results, Tryz.results57, go_sem, E0.out, E1.out, E2.out, E3.out]) rfl ⟨rfl, B.out⟩
set_option maxRecDepth 100000 in
set_option maxHeartbeats 2000000 in
theorem elem_no {w : World} {g S Wd M low one sq Wd2 M2 low2 one2 sq2 : Nat} (F : Hid (GH w g S Wd M low one sq Wd2 M2 low2 one2 sq2)) {s : ByteArray} (hne : ((s.size : Int) == (S : Int)) = false) :
    Calls Tryz.prog 55 #[.pointer (some ⟨g, 0, none⟩), .string s] w fun e w' => e = .returned (.tuple #[.agg #[.int .u64 0, .int .u64 0, .int .u64 0, .int .u64 0], .int .i64 7]) ∧ Below w.heap.size w w' := by
  have hne2 : ¬ (s.size : Int) = (S : Int) := by simpa using hne
  have hb := nB w (.cells #[.int .u64 0, .int .u64 0, .int .u64 0, .int .u64 0] 81)
  have Jr : Hid (IHolds (w.alloc (.cells #[.int .u64 0, .int .u64 0, .int .u64 0, .int .u64 0] 81)) w.heap.size 81 [.int .u64 0, .int .u64 0, .int .u64 0, .int .u64 0]) := IHolds.new w 81 _
  have B : Hid (Below w.heap.size w (w.alloc (.cells #[.int .u64 0, .int .u64 0, .int .u64 0, .int .u64 0] 81))) := hb
  have neF_r : Hid (g ≠ w.heap.size) := F.out.ne
  replace F := aG F hb
  clear hb
  have fz0 : (w.alloc (.cells #[.int .u64 0, .int .u64 0, .int .u64 0, .int .u64 0] 81)).cell? ⟨g, 0, none⟩ = some (.int .i64 (S : Int)) := F.out.c
  go_enter Tryz.func55, Tryz.ntmps55
  go_wp2_with fail
  clear fz0 F
  generalize (w.alloc (.cells #[.int .u64 0, .int .u64 0, .int .u64 0, .int .u64 0] 81)) = W9 at *
  have E0 : W9.cell? ⟨w.heap.size, 0, none⟩ = some (.int .u64 0) := Jr.out.cell 0 (by simp)
  have E1 : W9.cell? ⟨w.heap.size, 1, none⟩ = some (.int .u64 0) := Jr.out.cell 1 (by simp)
  have E2 : W9.cell? ⟨w.heap.size, 2, none⟩ = some (.int .u64 0) := Jr.out.cell 2 (by simp)
  have E3 : W9.cell? ⟨w.heap.size, 3, none⟩ = some (.int .u64 0) := Jr.out.cell 3 (by simp)
  exact bodyPost_ret (v := .tuple #[.agg #[.int .u64 0, .int .u64 0, .int .u64 0, .int .u64 0], .int .i64 7]) (by simp [results, Tryz.results55, go_sem, E0, E1, E2, E3]) rfl ⟨rfl, B.out⟩
set_option maxRecDepth 100000 in
set_option maxHeartbeats 2000000 in
theorem elem_is {w : World} {g S Wd M low one sq Wd2 M2 low2 one2 sq2 : Nat} (F : Hid (GH w g S Wd M low one sq Wd2 M2 low2 one2 sq2)) {s : ByteArray} {z0 z1 z2 z3 : Nat} (hS : S = s.size) (CN : Hid (∀ W, Calls Tryz.prog 74 #[.string s] W fun e w' => e = .returned (.agg #[U z0, U z1, U z2, U z3]) ∧ Below W.heap.size W w')) (CL : Hid (∀ W, Calls Tryz.prog 75 #[.agg #[U (w4 M 0), U (w4 M 1), U (w4 M 2), U (w4 M 3)], .agg #[U z0, U z1, U z2, U z3]] W fun e w' => e = .returned (.bool false) ∧ Below W.heap.size W w')) (hz : decide (z0 = 0 ∧ z1 = 0 ∧ z2 = 0 ∧ z3 = 0) = false) :
    Calls Tryz.prog 55 #[.pointer (some ⟨g, 0, none⟩), .string s] w fun e w' => e = .returned (.tuple #[.agg #[U z0, U z1, U z2, U z3], .int .i64 0]) ∧ Below w.heap.size w w' := by
  subst hS
  have hq : ∀ W, (Op.equalIn 10000 81 (.agg #[U z0, U z1, U z2, U z3]) (.agg #[.int .u64 0, .int .u64 0, .int .u64 0, .int .u64 0])).run Tryz.prog W = .ok false W := fun W => by rw [eq66, hz]
  clear hz
  have hb := nB w (.cells #[.int .u64 0, .int .u64 0, .int .u64 0, .int .u64 0] 81)
  have Jr : Hid (IHolds (w.alloc (.cells #[.int .u64 0, .int .u64 0, .int .u64 0, .int .u64 0] 81)) w.heap.size 81 [.int .u64 0, .int .u64 0, .int .u64 0, .int .u64 0]) := IHolds.new w 81 _
  have B : Hid (Below w.heap.size w (w.alloc (.cells #[.int .u64 0, .int .u64 0, .int .u64 0, .int .u64 0] 81))) := hb
  have neF_r : Hid (g ≠ w.heap.size) := F.out.ne
  replace F := aG F hb
  clear hb
  have fz0 : (w.alloc (.cells #[.int .u64 0, .int .u64 0, .int .u64 0, .int .u64 0] 81)).cell? ⟨g, 0, none⟩ = some (.int .i64 (s.size : Int)) := F.out.c
  go_enter Tryz.func55, Tryz.ntmps55
  go_wp2_with fail
  clear fz0
  generalize (w.alloc (.cells #[.int .u64 0, .int .u64 0, .int .u64 0, .int .u64 0] 81)) = V0 at *
  refine (CN.out V0).mono ?_
  rintro e U1 ⟨rfl, hb⟩
  replace F := aG F hb
  replace B := aB B hb
  replace Jr := aJ Jr hb
  clear hb
  have neF_d : Hid (g ≠ U1.heap.size) := F.out.ne
  have hb := nB U1 (.cells #[U z0, U z1, U z2, U z3] 81)
  have Jd : Hid (IHolds (U1.alloc (.cells #[U z0, U z1, U z2, U z3] 81)) U1.heap.size 81 [U z0, U z1, U z2, U z3]) := IHolds.new _ _ _
  have ne_r_d := nJ Jr
  have ge_d : Hid (w.heap.size ≤ U1.heap.size) := B.out.size
  replace F := aG F hb
  replace B := aB B hb
  replace Jr := aJ Jr hb
  clear hb
  go_wp2_with fail
  generalize (U1.alloc (.cells #[U z0, U z1, U z2, U z3] 81)) = U2 at *
  generalize U1.heap.size = b3 at *
  have hb := dB U2
  replace F := aG F hb
  replace B := aB B hb
  replace Jr := aJ Jr hb
  replace Jd := aJ Jd hb
  clear hb
  refine wp_region_held_drew (S := fun W => (IHolds W (b3) 81 [U z0, U z1, U z2, U z3]) ∧ (GH W g s.size Wd M low one sq Wd2 M2 low2 one2 sq2)) (by kernel_rfl) ⟨Jd.out, F.out⟩ (fun hHeld1 => ?_)
  generalize U2.drew = U4 at *
  refine tk (i := 0) (v := .agg #[U z0, U z1, U z2, U z3]) rfl (by kernel_rfl) (fun _ _ _ h => h) rfl ?_ hHeld1 ?_
  · intro W hS; have zd_0 : W.cell? ⟨b3, 0, none⟩ = some (U z0) := IHolds.cell (l := [U z0, U z1, U z2, U z3]) (t := 81) (b := b3) (w := W) (hS.1) 0 (by simp); have zd_1 : W.cell? ⟨b3, 1, none⟩ = some (U z1) := IHolds.cell (l := [U z0, U z1, U z2, U z3]) (t := 81) (b := b3) (w := W) (hS.1) 1 (by simp); have zd_2 : W.cell? ⟨b3, 2, none⟩ = some (U z2) := IHolds.cell (l := [U z0, U z1, U z2, U z3]) (t := 81) (b := b3) (w := W) (hS.1) 2 (by simp); have zd_3 : W.cell? ⟨b3, 3, none⟩ = some (U z3) := IHolds.cell (l := [U z0, U z1, U z2, U z3]) (t := 81) (b := b3) (w := W) (hS.1) 3 (by simp); go_simp
  simp only [Act.put, y1, y2, y3, y4, y5, y6, y7]
  refine tk (i := 1) (v := .agg #[.int .u64 0, .int .u64 0, .int .u64 0, .int .u64 0]) rfl (by kernel_rfl) (fun _ _ _ h => h) rfl ?_ hHeld1 ?_
  · intro W hS; go_simp
  simp only [Act.put, y1, y2, y3, y4, y5, y6, y7]
  refine tk (i := 2) (v := (.bool true)) rfl (by kernel_rfl) (fun _ _ _ h => h) rfl ?_ hHeld1 ?_
  · intro W hS; go_simp
  simp only [Act.put, y1, y2, y3, y4, y5, y6, y7]
  refine tk (i := 3) (v := (.bool true)) rfl (by kernel_rfl) (fun _ _ _ h => h) rfl ?_ hHeld1 ?_
  · intro W hS; go_simp
  simp only [Act.put, y1, y2, y3, y4, y5, y6, y7]
  refine tk (i := 4) (v := .pointer (some ⟨g, 0, none⟩)) rfl (by kernel_rfl) (fun _ _ _ h => h) rfl ?_ hHeld1 ?_
  · intro W hS; go_simp
  simp only [Act.put, y1, y2, y3, y4, y5, y6, y7]
  refine tk (i := 9) (v := .agg #[U z0, U z1, U z2, U z3]) rfl (by kernel_rfl) (fun _ _ _ h => h) rfl ?_ hHeld1 ?_
  · intro W hS; have zd_0 : W.cell? ⟨b3, 0, none⟩ = some (U z0) := IHolds.cell (l := [U z0, U z1, U z2, U z3]) (t := 81) (b := b3) (w := W) (hS.1) 0 (by simp); have zd_1 : W.cell? ⟨b3, 1, none⟩ = some (U z1) := IHolds.cell (l := [U z0, U z1, U z2, U z3]) (t := 81) (b := b3) (w := W) (hS.1) 1 (by simp); have zd_2 : W.cell? ⟨b3, 2, none⟩ = some (U z2) := IHolds.cell (l := [U z0, U z1, U z2, U z3]) (t := 81) (b := b3) (w := W) (hS.1) 2 (by simp); have zd_3 : W.cell? ⟨b3, 3, none⟩ = some (U z3) := IHolds.cell (l := [U z0, U z1, U z2, U z3]) (t := 81) (b := b3) (w := W) (hS.1) 3 (by simp); go_simp
  simp only [Act.put, y1, y2, y3, y4, y5, y6, y7]
  refine tk (i := 5) (v := .pointer (some ⟨g, 0, none⟩)) rfl (by kernel_rfl) (fun _ _ _ h => h) rfl ?_ hHeld1 ?_
  · intro W hS; go_simp
  simp only [Act.put, y1, y2, y3, y4, y5, y6, y7]
  refine tk (i := 6) (v := .pointer (some ⟨g, 1, none⟩)) rfl (by kernel_rfl) (fun _ _ _ h => h) rfl ?_ hHeld1 ?_
  · intro W hS; go_simp
  simp only [Act.put, y1, y2, y3, y4, y5, y6, y7]
  refine tk (i := 7) (v := .pointer (some ⟨g, 2, none⟩)) rfl (by kernel_rfl) (fun _ _ _ h => h) rfl ?_ hHeld1 ?_
  · intro W hS; go_simp
  simp only [Act.put, y1, y2, y3, y4, y5, y6, y7]
  refine tk (i := 8) (v := .agg #[U (w4 M 0), U (w4 M 1), U (w4 M 2), U (w4 M 3)]) rfl (by kernel_rfl) (fun _ _ _ h => h) rfl ?_ hHeld1 ?_
  · intro W hS; have fz := hS.2; have fz0 : W.cell? ⟨g, 2, none⟩ = some (U (w4 M 0)) := fz.fs.m0; have fz1 : W.cell? ⟨g, 3, none⟩ = some (U (w4 M 1)) := fz.fs.m1; have fz2 : W.cell? ⟨g, 4, none⟩ = some (U (w4 M 2)) := fz.fs.m2; have fz3 : W.cell? ⟨g, 5, none⟩ = some (U (w4 M 3)) := fz.fs.m3; go_simp
  simp only [Act.put, y1, y2, y3, y4, y5, y6, y7]
  refine wpAnyH_ready (rs := [10]) (by kernel_rfl) (by simp) ?_
  refine AllReadyH.cons rfl (fun K hK => ?_) AllReadyH.nil
  clear hHeld1
  go_simp
  refine (CL.out U4).mono ?_
  rintro e U5 ⟨rfl, hb⟩
  replace F := aG F hb
  replace B := aB B hb
  replace Jr := aJ Jr hb
  replace Jd := aJ Jd hb
  clear hb
  go_wp2_with fail
  refine hK.out _ _ (⟨Jd.out, F.out⟩) (fun hHeld2 => ?_)
  clear hK K
  try simp only [Act.put, y1, y2, y3, y4, y5, y6, y7]
  refine tk (i := 11) (v := (.bool true)) rfl (by kernel_rfl) (fun _ _ _ h => h) rfl ?_ hHeld2 ?_
  · intro W hS; go_simp
  simp only [Act.put, y1, y2, y3, y4, y5, y6, y7]
  refine tk (i := 12) (v := (.bool true)) rfl (by kernel_rfl) (fun _ _ _ h => h) rfl ?_ hHeld2 ?_
  · intro W hS; go_simp
  simp only [Act.put, y1, y2, y3, y4, y5, y6, y7]
  refine wpAnyH_done (by kernel_rfl) ?_ _
  clear hHeld2
  have Kd : Hid (IHolds U5 (b3) 81 [U z0, U z1, U z2, U z3]) := Jd.out
  have zr_0 : U5.cell? ⟨w.heap.size, 0, none⟩ = some (.int .u64 0) := IHolds.cell (l := [.int .u64 0, .int .u64 0, .int .u64 0, .int .u64 0]) (t := 81) (b := w.heap.size) (w := U5) (Jr.out) 0 (by simp)
  have zr_1 : U5.cell? ⟨w.heap.size, 1, none⟩ = some (.int .u64 0) := IHolds.cell (l := [.int .u64 0, .int .u64 0, .int .u64 0, .int .u64 0]) (t := 81) (b := w.heap.size) (w := U5) (Jr.out) 1 (by simp)
  have zr_2 : U5.cell? ⟨w.heap.size, 2, none⟩ = some (.int .u64 0) := IHolds.cell (l := [.int .u64 0, .int .u64 0, .int .u64 0, .int .u64 0]) (t := 81) (b := w.heap.size) (w := U5) (Jr.out) 2 (by simp)
  have zr_3 : U5.cell? ⟨w.heap.size, 3, none⟩ = some (.int .u64 0) := IHolds.cell (l := [.int .u64 0, .int .u64 0, .int .u64 0, .int .u64 0]) (t := 81) (b := w.heap.size) (w := U5) (Jr.out) 3 (by simp)
  have f0 := fJ Jr
  have hBut : But (w.heap.size) U5 ((((U5.setCell ⟨w.heap.size, 0, none⟩ (U z0)).setCell ⟨w.heap.size, 1, none⟩ (U z1)).setCell ⟨w.heap.size, 2, none⟩ (U z2)).setCell ⟨w.heap.size, 3, none⟩ (U z3)) := (((((But.refl _ U5).setCell 0 (U z0)).setCell 1 (U z1)).setCell 2 (U z2)).setCell 3 (U z3))
  replace F := tG F hBut neF_r.out
  have I4 : Hid (IHolds _ (w.heap.size) 81 [U z0, U z1, U z2, U z3]) := ((((Jr.out.set 0 (U z0)).set 1 (U z1)).set 2 (U z2)).set 3 (U z3))
  replace B : Hid (Below w.heap.size w ((((U5.setCell ⟨w.heap.size, 0, none⟩ (U z0)).setCell ⟨w.heap.size, 1, none⟩ (U z1)).setCell ⟨w.heap.size, 2, none⟩ (U z2)).setCell ⟨w.heap.size, 3, none⟩ (U z3))) := ((((B.out.setCell (by first | exact Nat.le_refl _ | exact ge_r.out | (show w.heap.size ≤ w.heap.size; omega)) _).setCell (by first | exact Nat.le_refl _ | exact ge_r.out | (show w.heap.size ≤ w.heap.size; omega)) _).setCell (by first | exact Nat.le_refl _ | exact ge_r.out | (show w.heap.size ≤ w.heap.size; omega)) _).setCell (by first | exact Nat.le_refl _ | exact ge_r.out | (show w.heap.size ≤ w.heap.size; omega)) _)
  replace Jd := tJ Jd hBut (fun h => ne_r_d.out h.symm)
  replace Jr := I4
  clear I4 hBut
  have zd_0 : U5.cell? ⟨b3, 0, none⟩ = some (U z0) := IHolds.cell (l := [U z0, U z1, U z2, U z3]) (t := 81) (b := b3) (w := U5) (Kd.out) 0 (by simp)
  have zd_1 : U5.cell? ⟨b3, 1, none⟩ = some (U z1) := IHolds.cell (l := [U z0, U z1, U z2, U z3]) (t := 81) (b := b3) (w := U5) (Kd.out) 1 (by simp)
  have zd_2 : U5.cell? ⟨b3, 2, none⟩ = some (U z2) := IHolds.cell (l := [U z0, U z1, U z2, U z3]) (t := 81) (b := b3) (w := U5) (Kd.out) 2 (by simp)
  have zd_3 : U5.cell? ⟨b3, 3, none⟩ = some (U z3) := IHolds.cell (l := [U z0, U z1, U z2, U z3]) (t := 81) (b := b3) (w := U5) (Kd.out) 3 (by simp)
  go_wp2_with fail
  clear zd_0 zd_1 zd_2 zd_3
  clear Kd
  clear zr_0 zr_1 zr_2 zr_3
  clear f0
  generalize ((((U5.setCell ⟨w.heap.size, 0, none⟩ (U z0)).setCell ⟨w.heap.size, 1, none⟩ (U z1)).setCell ⟨w.heap.size, 2, none⟩ (U z2)).setCell ⟨w.heap.size, 3, none⟩ (U z3)) = U6 at *
  have E0 : Hid (U6.cell? ⟨w.heap.size, 0, none⟩ = some (U z0)) := IHolds.cell (l := [U z0, U z1, U z2, U z3]) (t := 81) (b := w.heap.size) (w := U6) Jr.out 0 (by simp)
  have E1 : Hid (U6.cell? ⟨w.heap.size, 1, none⟩ = some (U z1)) := IHolds.cell (l := [U z0, U z1, U z2, U z3]) (t := 81) (b := w.heap.size) (w := U6) Jr.out 1 (by simp)
  have E2 : Hid (U6.cell? ⟨w.heap.size, 2, none⟩ = some (U z2)) := IHolds.cell (l := [U z0, U z1, U z2, U z3]) (t := 81) (b := w.heap.size) (w := U6) Jr.out 2 (by simp)
  have E3 : Hid (U6.cell? ⟨w.heap.size, 3, none⟩ = some (U z3)) := IHolds.cell (l := [U z0, U z1, U z2, U z3]) (t := 81) (b := w.heap.size) (w := U6) Jr.out 3 (by simp)
  exact bodyPost_ret (v := .tuple #[.agg #[U z0, U z1, U z2, U z3], .int .i64 0]) (by simp [results, Tryz.results55, go_sem, E0.out, E1.out, E2.out, E3.out]) rfl ⟨rfl, B.out⟩
set_option maxRecDepth 100000 in
set_option maxHeartbeats 2000000 in
theorem elem_not {w : World} {g S Wd M low one sq Wd2 M2 low2 one2 sq2 : Nat} (F : Hid (GH w g S Wd M low one sq Wd2 M2 low2 one2 sq2)) {s : ByteArray} {z0 z1 z2 z3 : Nat} (hS : S = s.size) (CN : Hid (∀ W, Calls Tryz.prog 74 #[.string s] W fun e w' => e = .returned (.agg #[U z0, U z1, U z2, U z3]) ∧ Below W.heap.size W w')) (CL : Hid (∀ W, Calls Tryz.prog 75 #[.agg #[U (w4 M 0), U (w4 M 1), U (w4 M 2), U (w4 M 3)], .agg #[U z0, U z1, U z2, U z3]] W fun e w' => e = .returned (.bool true) ∧ Below W.heap.size W w')) (hz : decide (z0 = 0 ∧ z1 = 0 ∧ z2 = 0 ∧ z3 = 0) = false) :
    Calls Tryz.prog 55 #[.pointer (some ⟨g, 0, none⟩), .string s] w fun e w' => e = .returned (.tuple #[.agg #[.int .u64 0, .int .u64 0, .int .u64 0, .int .u64 0], .int .i64 7]) ∧ Below w.heap.size w w' := by
  subst hS
  have hq : ∀ W, (Op.equalIn 10000 81 (.agg #[U z0, U z1, U z2, U z3]) (.agg #[.int .u64 0, .int .u64 0, .int .u64 0, .int .u64 0])).run Tryz.prog W = .ok false W := fun W => by rw [eq66, hz]
  clear hz
  have hb := nB w (.cells #[.int .u64 0, .int .u64 0, .int .u64 0, .int .u64 0] 81)
  have Jr : Hid (IHolds (w.alloc (.cells #[.int .u64 0, .int .u64 0, .int .u64 0, .int .u64 0] 81)) w.heap.size 81 [.int .u64 0, .int .u64 0, .int .u64 0, .int .u64 0]) := IHolds.new w 81 _
  have B : Hid (Below w.heap.size w (w.alloc (.cells #[.int .u64 0, .int .u64 0, .int .u64 0, .int .u64 0] 81))) := hb
  have neF_r : Hid (g ≠ w.heap.size) := F.out.ne
  replace F := aG F hb
  clear hb
  have fz0 : (w.alloc (.cells #[.int .u64 0, .int .u64 0, .int .u64 0, .int .u64 0] 81)).cell? ⟨g, 0, none⟩ = some (.int .i64 (s.size : Int)) := F.out.c
  go_enter Tryz.func55, Tryz.ntmps55
  go_wp2_with fail
  clear fz0
  generalize (w.alloc (.cells #[.int .u64 0, .int .u64 0, .int .u64 0, .int .u64 0] 81)) = V0 at *
  refine (CN.out V0).mono ?_
  rintro e U1 ⟨rfl, hb⟩
  replace F := aG F hb
  replace B := aB B hb
  replace Jr := aJ Jr hb
  clear hb
  have neF_d : Hid (g ≠ U1.heap.size) := F.out.ne
  have hb := nB U1 (.cells #[U z0, U z1, U z2, U z3] 81)
  have Jd : Hid (IHolds (U1.alloc (.cells #[U z0, U z1, U z2, U z3] 81)) U1.heap.size 81 [U z0, U z1, U z2, U z3]) := IHolds.new _ _ _
  have ne_r_d := nJ Jr
  have ge_d : Hid (w.heap.size ≤ U1.heap.size) := B.out.size
  replace F := aG F hb
  replace B := aB B hb
  replace Jr := aJ Jr hb
  clear hb
  go_wp2_with fail
  generalize (U1.alloc (.cells #[U z0, U z1, U z2, U z3] 81)) = U2 at *
  generalize U1.heap.size = b3 at *
  have hb := dB U2
  replace F := aG F hb
  replace B := aB B hb
  replace Jr := aJ Jr hb
  replace Jd := aJ Jd hb
  clear hb
  refine wp_region_held_drew (S := fun W => (IHolds W (b3) 81 [U z0, U z1, U z2, U z3]) ∧ (GH W g s.size Wd M low one sq Wd2 M2 low2 one2 sq2)) (by kernel_rfl) ⟨Jd.out, F.out⟩ (fun hHeld1 => ?_)
  generalize U2.drew = U4 at *
  refine tk (i := 0) (v := .agg #[U z0, U z1, U z2, U z3]) rfl (by kernel_rfl) (fun _ _ _ h => h) rfl ?_ hHeld1 ?_
  · intro W hS; have zd_0 : W.cell? ⟨b3, 0, none⟩ = some (U z0) := IHolds.cell (l := [U z0, U z1, U z2, U z3]) (t := 81) (b := b3) (w := W) (hS.1) 0 (by simp); have zd_1 : W.cell? ⟨b3, 1, none⟩ = some (U z1) := IHolds.cell (l := [U z0, U z1, U z2, U z3]) (t := 81) (b := b3) (w := W) (hS.1) 1 (by simp); have zd_2 : W.cell? ⟨b3, 2, none⟩ = some (U z2) := IHolds.cell (l := [U z0, U z1, U z2, U z3]) (t := 81) (b := b3) (w := W) (hS.1) 2 (by simp); have zd_3 : W.cell? ⟨b3, 3, none⟩ = some (U z3) := IHolds.cell (l := [U z0, U z1, U z2, U z3]) (t := 81) (b := b3) (w := W) (hS.1) 3 (by simp); go_simp
  simp only [Act.put, y1, y2, y3, y4, y5, y6, y7]
  refine tk (i := 1) (v := .agg #[.int .u64 0, .int .u64 0, .int .u64 0, .int .u64 0]) rfl (by kernel_rfl) (fun _ _ _ h => h) rfl ?_ hHeld1 ?_
  · intro W hS; go_simp
  simp only [Act.put, y1, y2, y3, y4, y5, y6, y7]
  refine tk (i := 2) (v := (.bool true)) rfl (by kernel_rfl) (fun _ _ _ h => h) rfl ?_ hHeld1 ?_
  · intro W hS; go_simp
  simp only [Act.put, y1, y2, y3, y4, y5, y6, y7]
  refine tk (i := 3) (v := (.bool true)) rfl (by kernel_rfl) (fun _ _ _ h => h) rfl ?_ hHeld1 ?_
  · intro W hS; go_simp
  simp only [Act.put, y1, y2, y3, y4, y5, y6, y7]
  refine tk (i := 4) (v := .pointer (some ⟨g, 0, none⟩)) rfl (by kernel_rfl) (fun _ _ _ h => h) rfl ?_ hHeld1 ?_
  · intro W hS; go_simp
  simp only [Act.put, y1, y2, y3, y4, y5, y6, y7]
  refine tk (i := 9) (v := .agg #[U z0, U z1, U z2, U z3]) rfl (by kernel_rfl) (fun _ _ _ h => h) rfl ?_ hHeld1 ?_
  · intro W hS; have zd_0 : W.cell? ⟨b3, 0, none⟩ = some (U z0) := IHolds.cell (l := [U z0, U z1, U z2, U z3]) (t := 81) (b := b3) (w := W) (hS.1) 0 (by simp); have zd_1 : W.cell? ⟨b3, 1, none⟩ = some (U z1) := IHolds.cell (l := [U z0, U z1, U z2, U z3]) (t := 81) (b := b3) (w := W) (hS.1) 1 (by simp); have zd_2 : W.cell? ⟨b3, 2, none⟩ = some (U z2) := IHolds.cell (l := [U z0, U z1, U z2, U z3]) (t := 81) (b := b3) (w := W) (hS.1) 2 (by simp); have zd_3 : W.cell? ⟨b3, 3, none⟩ = some (U z3) := IHolds.cell (l := [U z0, U z1, U z2, U z3]) (t := 81) (b := b3) (w := W) (hS.1) 3 (by simp); go_simp
  simp only [Act.put, y1, y2, y3, y4, y5, y6, y7]
  refine tk (i := 5) (v := .pointer (some ⟨g, 0, none⟩)) rfl (by kernel_rfl) (fun _ _ _ h => h) rfl ?_ hHeld1 ?_
  · intro W hS; go_simp
  simp only [Act.put, y1, y2, y3, y4, y5, y6, y7]
  refine tk (i := 6) (v := .pointer (some ⟨g, 1, none⟩)) rfl (by kernel_rfl) (fun _ _ _ h => h) rfl ?_ hHeld1 ?_
  · intro W hS; go_simp
  simp only [Act.put, y1, y2, y3, y4, y5, y6, y7]
  refine tk (i := 7) (v := .pointer (some ⟨g, 2, none⟩)) rfl (by kernel_rfl) (fun _ _ _ h => h) rfl ?_ hHeld1 ?_
  · intro W hS; go_simp
  simp only [Act.put, y1, y2, y3, y4, y5, y6, y7]
  refine tk (i := 8) (v := .agg #[U (w4 M 0), U (w4 M 1), U (w4 M 2), U (w4 M 3)]) rfl (by kernel_rfl) (fun _ _ _ h => h) rfl ?_ hHeld1 ?_
  · intro W hS; have fz := hS.2; have fz0 : W.cell? ⟨g, 2, none⟩ = some (U (w4 M 0)) := fz.fs.m0; have fz1 : W.cell? ⟨g, 3, none⟩ = some (U (w4 M 1)) := fz.fs.m1; have fz2 : W.cell? ⟨g, 4, none⟩ = some (U (w4 M 2)) := fz.fs.m2; have fz3 : W.cell? ⟨g, 5, none⟩ = some (U (w4 M 3)) := fz.fs.m3; go_simp
  simp only [Act.put, y1, y2, y3, y4, y5, y6, y7]
  refine wpAnyH_ready (rs := [10]) (by kernel_rfl) (by simp) ?_
  refine AllReadyH.cons rfl (fun K hK => ?_) AllReadyH.nil
  clear hHeld1
  go_simp
  refine (CL.out U4).mono ?_
  rintro e U5 ⟨rfl, hb⟩
  replace F := aG F hb
  replace B := aB B hb
  replace Jr := aJ Jr hb
  replace Jd := aJ Jd hb
  clear hb
  go_wp2_with fail
  refine hK.out _ _ (⟨Jd.out, F.out⟩) (fun hHeld2 => ?_)
  clear hK K
  try simp only [Act.put, y1, y2, y3, y4, y5, y6, y7]
  refine tk (i := 11) (v := (.bool false)) rfl (by kernel_rfl) (fun _ _ _ h => h) rfl ?_ hHeld2 ?_
  · intro W hS; go_simp
  simp only [Act.put, y1, y2, y3, y4, y5, y6, y7]
  refine tk (i := 12) (v := (.bool false)) rfl (by kernel_rfl) (fun _ _ _ h => h) rfl ?_ hHeld2 ?_
  · intro W hS; go_simp
  simp only [Act.put, y1, y2, y3, y4, y5, y6, y7]
  refine wpAnyH_done (by kernel_rfl) ?_ _
  clear hHeld2
  have zr_0 : U5.cell? ⟨w.heap.size, 0, none⟩ = some (.int .u64 0) := IHolds.cell (l := [.int .u64 0, .int .u64 0, .int .u64 0, .int .u64 0]) (t := 81) (b := w.heap.size) (w := U5) (Jr.out) 0 (by simp)
  have zr_1 : U5.cell? ⟨w.heap.size, 1, none⟩ = some (.int .u64 0) := IHolds.cell (l := [.int .u64 0, .int .u64 0, .int .u64 0, .int .u64 0]) (t := 81) (b := w.heap.size) (w := U5) (Jr.out) 1 (by simp)
  have zr_2 : U5.cell? ⟨w.heap.size, 2, none⟩ = some (.int .u64 0) := IHolds.cell (l := [.int .u64 0, .int .u64 0, .int .u64 0, .int .u64 0]) (t := 81) (b := w.heap.size) (w := U5) (Jr.out) 2 (by simp)
  have zr_3 : U5.cell? ⟨w.heap.size, 3, none⟩ = some (.int .u64 0) := IHolds.cell (l := [.int .u64 0, .int .u64 0, .int .u64 0, .int .u64 0]) (t := 81) (b := w.heap.size) (w := U5) (Jr.out) 3 (by simp)
  have f0 := fJ Jr
  have hBut : But (w.heap.size) U5 ((((U5.setCell ⟨w.heap.size, 0, none⟩ (.int .u64 0)).setCell ⟨w.heap.size, 1, none⟩ (.int .u64 0)).setCell ⟨w.heap.size, 2, none⟩ (.int .u64 0)).setCell ⟨w.heap.size, 3, none⟩ (.int .u64 0)) := (((((But.refl _ U5).setCell 0 (.int .u64 0)).setCell 1 (.int .u64 0)).setCell 2 (.int .u64 0)).setCell 3 (.int .u64 0))
  replace F := tG F hBut neF_r.out
  have I4 : Hid (IHolds _ (w.heap.size) 81 [.int .u64 0, .int .u64 0, .int .u64 0, .int .u64 0]) := ((((Jr.out.set 0 (.int .u64 0)).set 1 (.int .u64 0)).set 2 (.int .u64 0)).set 3 (.int .u64 0))
  replace B : Hid (Below w.heap.size w ((((U5.setCell ⟨w.heap.size, 0, none⟩ (.int .u64 0)).setCell ⟨w.heap.size, 1, none⟩ (.int .u64 0)).setCell ⟨w.heap.size, 2, none⟩ (.int .u64 0)).setCell ⟨w.heap.size, 3, none⟩ (.int .u64 0))) := ((((B.out.setCell (by first | exact Nat.le_refl _ | exact ge_r.out | (show w.heap.size ≤ w.heap.size; omega)) _).setCell (by first | exact Nat.le_refl _ | exact ge_r.out | (show w.heap.size ≤ w.heap.size; omega)) _).setCell (by first | exact Nat.le_refl _ | exact ge_r.out | (show w.heap.size ≤ w.heap.size; omega)) _).setCell (by first | exact Nat.le_refl _ | exact ge_r.out | (show w.heap.size ≤ w.heap.size; omega)) _)
  replace Jd := tJ Jd hBut (fun h => ne_r_d.out h.symm)
  replace Jr := I4
  clear I4 hBut
  go_wp2_with fail
  clear zr_0 zr_1 zr_2 zr_3
  clear f0
  generalize ((((U5.setCell ⟨w.heap.size, 0, none⟩ (.int .u64 0)).setCell ⟨w.heap.size, 1, none⟩ (.int .u64 0)).setCell ⟨w.heap.size, 2, none⟩ (.int .u64 0)).setCell ⟨w.heap.size, 3, none⟩ (.int .u64 0)) = U6 at *
  have E0 : Hid (U6.cell? ⟨w.heap.size, 0, none⟩ = some (.int .u64 0)) := IHolds.cell (l := [.int .u64 0, .int .u64 0, .int .u64 0, .int .u64 0]) (t := 81) (b := w.heap.size) (w := U6) Jr.out 0 (by simp)
  have E1 : Hid (U6.cell? ⟨w.heap.size, 1, none⟩ = some (.int .u64 0)) := IHolds.cell (l := [.int .u64 0, .int .u64 0, .int .u64 0, .int .u64 0]) (t := 81) (b := w.heap.size) (w := U6) Jr.out 1 (by simp)
  have E2 : Hid (U6.cell? ⟨w.heap.size, 2, none⟩ = some (.int .u64 0)) := IHolds.cell (l := [.int .u64 0, .int .u64 0, .int .u64 0, .int .u64 0]) (t := 81) (b := w.heap.size) (w := U6) Jr.out 2 (by simp)
  have E3 : Hid (U6.cell? ⟨w.heap.size, 3, none⟩ = some (.int .u64 0)) := IHolds.cell (l := [.int .u64 0, .int .u64 0, .int .u64 0, .int .u64 0]) (t := 81) (b := w.heap.size) (w := U6) Jr.out 3 (by simp)
  exact bodyPost_ret (v := .tuple #[.agg #[.int .u64 0, .int .u64 0, .int .u64 0, .int .u64 0], .int .i64 7]) (by simp [results, Tryz.results55, go_sem, E0.out, E1.out, E2.out, E3.out]) rfl ⟨rfl, B.out⟩
set_option maxRecDepth 100000 in
set_option maxHeartbeats 2000000 in
theorem elem_zero {w : World} {g S Wd M low one sq Wd2 M2 low2 one2 sq2 : Nat} (F : Hid (GH w g S Wd M low one sq Wd2 M2 low2 one2 sq2)) {s : ByteArray} {z0 z1 z2 z3 : Nat} (hS : S = s.size) (CN : Hid (∀ W, Calls Tryz.prog 74 #[.string s] W fun e w' => e = .returned (.agg #[U z0, U z1, U z2, U z3]) ∧ Below W.heap.size W w'))  (hz : decide (z0 = 0 ∧ z1 = 0 ∧ z2 = 0 ∧ z3 = 0) = true) :
    Calls Tryz.prog 55 #[.pointer (some ⟨g, 0, none⟩), .string s] w fun e w' => e = .returned (.tuple #[.agg #[.int .u64 0, .int .u64 0, .int .u64 0, .int .u64 0], .int .i64 7]) ∧ Below w.heap.size w w' := by
  subst hS
  have hq : ∀ W, (Op.equalIn 10000 81 (.agg #[U z0, U z1, U z2, U z3]) (.agg #[.int .u64 0, .int .u64 0, .int .u64 0, .int .u64 0])).run Tryz.prog W = .ok true W := fun W => by rw [eq66, hz]
  clear hz
  have hb := nB w (.cells #[.int .u64 0, .int .u64 0, .int .u64 0, .int .u64 0] 81)
  have Jr : Hid (IHolds (w.alloc (.cells #[.int .u64 0, .int .u64 0, .int .u64 0, .int .u64 0] 81)) w.heap.size 81 [.int .u64 0, .int .u64 0, .int .u64 0, .int .u64 0]) := IHolds.new w 81 _
  have B : Hid (Below w.heap.size w (w.alloc (.cells #[.int .u64 0, .int .u64 0, .int .u64 0, .int .u64 0] 81))) := hb
  have neF_r : Hid (g ≠ w.heap.size) := F.out.ne
  replace F := aG F hb
  clear hb
  have fz0 : (w.alloc (.cells #[.int .u64 0, .int .u64 0, .int .u64 0, .int .u64 0] 81)).cell? ⟨g, 0, none⟩ = some (.int .i64 (s.size : Int)) := F.out.c
  go_enter Tryz.func55, Tryz.ntmps55
  go_wp2_with fail
  clear fz0
  generalize (w.alloc (.cells #[.int .u64 0, .int .u64 0, .int .u64 0, .int .u64 0] 81)) = V0 at *
  refine (CN.out V0).mono ?_
  rintro e U1 ⟨rfl, hb⟩
  replace F := aG F hb
  replace B := aB B hb
  replace Jr := aJ Jr hb
  clear hb
  have neF_d : Hid (g ≠ U1.heap.size) := F.out.ne
  have hb := nB U1 (.cells #[U z0, U z1, U z2, U z3] 81)
  have Jd : Hid (IHolds (U1.alloc (.cells #[U z0, U z1, U z2, U z3] 81)) U1.heap.size 81 [U z0, U z1, U z2, U z3]) := IHolds.new _ _ _
  have ne_r_d := nJ Jr
  have ge_d : Hid (w.heap.size ≤ U1.heap.size) := B.out.size
  replace F := aG F hb
  replace B := aB B hb
  replace Jr := aJ Jr hb
  clear hb
  go_wp2_with fail
  generalize (U1.alloc (.cells #[U z0, U z1, U z2, U z3] 81)) = U2 at *
  generalize U1.heap.size = b3 at *
  have hb := dB U2
  replace F := aG F hb
  replace B := aB B hb
  replace Jr := aJ Jr hb
  replace Jd := aJ Jd hb
  clear hb
  refine wp_region_held_drew (S := fun W => (IHolds W (b3) 81 [U z0, U z1, U z2, U z3]) ∧ (GH W g s.size Wd M low one sq Wd2 M2 low2 one2 sq2)) (by kernel_rfl) ⟨Jd.out, F.out⟩ (fun hHeld1 => ?_)
  generalize U2.drew = U4 at *
  refine tk (i := 0) (v := .agg #[U z0, U z1, U z2, U z3]) rfl (by kernel_rfl) (fun _ _ _ h => h) rfl ?_ hHeld1 ?_
  · intro W hS; have zd_0 : W.cell? ⟨b3, 0, none⟩ = some (U z0) := IHolds.cell (l := [U z0, U z1, U z2, U z3]) (t := 81) (b := b3) (w := W) (hS.1) 0 (by simp); have zd_1 : W.cell? ⟨b3, 1, none⟩ = some (U z1) := IHolds.cell (l := [U z0, U z1, U z2, U z3]) (t := 81) (b := b3) (w := W) (hS.1) 1 (by simp); have zd_2 : W.cell? ⟨b3, 2, none⟩ = some (U z2) := IHolds.cell (l := [U z0, U z1, U z2, U z3]) (t := 81) (b := b3) (w := W) (hS.1) 2 (by simp); have zd_3 : W.cell? ⟨b3, 3, none⟩ = some (U z3) := IHolds.cell (l := [U z0, U z1, U z2, U z3]) (t := 81) (b := b3) (w := W) (hS.1) 3 (by simp); go_simp
  simp only [Act.put, y1, y2, y3, y4, y5, y6, y7]
  refine tk (i := 1) (v := .agg #[.int .u64 0, .int .u64 0, .int .u64 0, .int .u64 0]) rfl (by kernel_rfl) (fun _ _ _ h => h) rfl ?_ hHeld1 ?_
  · intro W hS; go_simp
  simp only [Act.put, y1, y2, y3, y4, y5, y6, y7]
  refine tk (i := 2) (v := (.bool false)) rfl (by kernel_rfl) (fun _ _ _ h => h) rfl ?_ hHeld1 ?_
  · intro W hS; go_simp
  simp only [Act.put, y1, y2, y3, y4, y5, y6, y7]
  refine tk (i := 3) (v := (.bool false)) rfl (by kernel_rfl) (fun _ _ _ h => h) rfl ?_ hHeld1 ?_
  · intro W hS; go_simp
  simp only [Act.put, y1, y2, y3, y4, y5, y6, y7]
  refine tkU (i := 4) rfl (by kernel_rfl) (fun _ _ _ h => h) rfl hHeld1 ?_
  simp only [Act.put, y1, y2, y3, y4, y5, y6, y7]
  refine tkU (i := 9) rfl (by kernel_rfl) (fun _ _ _ h => h) rfl hHeld1 ?_
  simp only [Act.put, y1, y2, y3, y4, y5, y6, y7]
  refine tkU (i := 5) rfl (by kernel_rfl) (fun _ _ _ h => h) rfl hHeld1 ?_
  simp only [Act.put, y1, y2, y3, y4, y5, y6, y7]
  refine tkU (i := 6) rfl (by kernel_rfl) (fun _ _ _ h => h) rfl hHeld1 ?_
  simp only [Act.put, y1, y2, y3, y4, y5, y6, y7]
  refine tkU (i := 7) rfl (by kernel_rfl) (fun _ _ _ h => h) rfl hHeld1 ?_
  simp only [Act.put, y1, y2, y3, y4, y5, y6, y7]
  refine tkU (i := 8) rfl (by kernel_rfl) (fun _ _ _ h => h) rfl hHeld1 ?_
  simp only [Act.put, y1, y2, y3, y4, y5, y6, y7]
  refine tkU (i := 10) rfl (by kernel_rfl) (fun _ _ _ h => h) rfl hHeld1 ?_
  simp only [Act.put, y1, y2, y3, y4, y5, y6, y7]
  refine tkU (i := 11) rfl (by kernel_rfl) (fun _ _ _ h => h) rfl hHeld1 ?_
  simp only [Act.put, y1, y2, y3, y4, y5, y6, y7]
  refine tk (i := 12) (v := (.bool false)) rfl (by kernel_rfl) (fun _ _ _ h => h) rfl ?_ hHeld1 ?_
  · intro W hS; go_simp
  simp only [Act.put, y1, y2, y3, y4, y5, y6, y7]
  refine wpAnyH_done (by kernel_rfl) ?_ _
  clear hHeld1
  have zr_0 : U4.cell? ⟨w.heap.size, 0, none⟩ = some (.int .u64 0) := IHolds.cell (l := [.int .u64 0, .int .u64 0, .int .u64 0, .int .u64 0]) (t := 81) (b := w.heap.size) (w := U4) (Jr.out) 0 (by simp)
  have zr_1 : U4.cell? ⟨w.heap.size, 1, none⟩ = some (.int .u64 0) := IHolds.cell (l := [.int .u64 0, .int .u64 0, .int .u64 0, .int .u64 0]) (t := 81) (b := w.heap.size) (w := U4) (Jr.out) 1 (by simp)
  have zr_2 : U4.cell? ⟨w.heap.size, 2, none⟩ = some (.int .u64 0) := IHolds.cell (l := [.int .u64 0, .int .u64 0, .int .u64 0, .int .u64 0]) (t := 81) (b := w.heap.size) (w := U4) (Jr.out) 2 (by simp)
  have zr_3 : U4.cell? ⟨w.heap.size, 3, none⟩ = some (.int .u64 0) := IHolds.cell (l := [.int .u64 0, .int .u64 0, .int .u64 0, .int .u64 0]) (t := 81) (b := w.heap.size) (w := U4) (Jr.out) 3 (by simp)
  have f0 := fJ Jr
  have hBut : But (w.heap.size) U4 ((((U4.setCell ⟨w.heap.size, 0, none⟩ (.int .u64 0)).setCell ⟨w.heap.size, 1, none⟩ (.int .u64 0)).setCell ⟨w.heap.size, 2, none⟩ (.int .u64 0)).setCell ⟨w.heap.size, 3, none⟩ (.int .u64 0)) := (((((But.refl _ U4).setCell 0 (.int .u64 0)).setCell 1 (.int .u64 0)).setCell 2 (.int .u64 0)).setCell 3 (.int .u64 0))
  replace F := tG F hBut neF_r.out
  have I4 : Hid (IHolds _ (w.heap.size) 81 [.int .u64 0, .int .u64 0, .int .u64 0, .int .u64 0]) := ((((Jr.out.set 0 (.int .u64 0)).set 1 (.int .u64 0)).set 2 (.int .u64 0)).set 3 (.int .u64 0))
  replace B : Hid (Below w.heap.size w ((((U4.setCell ⟨w.heap.size, 0, none⟩ (.int .u64 0)).setCell ⟨w.heap.size, 1, none⟩ (.int .u64 0)).setCell ⟨w.heap.size, 2, none⟩ (.int .u64 0)).setCell ⟨w.heap.size, 3, none⟩ (.int .u64 0))) := ((((B.out.setCell (by first | exact Nat.le_refl _ | exact ge_r.out | (show w.heap.size ≤ w.heap.size; omega)) _).setCell (by first | exact Nat.le_refl _ | exact ge_r.out | (show w.heap.size ≤ w.heap.size; omega)) _).setCell (by first | exact Nat.le_refl _ | exact ge_r.out | (show w.heap.size ≤ w.heap.size; omega)) _).setCell (by first | exact Nat.le_refl _ | exact ge_r.out | (show w.heap.size ≤ w.heap.size; omega)) _)
  replace Jd := tJ Jd hBut (fun h => ne_r_d.out h.symm)
  replace Jr := I4
  clear I4 hBut
  go_wp2_with fail
  clear zr_0 zr_1 zr_2 zr_3
  clear f0
  generalize ((((U4.setCell ⟨w.heap.size, 0, none⟩ (.int .u64 0)).setCell ⟨w.heap.size, 1, none⟩ (.int .u64 0)).setCell ⟨w.heap.size, 2, none⟩ (.int .u64 0)).setCell ⟨w.heap.size, 3, none⟩ (.int .u64 0)) = U5 at *
  have E0 : Hid (U5.cell? ⟨w.heap.size, 0, none⟩ = some (.int .u64 0)) := IHolds.cell (l := [.int .u64 0, .int .u64 0, .int .u64 0, .int .u64 0]) (t := 81) (b := w.heap.size) (w := U5) Jr.out 0 (by simp)
  have E1 : Hid (U5.cell? ⟨w.heap.size, 1, none⟩ = some (.int .u64 0)) := IHolds.cell (l := [.int .u64 0, .int .u64 0, .int .u64 0, .int .u64 0]) (t := 81) (b := w.heap.size) (w := U5) Jr.out 1 (by simp)
  have E2 : Hid (U5.cell? ⟨w.heap.size, 2, none⟩ = some (.int .u64 0)) := IHolds.cell (l := [.int .u64 0, .int .u64 0, .int .u64 0, .int .u64 0]) (t := 81) (b := w.heap.size) (w := U5) Jr.out 2 (by simp)
  have E3 : Hid (U5.cell? ⟨w.heap.size, 3, none⟩ = some (.int .u64 0)) := IHolds.cell (l := [.int .u64 0, .int .u64 0, .int .u64 0, .int .u64 0]) (t := 81) (b := w.heap.size) (w := U5) Jr.out 3 (by simp)
  exact bodyPost_ret (v := .tuple #[.agg #[.int .u64 0, .int .u64 0, .int .u64 0, .int .u64 0], .int .i64 7]) (by simp [results, Tryz.results55, go_sem, E0.out, E1.out, E2.out, E3.out]) rfl ⟨rfl, B.out⟩
end Go.Proofs.YtohpbclofcflaaaGreat
