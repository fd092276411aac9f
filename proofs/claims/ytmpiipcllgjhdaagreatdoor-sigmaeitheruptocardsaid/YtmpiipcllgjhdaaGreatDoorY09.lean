/- Scalars and elements out of bytes. -/
import Derived.Test.YtmpiipcllgjhdaaGreatDoorY05
import Derived.Test.YtmpiipcllgjhdaaGreatDoorY08
import Derived.Test.YtmpiipcllgjhdaaGreatDoorY02
set_option linter.unusedSimpArgs false
set_option linter.unusedVariables false
namespace Go.Proofs.YtmpiipcllgjhdaaGreatDoor
open Go.RowKit Go.Deep Go.PlainAid

/-- What a kind stands on, in memory. -/
structure GH (w : World) (g S Wd M low one sq Wd2 M2 low2 one2 sq2 : Nat) : Prop where
  c : w.cell? ⟨g, 0, none⟩ = some (.int .i64 (S : Int))
  fs : FH w g 1 Wd M low one sq
  fe : FH w g 15 Wd2 M2 low2 one2 sq2
theorem GH.lt {w : World} {g S Wd M low one sq Wd2 M2 low2 one2 sq2 : Nat} (h : GH w g S Wd M low one sq Wd2 M2 low2 one2 sq2) : g < w.heap.size := h.fs.lt
theorem GH.ne {w : World} {g S Wd M low one sq Wd2 M2 low2 one2 sq2 : Nat} (h : GH w g S Wd M low one sq Wd2 M2 low2 one2 sq2) : g ≠ w.heap.size := h.fs.ne
theorem GH.of_below {w w' : World} {g S Wd M low one sq Wd2 M2 low2 one2 sq2 : Nat} (h : GH w g S Wd M low one sq Wd2 M2 low2 one2 sq2) (hb : Below w.heap.size w w') : GH w' g S Wd M low one sq Wd2 M2 low2 one2 sq2 := ⟨by rw [hb.cell h.lt]; exact h.c, h.fs.of_below hb, h.fe.of_below hb⟩
theorem GH.of_but {w w' : World} {b g S Wd M low one sq Wd2 M2 low2 one2 sq2 : Nat} (h : GH w g S Wd M low one sq Wd2 M2 low2 one2 sq2) (hb : But b w w') (hne : g ≠ b) : GH w' g S Wd M low one sq Wd2 M2 low2 one2 sq2 := ⟨by rw [hb.cell h.lt hne]; exact h.c, h.fs.of_but hb hne, h.fe.of_but hb hne⟩
theorem aG {w w' : World} {g S Wd M low one sq Wd2 M2 low2 one2 sq2 : Nat} (h : Hid (GH w g S Wd M low one sq Wd2 M2 low2 one2 sq2)) (hb : Below w.heap.size w w') : Hid (GH w' g S Wd M low one sq Wd2 M2 low2 one2 sq2) := h.out.of_below hb
theorem tG {w w' : World} {b g S Wd M low one sq Wd2 M2 low2 one2 sq2 : Nat} (h : Hid (GH w g S Wd M low one sq Wd2 M2 low2 one2 sq2)) (hb : But b w w') (hne : g ≠ b) : Hid (GH w' g S Wd M low one sq Wd2 M2 low2 one2 sq2) := h.out.of_but hb hne
set_option maxRecDepth 100000 in
set_option maxHeartbeats 2000000 in
theorem scalar_no {w : World} {g S Wd M low one sq Wd2 M2 low2 one2 sq2 : Nat} (F : Hid (GH w g S Wd M low one sq Wd2 M2 low2 one2 sq2)) {s : ByteArray} (hne : ((s.size : Int) == (S : Int)) = false) :
    Calls Tryz.prog 32 #[.pointer (some ⟨g, 0, none⟩), .string s] w fun e w' => e = .returned (.tuple #[.agg #[.int .u64 0, .int .u64 0, .int .u64 0, .int .u64 0], .int .i64 6]) ∧ Below w.heap.size w w' := by
  have hne2 : ¬ (s.size : Int) = (S : Int) := by simpa using hne
  have hb := nB w (.cells #[.int .u64 0, .int .u64 0, .int .u64 0, .int .u64 0] 73)
  have Jr : Hid (IHolds (w.alloc (.cells #[.int .u64 0, .int .u64 0, .int .u64 0, .int .u64 0] 73)) w.heap.size 73 [.int .u64 0, .int .u64 0, .int .u64 0, .int .u64 0]) := IHolds.new w 73 _
  have B : Hid (Below w.heap.size w (w.alloc (.cells #[.int .u64 0, .int .u64 0, .int .u64 0, .int .u64 0] 73))) := hb
  have neF_r : Hid (g ≠ w.heap.size) := F.out.ne
  replace F := aG F hb
  clear hb
  have fz0 : (w.alloc (.cells #[.int .u64 0, .int .u64 0, .int .u64 0, .int .u64 0] 73)).cell? ⟨g, 0, none⟩ = some (.int .i64 (S : Int)) := F.out.c
  go_enter Tryz.func32, Tryz.ntmps32
  go_wp2_with fail
  clear fz0 F
  generalize (w.alloc (.cells #[.int .u64 0, .int .u64 0, .int .u64 0, .int .u64 0] 73)) = W9 at *
  have E0 : W9.cell? ⟨w.heap.size, 0, none⟩ = some (.int .u64 0) := Jr.out.cell 0 (by simp)
  have E1 : W9.cell? ⟨w.heap.size, 1, none⟩ = some (.int .u64 0) := Jr.out.cell 1 (by simp)
  have E2 : W9.cell? ⟨w.heap.size, 2, none⟩ = some (.int .u64 0) := Jr.out.cell 2 (by simp)
  have E3 : W9.cell? ⟨w.heap.size, 3, none⟩ = some (.int .u64 0) := Jr.out.cell 3 (by simp)
  exact bodyPost_ret (v := .tuple #[.agg #[.int .u64 0, .int .u64 0, .int .u64 0, .int .u64 0], .int .i64 6]) (by simp [results, Tryz.results32, go_sem, E0, E1, E2, E3]) rfl ⟨rfl, B.out⟩
set_option maxRecDepth 100000 in
set_option maxHeartbeats 2000000 in
theorem scalar_is {w : World} {g S Wd M low one sq Wd2 M2 low2 one2 sq2 : Nat} (F : Hid (GH w g S Wd M low one sq Wd2 M2 low2 one2 sq2)) {s : ByteArray} {z0 z1 z2 z3 : Nat} (hS : S = s.size) (CN : Hid (∀ W, Calls Tryz.prog 63 #[.string s] W fun e w' => e = .returned (.agg #[U z0, U z1, U z2, U z3]) ∧ Below W.heap.size W w')) (CL : Hid (∀ W, Calls Tryz.prog 64 #[.agg #[U z0, U z1, U z2, U z3], .agg #[U (w4 M 0), U (w4 M 1), U (w4 M 2), U (w4 M 3)]] W fun e w' => e = .returned (.bool true) ∧ Below W.heap.size W w'))  :
    Calls Tryz.prog 32 #[.pointer (some ⟨g, 0, none⟩), .string s] w fun e w' => e = .returned (.tuple #[.agg #[U z0, U z1, U z2, U z3], .int .i64 0]) ∧ Below w.heap.size w w' := by
  subst hS
  have hb := nB w (.cells #[.int .u64 0, .int .u64 0, .int .u64 0, .int .u64 0] 73)
  have Jr : Hid (IHolds (w.alloc (.cells #[.int .u64 0, .int .u64 0, .int .u64 0, .int .u64 0] 73)) w.heap.size 73 [.int .u64 0, .int .u64 0, .int .u64 0, .int .u64 0]) := IHolds.new w 73 _
  have B : Hid (Below w.heap.size w (w.alloc (.cells #[.int .u64 0, .int .u64 0, .int .u64 0, .int .u64 0] 73))) := hb
  have neF_r : Hid (g ≠ w.heap.size) := F.out.ne
  replace F := aG F hb
  clear hb
  have fz0 : (w.alloc (.cells #[.int .u64 0, .int .u64 0, .int .u64 0, .int .u64 0] 73)).cell? ⟨g, 0, none⟩ = some (.int .i64 (s.size : Int)) := F.out.c
  go_enter Tryz.func32, Tryz.ntmps32
  go_wp2_with fail
  clear fz0
  generalize (w.alloc (.cells #[.int .u64 0, .int .u64 0, .int .u64 0, .int .u64 0] 73)) = V0 at *
  refine (CN.out V0).mono ?_
  rintro e U1 ⟨rfl, hb⟩
  replace F := aG F hb
  replace B := aB B hb
  replace Jr := aJ Jr hb
  clear hb
  have neF_d : Hid (g ≠ U1.heap.size) := F.out.ne
  have hb := nB U1 (.cells #[U z0, U z1, U z2, U z3] 73)
  have Jd : Hid (IHolds (U1.alloc (.cells #[U z0, U z1, U z2, U z3] 73)) U1.heap.size 73 [U z0, U z1, U z2, U z3]) := IHolds.new _ _ _
  have ne_r_d := nJ Jr
  have ge_d : Hid (w.heap.size ≤ U1.heap.size) := B.out.size
  replace F := aG F hb
  replace B := aB B hb
  replace Jr := aJ Jr hb
  clear hb
  go_wp2_with fail
  generalize (U1.alloc (.cells #[U z0, U z1, U z2, U z3] 73)) = U2 at *
  generalize U1.heap.size = b3 at *
  have hb := dB U2
  replace F := aG F hb
  replace B := aB B hb
  replace Jr := aJ Jr hb
  replace Jd := aJ Jd hb
  clear hb
  refine wp_region_held_drew (S := fun W => (IHolds W (b3) 73 [U z0, U z1, U z2, U z3]) ∧ (GH W g s.size Wd M low one sq Wd2 M2 low2 one2 sq2)) (by kernel_rfl) ⟨Jd.out, F.out⟩ (fun hHeld1 => ?_)
  generalize U2.drew = U4 at *
  refine tk (i := 0) (v := .agg #[U z0, U z1, U z2, U z3]) rfl (by kernel_rfl) (fun _ _ _ h => h) rfl ?_ hHeld1 ?_
  · intro W hS; have zd_0 : W.cell? ⟨b3, 0, none⟩ = some (U z0) := IHolds.cell (l := [U z0, U z1, U z2, U z3]) (t := 73) (b := b3) (w := W) (hS.1) 0 (by simp); have zd_1 : W.cell? ⟨b3, 1, none⟩ = some (U z1) := IHolds.cell (l := [U z0, U z1, U z2, U z3]) (t := 73) (b := b3) (w := W) (hS.1) 1 (by simp); have zd_2 : W.cell? ⟨b3, 2, none⟩ = some (U z2) := IHolds.cell (l := [U z0, U z1, U z2, U z3]) (t := 73) (b := b3) (w := W) (hS.1) 2 (by simp); have zd_3 : W.cell? ⟨b3, 3, none⟩ = some (U z3) := IHolds.cell (l := [U z0, U z1, U z2, U z3]) (t := 73) (b := b3) (w := W) (hS.1) 3 (by simp); go_simp
  simp only [Act.put, y1, y2, y3, y4, y5, y6, y7]
  refine tk (i := 1) (v := .pointer (some ⟨g, 0, none⟩)) rfl (by kernel_rfl) (fun _ _ _ h => h) rfl ?_ hHeld1 ?_
  · intro W hS; go_simp
  simp only [Act.put, y1, y2, y3, y4, y5, y6, y7]
  refine tk (i := 2) (v := .pointer (some ⟨g, 0, none⟩)) rfl (by kernel_rfl) (fun _ _ _ h => h) rfl ?_ hHeld1 ?_
  · intro W hS; go_simp
  simp only [Act.put, y1, y2, y3, y4, y5, y6, y7]
  refine tk (i := 3) (v := .pointer (some ⟨g, 1, none⟩)) rfl (by kernel_rfl) (fun _ _ _ h => h) rfl ?_ hHeld1 ?_
  · intro W hS; go_simp
  simp only [Act.put, y1, y2, y3, y4, y5, y6, y7]
  refine tk (i := 4) (v := .pointer (some ⟨g, 2, none⟩)) rfl (by kernel_rfl) (fun _ _ _ h => h) rfl ?_ hHeld1 ?_
  · intro W hS; go_simp
  simp only [Act.put, y1, y2, y3, y4, y5, y6, y7]
  refine tk (i := 5) (v := .agg #[U (w4 M 0), U (w4 M 1), U (w4 M 2), U (w4 M 3)]) rfl (by kernel_rfl) (fun _ _ _ h => h) rfl ?_ hHeld1 ?_
  · intro W hS; have fz := hS.2; have fz0 : W.cell? ⟨g, 2, none⟩ = some (U (w4 M 0)) := fz.fs.m0; have fz1 : W.cell? ⟨g, 3, none⟩ = some (U (w4 M 1)) := fz.fs.m1; have fz2 : W.cell? ⟨g, 4, none⟩ = some (U (w4 M 2)) := fz.fs.m2; have fz3 : W.cell? ⟨g, 5, none⟩ = some (U (w4 M 3)) := fz.fs.m3; go_simp
  simp only [Act.put, y1, y2, y3, y4, y5, y6, y7]
  refine wpAnyH_ready (rs := [6]) (by kernel_rfl) (by simp) ?_
  refine AllReadyH.cons rfl (fun K hK => ?_) AllReadyH.nil
  clear hHeld1
  go_simp
  refine (CL.out U4).mono ?_
  rintro e U5 ⟨rfl, hb⟩
  replace F := aG F hb
  replace B := aB B hb
  replace Jr := aJ Jr hb
  replace Jd := aJ Jd hb
  clear hb
  go_wp2_with fail
  refine hK.out _ _ (⟨Jd.out, F.out⟩) (fun hHeld2 => ?_)
  clear hK K
  try simp only [Act.put, y1, y2, y3, y4, y5, y6, y7]
  refine wpAnyH_done (by kernel_rfl) ?_ _
  clear hHeld2
  have Kd : Hid (IHolds U5 (b3) 73 [U z0, U z1, U z2, U z3]) := Jd.out
  have zr_0 : U5.cell? ⟨w.heap.size, 0, none⟩ = some (.int .u64 0) := IHolds.cell (l := [.int .u64 0, .int .u64 0, .int .u64 0, .int .u64 0]) (t := 73) (b := w.heap.size) (w := U5) (Jr.out) 0 (by simp)
  have zr_1 : U5.cell? ⟨w.heap.size, 1, none⟩ = some (.int .u64 0) := IHolds.cell (l := [.int .u64 0, .int .u64 0, .int .u64 0, .int .u64 0]) (t := 73) (b := w.heap.size) (w := U5) (Jr.out) 1 (by simp)
  have zr_2 : U5.cell? ⟨w.heap.size, 2, none⟩ = some (.int .u64 0) := IHolds.cell (l := [.int .u64 0, .int .u64 0, .int .u64 0, .int .u64 0]) (t := 73) (b := w.heap.size) (w := U5) (Jr.out) 2 (by simp)
  have zr_3 : U5.cell? ⟨w.heap.size, 3, none⟩ = some (.int .u64 0) := IHolds.cell (l := [.int .u64 0, .int .u64 0, .int .u64 0, .int .u64 0]) (t := 73) (b := w.heap.size) (w := U5) (Jr.out) 3 (by simp)
  have f0 := fJ Jr
  have hBut : But (w.heap.size) U5 ((((U5.setCell ⟨w.heap.size, 0, none⟩ (U z0)).setCell ⟨w.heap.size, 1, none⟩ (U z1)).setCell ⟨w.heap.size, 2, none⟩ (U z2)).setCell ⟨w.heap.size, 3, none⟩ (U z3)) := (((((But.refl _ U5).setCell 0 (U z0)).setCell 1 (U z1)).setCell 2 (U z2)).setCell 3 (U z3))
  replace F := tG F hBut neF_r.out
  have I4 : Hid (IHolds _ (w.heap.size) 73 [U z0, U z1, U z2, U z3]) := ((((Jr.out.set 0 (U z0)).set 1 (U z1)).set 2 (U z2)).set 3 (U z3))
  replace B : Hid (Below w.heap.size w ((((U5.setCell ⟨w.heap.size, 0, none⟩ (U z0)).setCell ⟨w.heap.size, 1, none⟩ (U z1)).setCell ⟨w.heap.size, 2, none⟩ (U z2)).setCell ⟨w.heap.size, 3, none⟩ (U z3))) := ((((B.out.setCell (by first | exact Nat.le_refl _ | exact ge_r.out | (show w.heap.size ≤ w.heap.size; omega)) _).setCell (by first | exact Nat.le_refl _ | exact ge_r.out | (show w.heap.size ≤ w.heap.size; omega)) _).setCell (by first | exact Nat.le_refl _ | exact ge_r.out | (show w.heap.size ≤ w.heap.size; omega)) _).setCell (by first | exact Nat.le_refl _ | exact ge_r.out | (show w.heap.size ≤ w.heap.size; omega)) _)
  replace Jd := tJ Jd hBut (fun h => ne_r_d.out h.symm)
  replace Jr := I4
  clear I4 hBut
  have zd_0 : U5.cell? ⟨b3, 0, none⟩ = some (U z0) := IHolds.cell (l := [U z0, U z1, U z2, U z3]) (t := 73) (b := b3) (w := U5) (Kd.out) 0 (by simp)
  have zd_1 : U5.cell? ⟨b3, 1, none⟩ = some (U z1) := IHolds.cell (l := [U z0, U z1, U z2, U z3]) (t := 73) (b := b3) (w := U5) (Kd.out) 1 (by simp)
  have zd_2 : U5.cell? ⟨b3, 2, none⟩ = some (U z2) := IHolds.cell (l := [U z0, U z1, U z2, U z3]) (t := 73) (b := b3) (w := U5) (Kd.out) 2 (by simp)
  have zd_3 : U5.cell? ⟨b3, 3, none⟩ = some (U z3) := IHolds.cell (l := [U z0, U z1, U z2, U z3]) (t := 73) (b := b3) (w := U5) (Kd.out) 3 (by simp)
  go_wp2_with fail
  clear zd_0 zd_1 zd_2 zd_3
  clear Kd
  clear zr_0 zr_1 zr_2 zr_3
  clear f0
  generalize ((((U5.setCell ⟨w.heap.size, 0, none⟩ (U z0)).setCell ⟨w.heap.size, 1, none⟩ (U z1)).setCell ⟨w.heap.size, 2, none⟩ (U z2)).setCell ⟨w.heap.size, 3, none⟩ (U z3)) = U6 at *
  have E0 : Hid (U6.cell? ⟨w.heap.size, 0, none⟩ = some (U z0)) := IHolds.cell (l := [U z0, U z1, U z2, U z3]) (t := 73) (b := w.heap.size) (w := U6) Jr.out 0 (by simp)
  have E1 : Hid (U6.cell? ⟨w.heap.size, 1, none⟩ = some (U z1)) := IHolds.cell (l := [U z0, U z1, U z2, U z3]) (t := 73) (b := w.heap.size) (w := U6) Jr.out 1 (by simp)
  have E2 : Hid (U6.cell? ⟨w.heap.size, 2, none⟩ = some (U z2)) := IHolds.cell (l := [U z0, U z1, U z2, U z3]) (t := 73) (b := w.heap.size) (w := U6) Jr.out 2 (by simp)
  have E3 : Hid (U6.cell? ⟨w.heap.size, 3, none⟩ = some (U z3)) := IHolds.cell (l := [U z0, U z1, U z2, U z3]) (t := 73) (b := w.heap.size) (w := U6) Jr.out 3 (by simp)
  exact bodyPost_ret (v := .tuple #[.agg #[U z0, U z1, U z2, U z3], .int .i64 0]) (by simp [results, Tryz.results32, go_sem, E0.out, E1.out, E2.out, E3.out]) rfl ⟨rfl, B.out⟩
set_option maxRecDepth 100000 in
set_option maxHeartbeats 2000000 in
theorem scalar_not {w : World} {g S Wd M low one sq Wd2 M2 low2 one2 sq2 : Nat} (F : Hid (GH w g S Wd M low one sq Wd2 M2 low2 one2 sq2)) {s : ByteArray} {z0 z1 z2 z3 : Nat} (hS : S = s.size) (CN : Hid (∀ W, Calls Tryz.prog 63 #[.string s] W fun e w' => e = .returned (.agg #[U z0, U z1, U z2, U z3]) ∧ Below W.heap.size W w')) (CL : Hid (∀ W, Calls Tryz.prog 64 #[.agg #[U z0, U z1, U z2, U z3], .agg #[U (w4 M 0), U (w4 M 1), U (w4 M 2), U (w4 M 3)]] W fun e w' => e = .returned (.bool false) ∧ Below W.heap.size W w'))  :
    Calls Tryz.prog 32 #[.pointer (some ⟨g, 0, none⟩), .string s] w fun e w' => e = .returned (.tuple #[.agg #[.int .u64 0, .int .u64 0, .int .u64 0, .int .u64 0], .int .i64 6]) ∧ Below w.heap.size w w' := by
  subst hS
  have hb := nB w (.cells #[.int .u64 0, .int .u64 0, .int .u64 0, .int .u64 0] 73)
  have Jr : Hid (IHolds (w.alloc (.cells #[.int .u64 0, .int .u64 0, .int .u64 0, .int .u64 0] 73)) w.heap.size 73 [.int .u64 0, .int .u64 0, .int .u64 0, .int .u64 0]) := IHolds.new w 73 _
  have B : Hid (Below w.heap.size w (w.alloc (.cells #[.int .u64 0, .int .u64 0, .int .u64 0, .int .u64 0] 73))) := hb
  have neF_r : Hid (g ≠ w.heap.size) := F.out.ne
  replace F := aG F hb
  clear hb
  have fz0 : (w.alloc (.cells #[.int .u64 0, .int .u64 0, .int .u64 0, .int .u64 0] 73)).cell? ⟨g, 0, none⟩ = some (.int .i64 (s.size : Int)) := F.out.c
  go_enter Tryz.func32, Tryz.ntmps32
  go_wp2_with fail
  clear fz0
  generalize (w.alloc (.cells #[.int .u64 0, .int .u64 0, .int .u64 0, .int .u64 0] 73)) = V0 at *
  refine (CN.out V0).mono ?_
  rintro e U1 ⟨rfl, hb⟩
  replace F := aG F hb
  replace B := aB B hb
  replace Jr := aJ Jr hb
  clear hb
  have neF_d : Hid (g ≠ U1.heap.size) := F.out.ne
  have hb := nB U1 (.cells #[U z0, U z1, U z2, U z3] 73)
  have Jd : Hid (IHolds (U1.alloc (.cells #[U z0, U z1, U z2, U z3] 73)) U1.heap.size 73 [U z0, U z1, U z2, U z3]) := IHolds.new _ _ _
  have ne_r_d := nJ Jr
  have ge_d : Hid (w.heap.size ≤ U1.heap.size) := B.out.size
  replace F := aG F hb
  replace B := aB B hb
  replace Jr := aJ Jr hb
  clear hb
  go_wp2_with fail
  generalize (U1.alloc (.cells #[U z0, U z1, U z2, U z3] 73)) = U2 at *
  generalize U1.heap.size = b3 at *
  have hb := dB U2
  replace F := aG F hb
  replace B := aB B hb
  replace Jr := aJ Jr hb
  replace Jd := aJ Jd hb
  clear hb
  refine wp_region_held_drew (S := fun W => (IHolds W (b3) 73 [U z0, U z1, U z2, U z3]) ∧ (GH W g s.size Wd M low one sq Wd2 M2 low2 one2 sq2)) (by kernel_rfl) ⟨Jd.out, F.out⟩ (fun hHeld1 => ?_)
  generalize U2.drew = U4 at *
  refine tk (i := 0) (v := .agg #[U z0, U z1, U z2, U z3]) rfl (by kernel_rfl) (fun _ _ _ h => h) rfl ?_ hHeld1 ?_
  · intro W hS; have zd_0 : W.cell? ⟨b3, 0, none⟩ = some (U z0) := IHolds.cell (l := [U z0, U z1, U z2, U z3]) (t := 73) (b := b3) (w := W) (hS.1) 0 (by simp); have zd_1 : W.cell? ⟨b3, 1, none⟩ = some (U z1) := IHolds.cell (l := [U z0, U z1, U z2, U z3]) (t := 73) (b := b3) (w := W) (hS.1) 1 (by simp); have zd_2 : W.cell? ⟨b3, 2, none⟩ = some (U z2) := IHolds.cell (l := [U z0, U z1, U z2, U z3]) (t := 73) (b := b3) (w := W) (hS.1) 2 (by simp); have zd_3 : W.cell? ⟨b3, 3, none⟩ = some (U z3) := IHolds.cell (l := [U z0, U z1, U z2, U z3]) (t := 73) (b := b3) (w := W) (hS.1) 3 (by simp); go_simp
  simp only [Act.put, y1, y2, y3, y4, y5, y6, y7]
  refine tk (i := 1) (v := .pointer (some ⟨g, 0, none⟩)) rfl (by kernel_rfl) (fun _ _ _ h => h) rfl ?_ hHeld1 ?_
  · intro W hS; go_simp
  simp only [Act.put, y1, y2, y3, y4, y5, y6, y7]
  refine tk (i := 2) (v := .pointer (some ⟨g, 0, none⟩)) rfl (by kernel_rfl) (fun _ _ _ h => h) rfl ?_ hHeld1 ?_
  · intro W hS; go_simp
  simp only [Act.put, y1, y2, y3, y4, y5, y6, y7]
  refine tk (i := 3) (v := .pointer (some ⟨g, 1, none⟩)) rfl (by kernel_rfl) (fun _ _ _ h => h) rfl ?_ hHeld1 ?_
  · intro W hS; go_simp
  simp only [Act.put, y1, y2, y3, y4, y5, y6, y7]
  refine tk (i := 4) (v := .pointer (some ⟨g, 2, none⟩)) rfl (by kernel_rfl) (fun _ _ _ h => h) rfl ?_ hHeld1 ?_
  · intro W hS; go_simp
  simp only [Act.put, y1, y2, y3, y4, y5, y6, y7]
  refine tk (i := 5) (v := .agg #[U (w4 M 0), U (w4 M 1), U (w4 M 2), U (w4 M 3)]) rfl (by kernel_rfl) (fun _ _ _ h => h) rfl ?_ hHeld1 ?_
  · intro W hS; have fz := hS.2; have fz0 : W.cell? ⟨g, 2, none⟩ = some (U (w4 M 0)) := fz.fs.m0; have fz1 : W.cell? ⟨g, 3, none⟩ = some (U (w4 M 1)) := fz.fs.m1; have fz2 : W.cell? ⟨g, 4, none⟩ = some (U (w4 M 2)) := fz.fs.m2; have fz3 : W.cell? ⟨g, 5, none⟩ = some (U (w4 M 3)) := fz.fs.m3; go_simp
  simp only [Act.put, y1, y2, y3, y4, y5, y6, y7]
  refine wpAnyH_ready (rs := [6]) (by kernel_rfl) (by simp) ?_
  refine AllReadyH.cons rfl (fun K hK => ?_) AllReadyH.nil
  clear hHeld1
  go_simp
  refine (CL.out U4).mono ?_
  rintro e U5 ⟨rfl, hb⟩
  replace F := aG F hb
  replace B := aB B hb
  replace Jr := aJ Jr hb
  replace Jd := aJ Jd hb
  clear hb
  go_wp2_with fail
  refine hK.out _ _ (⟨Jd.out, F.out⟩) (fun hHeld2 => ?_)
  clear hK K
  try simp only [Act.put, y1, y2, y3, y4, y5, y6, y7]
  refine wpAnyH_done (by kernel_rfl) ?_ _
  clear hHeld2
  have zr_0 : U5.cell? ⟨w.heap.size, 0, none⟩ = some (.int .u64 0) := IHolds.cell (l := [.int .u64 0, .int .u64 0, .int .u64 0, .int .u64 0]) (t := 73) (b := w.heap.size) (w := U5) (Jr.out) 0 (by simp)
  have zr_1 : U5.cell? ⟨w.heap.size, 1, none⟩ = some (.int .u64 0) := IHolds.cell (l := [.int .u64 0, .int .u64 0, .int .u64 0, .int .u64 0]) (t := 73) (b := w.heap.size) (w := U5) (Jr.out) 1 (by simp)
  have zr_2 : U5.cell? ⟨w.heap.size, 2, none⟩ = some (.int .u64 0) := IHolds.cell (l := [.int .u64 0, .int .u64 0, .int .u64 0, .int .u64 0]) (t := 73) (b := w.heap.size) (w := U5) (Jr.out) 2 (by simp)
  have zr_3 : U5.cell? ⟨w.heap.size, 3, none⟩ = some (.int .u64 0) := IHolds.cell (l := [.int .u64 0, .int .u64 0, .int .u64 0, .int .u64 0]) (t := 73) (b := w.heap.size) (w := U5) (Jr.out) 3 (by simp)
  have f0 := fJ Jr
  have hBut : But (w.heap.size) U5 ((((U5.setCell ⟨w.heap.size, 0, none⟩ (.int .u64 0)).setCell ⟨w.heap.size, 1, none⟩ (.int .u64 0)).setCell ⟨w.heap.size, 2, none⟩ (.int .u64 0)).setCell ⟨w.heap.size, 3, none⟩ (.int .u64 0)) := (((((But.refl _ U5).setCell 0 (.int .u64 0)).setCell 1 (.int .u64 0)).setCell 2 (.int .u64 0)).setCell 3 (.int .u64 0))
  replace F := tG F hBut neF_r.out
  have I4 : Hid (IHolds _ (w.heap.size) 73 [.int .u64 0, .int .u64 0, .int .u64 0, .int .u64 0]) := ((((Jr.out.set 0 (.int .u64 0)).set 1 (.int .u64 0)).set 2 (.int .u64 0)).set 3 (.int .u64 0))
  replace B : Hid (Below w.heap.size w ((((U5.setCell ⟨w.heap.size, 0, none⟩ (.int .u64 0)).setCell ⟨w.heap.size, 1, none⟩ (.int .u64 0)).setCell ⟨w.heap.size, 2, none⟩ (.int .u64 0)).setCell ⟨w.heap.size, 3, none⟩ (.int .u64 0))) := ((((B.out.setCell (by first | exact Nat.le_refl _ | exact ge_r.out | (show w.heap.size ≤ w.heap.size; omega)) _).setCell (by first | exact Nat.le_refl _ | exact ge_r.out | (show w.heap.size ≤ w.heap.size; omega)) _).setCell (by first | exact Nat.le_refl _ | exact ge_r.out | (show w.heap.size ≤ w.heap.size; omega)) _).setCell (by first | exact Nat.le_refl _ | exact ge_r.out | (show w.heap.size ≤ w.heap.size; omega)) _)
  replace Jd := tJ Jd hBut (fun h => ne_r_d.out h.symm)
  replace Jr := I4
  clear I4 hBut
  go_wp2_with fail
  clear zr_0 zr_1 zr_2 zr_3
  clear f0
  generalize ((((U5.setCell ⟨w.heap.size, 0, none⟩ (.int .u64 0)).setCell ⟨w.heap.size, 1, none⟩ (.int .u64 0)).setCell ⟨w.heap.size, 2, none⟩ (.int .u64 0)).setCell ⟨w.heap.size, 3, none⟩ (.int .u64 0)) = U6 at *
  have E0 : Hid (U6.cell? ⟨w.heap.size, 0, none⟩ = some (.int .u64 0)) := IHolds.cell (l := [.int .u64 0, .int .u64 0, .int .u64 0, .int .u64 0]) (t := 73) (b := w.heap.size) (w := U6) Jr.out 0 (by simp)
  have E1 : Hid (U6.cell? ⟨w.heap.size, 1, none⟩ = some (.int .u64 0)) := IHolds.cell (l := [.int .u64 0, .int .u64 0, .int .u64 0, .int .u64 0]) (t := 73) (b := w.heap.size) (w := U6) Jr.out 1 (by simp)
  have E2 : Hid (U6.cell? ⟨w.heap.size, 2, none⟩ = some (.int .u64 0)) := IHolds.cell (l := [.int .u64 0, .int .u64 0, .int .u64 0, .int .u64 0]) (t := 73) (b := w.heap.size) (w := U6) Jr.out 2 (by simp)
  have E3 : Hid (U6.cell? ⟨w.heap.size, 3, none⟩ = some (.int .u64 0)) := IHolds.cell (l := [.int .u64 0, .int .u64 0, .int .u64 0, .int .u64 0]) (t := 73) (b := w.heap.size) (w := U6) Jr.out 3 (by simp)
  exact bodyPost_ret (v := .tuple #[.agg #[.int .u64 0, .int .u64 0, .int .u64 0, .int .u64 0], .int .i64 6]) (by simp [results, Tryz.results32, go_sem, E0.out, E1.out, E2.out, E3.out]) rfl ⟨rfl, B.out⟩
set_option maxRecDepth 100000 in
set_option maxHeartbeats 2000000 in
theorem elem_no {w : World} {g S Wd M low one sq Wd2 M2 low2 one2 sq2 : Nat} (F : Hid (GH w g S Wd M low one sq Wd2 M2 low2 one2 sq2)) {s : ByteArray} (hne : ((s.size : Int) == (S : Int)) = false) :
    Calls Tryz.prog 36 #[.pointer (some ⟨g, 0, none⟩), .string s] w fun e w' => e = .returned (.tuple #[.agg #[.int .u64 0, .int .u64 0, .int .u64 0, .int .u64 0], .int .i64 7]) ∧ Below w.heap.size w w' := by
  have hne2 : ¬ (s.size : Int) = (S : Int) := by simpa using hne
  have hb := nB w (.cells #[.int .u64 0, .int .u64 0, .int .u64 0, .int .u64 0] 73)
  have Jr : Hid (IHolds (w.alloc (.cells #[.int .u64 0, .int .u64 0, .int .u64 0, .int .u64 0] 73)) w.heap.size 73 [.int .u64 0, .int .u64 0, .int .u64 0, .int .u64 0]) := IHolds.new w 73 _
  have B : Hid (Below w.heap.size w (w.alloc (.cells #[.int .u64 0, .int .u64 0, .int .u64 0, .int .u64 0] 73))) := hb
  have neF_r : Hid (g ≠ w.heap.size) := F.out.ne
  replace F := aG F hb
  clear hb
  have fz0 : (w.alloc (.cells #[.int .u64 0, .int .u64 0, .int .u64 0, .int .u64 0] 73)).cell? ⟨g, 0, none⟩ = some (.int .i64 (S : Int)) := F.out.c
  go_enter Tryz.func36, Tryz.ntmps36
  go_wp2_with fail
  clear fz0 F
  generalize (w.alloc (.cells #[.int .u64 0, .int .u64 0, .int .u64 0, .int .u64 0] 73)) = W9 at *
  have E0 : W9.cell? ⟨w.heap.size, 0, none⟩ = some (.int .u64 0) := Jr.out.cell 0 (by simp)
  have E1 : W9.cell? ⟨w.heap.size, 1, none⟩ = some (.int .u64 0) := Jr.out.cell 1 (by simp)
  have E2 : W9.cell? ⟨w.heap.size, 2, none⟩ = some (.int .u64 0) := Jr.out.cell 2 (by simp)
  have E3 : W9.cell? ⟨w.heap.size, 3, none⟩ = some (.int .u64 0) := Jr.out.cell 3 (by simp)
  exact bodyPost_ret (v := .tuple #[.agg #[.int .u64 0, .int .u64 0, .int .u64 0, .int .u64 0], .int .i64 7]) (by simp [results, Tryz.results36, go_sem, E0, E1, E2, E3]) rfl ⟨rfl, B.out⟩
set_option maxRecDepth 100000 in
set_option maxHeartbeats 2000000 in
theorem elem_is {w : World} {g S Wd M low one sq Wd2 M2 low2 one2 sq2 : Nat} (F : Hid (GH w g S Wd M low one sq Wd2 M2 low2 one2 sq2)) {s : ByteArray} {z0 z1 z2 z3 : Nat} (hS : S = s.size) (CN : Hid (∀ W, Calls Tryz.prog 63 #[.string s] W fun e w' => e = .returned (.agg #[U z0, U z1, U z2, U z3]) ∧ Below W.heap.size W w')) (CL : Hid (∀ W, Calls Tryz.prog 64 #[.agg #[U (w4 M 0), U (w4 M 1), U (w4 M 2), U (w4 M 3)], .agg #[U z0, U z1, U z2, U z3]] W fun e w' => e = .returned (.bool false) ∧ Below W.heap.size W w')) (hz : decide (z0 = 0 ∧ z1 = 0 ∧ z2 = 0 ∧ z3 = 0) = false) :
    Calls Tryz.prog 36 #[.pointer (some ⟨g, 0, none⟩), .string s] w fun e w' => e = .returned (.tuple #[.agg #[U z0, U z1, U z2, U z3], .int .i64 0]) ∧ Below w.heap.size w w' := by
  subst hS
  have hq : ∀ W, (Op.equalIn 10000 73 (.agg #[U z0, U z1, U z2, U z3]) (.agg #[.int .u64 0, .int .u64 0, .int .u64 0, .int .u64 0])).run Tryz.prog W = .ok false W := fun W => by rw [eq66, hz]
  clear hz
  have hb := nB w (.cells #[.int .u64 0, .int .u64 0, .int .u64 0, .int .u64 0] 73)
  have Jr : Hid (IHolds (w.alloc (.cells #[.int .u64 0, .int .u64 0, .int .u64 0, .int .u64 0] 73)) w.heap.size 73 [.int .u64 0, .int .u64 0, .int .u64 0, .int .u64 0]) := IHolds.new w 73 _
  have B : Hid (Below w.heap.size w (w.alloc (.cells #[.int .u64 0, .int .u64 0, .int .u64 0, .int .u64 0] 73))) := hb
  have neF_r : Hid (g ≠ w.heap.size) := F.out.ne
  replace F := aG F hb
  clear hb
  have fz0 : (w.alloc (.cells #[.int .u64 0, .int .u64 0, .int .u64 0, .int .u64 0] 73)).cell? ⟨g, 0, none⟩ = some (.int .i64 (s.size : Int)) := F.out.c
  go_enter Tryz.func36, Tryz.ntmps36
  go_wp2_with fail
  clear fz0
  generalize (w.alloc (.cells #[.int .u64 0, .int .u64 0, .int .u64 0, .int .u64 0] 73)) = V0 at *
  refine (CN.out V0).mono ?_
  rintro e U1 ⟨rfl, hb⟩
  replace F := aG F hb
  replace B := aB B hb
  replace Jr := aJ Jr hb
  clear hb
  have neF_d : Hid (g ≠ U1.heap.size) := F.out.ne
  have hb := nB U1 (.cells #[U z0, U z1, U z2, U z3] 73)
  have Jd : Hid (IHolds (U1.alloc (.cells #[U z0, U z1, U z2, U z3] 73)) U1.heap.size 73 [U z0, U z1, U z2, U z3]) := IHolds.new _ _ _
  have ne_r_d := nJ Jr
  have ge_d : Hid (w.heap.size ≤ U1.heap.size) := B.out.size
  replace F := aG F hb
  replace B := aB B hb
  replace Jr := aJ Jr hb
  clear hb
  go_wp2_with fail
  generalize (U1.alloc (.cells #[U z0, U z1, U z2, U z3] 73)) = U2 at *
  generalize U1.heap.size = b3 at *
  have hb := dB U2
  replace F := aG F hb
  replace B := aB B hb
  replace Jr := aJ Jr hb
  replace Jd := aJ Jd hb
  clear hb
  refine wp_region_held_drew (S := fun W => (IHolds W (b3) 73 [U z0, U z1, U z2, U z3]) ∧ (GH W g s.size Wd M low one sq Wd2 M2 low2 one2 sq2)) (by kernel_rfl) ⟨Jd.out, F.out⟩ (fun hHeld1 => ?_)
  generalize U2.drew = U4 at *
  refine tk (i := 0) (v := .agg #[U z0, U z1, U z2, U z3]) rfl (by kernel_rfl) (fun _ _ _ h => h) rfl ?_ hHeld1 ?_
  · intro W hS; have zd_0 : W.cell? ⟨b3, 0, none⟩ = some (U z0) := IHolds.cell (l := [U z0, U z1, U z2, U z3]) (t := 73) (b := b3) (w := W) (hS.1) 0 (by simp); have zd_1 : W.cell? ⟨b3, 1, none⟩ = some (U z1) := IHolds.cell (l := [U z0, U z1, U z2, U z3]) (t := 73) (b := b3) (w := W) (hS.1) 1 (by simp); have zd_2 : W.cell? ⟨b3, 2, none⟩ = some (U z2) := IHolds.cell (l := [U z0, U z1, U z2, U z3]) (t := 73) (b := b3) (w := W) (hS.1) 2 (by simp); have zd_3 : W.cell? ⟨b3, 3, none⟩ = some (U z3) := IHolds.cell (l := [U z0, U z1, U z2, U z3]) (t := 73) (b := b3) (w := W) (hS.1) 3 (by simp); go_simp
  simp only [Act.put, y1, y2, y3, y4, y5, y6, y7]
  refine tk (i := 1) (v := .agg #[.int .u64 0, .int .u64 0, .int .u64 0, .int .u64 0]) rfl (by kernel_rfl) (fun _ _ _ h => h) rfl ?_ hHeld1 ?_
  · intro W hS; go_simp
  simp only [Act.put, y1, y2, y3, y4, y5, y6, y7]
  refine tk (i := 2) (v := (.bool true)) rfl (by kernel_rfl) (fun _ _ _ h => h) rfl ?_ hHeld1 ?_
  · intro W hS; go_simp
  simp only [Act.put, y1, y2, y3, y4, y5, y6, y7]
  refine tk (i := 3) (v := (.bool true)) rfl (by kernel_rfl) (fun _ _ _ h => h) rfl ?_ hHeld1 ?_
  · intro W hS; go_simp
  simp only [Act.put, y1, y2, y3, y4, y5, y6, y7]
  refine tk (i := 4) (v := .pointer (some ⟨g, 0, none⟩)) rfl (by kernel_rfl) (fun _ _ _ h => h) rfl ?_ hHeld1 ?_
  · intro W hS; go_simp
  simp only [Act.put, y1, y2, y3, y4, y5, y6, y7]
  refine tk (i := 9) (v := .agg #[U z0, U z1, U z2, U z3]) rfl (by kernel_rfl) (fun _ _ _ h => h) rfl ?_ hHeld1 ?_
  · intro W hS; have zd_0 : W.cell? ⟨b3, 0, none⟩ = some (U z0) := IHolds.cell (l := [U z0, U z1, U z2, U z3]) (t := 73) (b := b3) (w := W) (hS.1) 0 (by simp); have zd_1 : W.cell? ⟨b3, 1, none⟩ = some (U z1) := IHolds.cell (l := [U z0, U z1, U z2, U z3]) (t := 73) (b := b3) (w := W) (hS.1) 1 (by simp); have zd_2 : W.cell? ⟨b3, 2, none⟩ = some (U z2) := IHolds.cell (l := [U z0, U z1, U z2, U z3]) (t := 73) (b := b3) (w := W) (hS.1) 2 (by simp); have zd_3 : W.cell? ⟨b3, 3, none⟩ = some (U z3) := IHolds.cell (l := [U z0, U z1, U z2, U z3]) (t := 73) (b := b3) (w := W) (hS.1) 3 (by simp); go_simp
  simp only [Act.put, y1, y2, y3, y4, y5, y6, y7]
  refine tk (i := 5) (v := .pointer (some ⟨g, 0, none⟩)) rfl (by kernel_rfl) (fun _ _ _ h => h) rfl ?_ hHeld1 ?_
  · intro W hS; go_simp
  simp only [Act.put, y1, y2, y3, y4, y5, y6, y7]
  refine tk (i := 6) (v := .pointer (some ⟨g, 1, none⟩)) rfl (by kernel_rfl) (fun _ _ _ h => h) rfl ?_ hHeld1 ?_
  · intro W hS; go_simp
  simp only [Act.put, y1, y2, y3, y4, y5, y6, y7]
  refine tk (i := 7) (v := .pointer (some ⟨g, 2, none⟩)) rfl (by kernel_rfl) (fun _ _ _ h => h) rfl ?_ hHeld1 ?_
  · intro W hS; go_simp
  simp only [Act.put, y1, y2, y3, y4, y5, y6, y7]
  refine tk (i := 8) (v := .agg #[U (w4 M 0), U (w4 M 1), U (w4 M 2), U (w4 M 3)]) rfl (by kernel_rfl) (fun _ _ _ h => h) rfl ?_ hHeld1 ?_
  · intro W hS; have fz := hS.2; have fz0 : W.cell? ⟨g, 2, none⟩ = some (U (w4 M 0)) := fz.fs.m0; have fz1 : W.cell? ⟨g, 3, none⟩ = some (U (w4 M 1)) := fz.fs.m1; have fz2 : W.cell? ⟨g, 4, none⟩ = some (U (w4 M 2)) := fz.fs.m2; have fz3 : W.cell? ⟨g, 5, none⟩ = some (U (w4 M 3)) := fz.fs.m3; go_simp
  simp only [Act.put, y1, y2, y3, y4, y5, y6, y7]
  refine wpAnyH_ready (rs := [10]) (by kernel_rfl) (by simp) ?_
  refine AllReadyH.cons rfl (fun K hK => ?_) AllReadyH.nil
  clear hHeld1
  go_simp
  refine (CL.out U4).mono ?_
  rintro e U5 ⟨rfl, hb⟩
  replace F := aG F hb
  replace B := aB B hb
  replace Jr := aJ Jr hb
  replace Jd := aJ Jd hb
  clear hb
  go_wp2_with fail
  refine hK.out _ _ (⟨Jd.out, F.out⟩) (fun hHeld2 => ?_)
  clear hK K
  try simp only [Act.put, y1, y2, y3, y4, y5, y6, y7]
  refine tk (i := 11) (v := (.bool true)) rfl (by kernel_rfl) (fun _ _ _ h => h) rfl ?_ hHeld2 ?_
  · intro W hS; go_simp
  simp only [Act.put, y1, y2, y3, y4, y5, y6, y7]
  refine tk (i := 12) (v := (.bool true)) rfl (by kernel_rfl) (fun _ _ _ h => h) rfl ?_ hHeld2 ?_
  · intro W hS; go_simp
  simp only [Act.put, y1, y2, y3, y4, y5, y6, y7]
  refine wpAnyH_done (by kernel_rfl) ?_ _
  clear hHeld2
  have Kd : Hid (IHolds U5 (b3) 73 [U z0, U z1, U z2, U z3]) := Jd.out
  have zr_0 : U5.cell? ⟨w.heap.size, 0, none⟩ = some (.int .u64 0) := IHolds.cell (l := [.int .u64 0, .int .u64 0, .int .u64 0, .int .u64 0]) (t := 73) (b := w.heap.size) (w := U5) (Jr.out) 0 (by simp)
  have zr_1 : U5.cell? ⟨w.heap.size, 1, none⟩ = some (.int .u64 0) := IHolds.cell (l := [.int .u64 0, .int .u64 0, .int .u64 0, .int .u64 0]) (t := 73) (b := w.heap.size) (w := U5) (Jr.out) 1 (by simp)
  have zr_2 : U5.cell? ⟨w.heap.size, 2, none⟩ = some (.int .u64 0) := IHolds.cell (l := [.int .u64 0, .int .u64 0, .int .u64 0, .int .u64 0]) (t := 73) (b := w.heap.size) (w := U5) (Jr.out) 2 (by simp)
  have zr_3 : U5.cell? ⟨w.heap.size, 3, none⟩ = some (.int .u64 0) := IHolds.cell (l := [.int .u64 0, .int .u64 0, .int .u64 0, .int .u64 0]) (t := 73) (b := w.heap.size) (w := U5) (Jr.out) 3 (by simp)
  have f0 := fJ Jr
  have hBut : But (w.heap.size) U5 ((((U5.setCell ⟨w.heap.size, 0, none⟩ (U z0)).setCell ⟨w.heap.size, 1, none⟩ (U z1)).setCell ⟨w.heap.size, 2, none⟩ (U z2)).setCell ⟨w.heap.size, 3, none⟩ (U z3)) := (((((But.refl _ U5).setCell 0 (U z0)).setCell 1 (U z1)).setCell 2 (U z2)).setCell 3 (U z3))
  replace F := tG F hBut neF_r.out
  have I4 : Hid (IHolds _ (w.heap.size) 73 [U z0, U z1, U z2, U z3]) := ((((Jr.out.set 0 (U z0)).set 1 (U z1)).set 2 (U z2)).set 3 (U z3))
  replace B : Hid (Below w.heap.size w ((((U5.setCell ⟨w.heap.size, 0, none⟩ (U z0)).setCell ⟨w.heap.size, 1, none⟩ (U z1)).setCell ⟨w.heap.size, 2, none⟩ (U z2)).setCell ⟨w.heap.size, 3, none⟩ (U z3))) := ((((B.out.setCell (by first | exact Nat.le_refl _ | exact ge_r.out | (show w.heap.size ≤ w.heap.size; omega)) _).setCell (by first | exact Nat.le_refl _ | exact ge_r.out | (show w.heap.size ≤ w.heap.size; omega)) _).setCell (by first | exact Nat.le_refl _ | exact ge_r.out | (show w.heap.size ≤ w.heap.size; omega)) _).setCell (by first | exact Nat.le_refl _ | exact ge_r.out | (show w.heap.size ≤ w.heap.size; omega)) _)
  replace Jd := tJ Jd hBut (fun h => ne_r_d.out h.symm)
  replace Jr := I4
  clear I4 hBut
  have zd_0 : U5.cell? ⟨b3, 0, none⟩ = some (U z0) := IHolds.cell (l := [U z0, U z1, U z2, U z3]) (t := 73) (b := b3) (w := U5) (Kd.out) 0 (by simp)
  have zd_1 : U5.cell? ⟨b3, 1, none⟩ = some (U z1) := IHolds.cell (l := [U z0, U z1, U z2, U z3]) (t := 73) (b := b3) (w := U5) (Kd.out) 1 (by simp)
  have zd_2 : U5.cell? ⟨b3, 2, none⟩ = some (U z2) := IHolds.cell (l := [U z0, U z1, U z2, U z3]) (t := 73) (b := b3) (w := U5) (Kd.out) 2 (by simp)
  have zd_3 : U5.cell? ⟨b3, 3, none⟩ = some (U z3) := IHolds.cell (l := [U z0, U z1, U z2, U z3]) (t := 73) (b := b3) (w := U5) (Kd.out) 3 (by simp)
  go_wp2_with fail
  clear zd_0 zd_1 zd_2 zd_3
  clear Kd
  clear zr_0 zr_1 zr_2 zr_3
  clear f0
  generalize ((((U5.setCell ⟨w.heap.size, 0, none⟩ (U z0)).setCell ⟨w.heap.size, 1, none⟩ (U z1)).setCell ⟨w.heap.size, 2, none⟩ (U z2)).setCell ⟨w.heap.size, 3, none⟩ (U z3)) = U6 at *
  have E0 : Hid (U6.cell? ⟨w.heap.size, 0, none⟩ = some (U z0)) := IHolds.cell (l := [U z0, U z1, U z2, U z3]) (t := 73) (b := w.heap.size) (w := U6) Jr.out 0 (by simp)
  have E1 : Hid (U6.cell? ⟨w.heap.size, 1, none⟩ = some (U z1)) := IHolds.cell (l := [U z0, U z1, U z2, U z3]) (t := 73) (b := w.heap.size) (w := U6) Jr.out 1 (by simp)
  have E2 : Hid (U6.cell? ⟨w.heap.size, 2, none⟩ = some (U z2)) := IHolds.cell (l := [U z0, U z1, U z2, U z3]) (t := 73) (b := w.heap.size) (w := U6) Jr.out 2 (by simp)
  have E3 : Hid (U6.cell? ⟨w.heap.size, 3, none⟩ = some (U z3)) := IHolds.cell (l := [U z0, U z1, U z2, U z3]) (t := 73) (b := w.heap.size) (w := U6) Jr.out 3 (by simp)
  exact bodyPost_ret (v := .tuple #[.agg #[U z0, U z1, U z2, U z3], .int .i64 0]) (by simp [results, Tryz.results36, go_sem, E0.out, E1.out, E2.out, E3.out]) rfl ⟨rfl, B.out⟩
set_option maxRecDepth 100000 in
set_option maxHeartbeats 2000000 in
theorem elem_not {w : World} {g S Wd M low one sq Wd2 M2 low2 one2 sq2 : Nat} (F : Hid (GH w g S Wd M low one sq Wd2 M2 low2 one2 sq2)) {s : ByteArray} {z0 z1 z2 z3 : Nat} (hS : S = s.size) (CN : Hid (∀ W, Calls Tryz.prog 63 #[.string s] W fun e w' => e = .returned (.agg #[U z0, U z1, U z2, U z3]) ∧ Below W.heap.size W w')) (CL : Hid (∀ W, Calls Tryz.prog 64 #[.agg #[U (w4 M 0), U (w4 M 1), U (w4 M 2), U (w4 M 3)], .agg #[U z0, U z1, U z2, U z3]] W fun e w' => e = .returned (.bool true) ∧ Below W.heap.size W w')) (hz : decide (z0 = 0 ∧ z1 = 0 ∧ z2 = 0 ∧ z3 = 0) = false) :
    Calls Tryz.prog 36 #[.pointer (some ⟨g, 0, none⟩), .string s] w fun e w' => e = .returned (.tuple #[.agg #[.int .u64 0, .int .u64 0, .int .u64 0, .int .u64 0], .int .i64 7]) ∧ Below w.heap.size w w' := by
  subst hS
  have hq : ∀ W, (Op.equalIn 10000 73 (.agg #[U z0, U z1, U z2, U z3]) (.agg #[.int .u64 0, .int .u64 0, .int .u64 0, .int .u64 0])).run Tryz.prog W = .ok false W := fun W => by rw [eq66, hz]
  clear hz
  have hb := nB w (.cells #[.int .u64 0, .int .u64 0, .int .u64 0, .int .u64 0] 73)
  have Jr : Hid (IHolds (w.alloc (.cells #[.int .u64 0, .int .u64 0, .int .u64 0, .int .u64 0] 73)) w.heap.size 73 [.int .u64 0, .int .u64 0, .int .u64 0, .int .u64 0]) := IHolds.new w 73 _
  have B : Hid (Below w.heap.size w (w.alloc (.cells #[.int .u64 0, .int .u64 0, .int .u64 0, .int .u64 0] 73))) := hb
  have neF_r : Hid (g ≠ w.heap.size) := F.out.ne
  replace F := aG F hb
  clear hb
  have fz0 : (w.alloc (.cells #[.int .u64 0, .int .u64 0, .int .u64 0, .int .u64 0] 73)).cell? ⟨g, 0, none⟩ = some (.int .i64 (s.size : Int)) := F.out.c
  go_enter Tryz.func36, Tryz.ntmps36
  go_wp2_with fail
  clear fz0
  generalize (w.alloc (.cells #[.int .u64 0, .int .u64 0, .int .u64 0, .int .u64 0] 73)) = V0 at *
  refine (CN.out V0).mono ?_
  rintro e U1 ⟨rfl, hb⟩
  replace F := aG F hb
  replace B := aB B hb
  replace Jr := aJ Jr hb
  clear hb
  have neF_d : Hid (g ≠ U1.heap.size) := F.out.ne
  have hb := nB U1 (.cells #[U z0, U z1, U z2, U z3] 73)
  have Jd : Hid (IHolds (U1.alloc (.cells #[U z0, U z1, U z2, U z3] 73)) U1.heap.size 73 [U z0, U z1, U z2, U z3]) := IHolds.new _ _ _
  have ne_r_d := nJ Jr
  have ge_d : Hid (w.heap.size ≤ U1.heap.size) := B.out.size
  replace F := aG F hb
  replace B := aB B hb
  replace Jr := aJ Jr hb
  clear hb
  go_wp2_with fail
  generalize (U1.alloc (.cells #[U z0, U z1, U z2, U z3] 73)) = U2 at *
  generalize U1.heap.size = b3 at *
  have hb := dB U2
  replace F := aG F hb
  replace B := aB B hb
  replace Jr := aJ Jr hb
  replace Jd := aJ Jd hb
  clear hb
  refine wp_region_held_drew (S := fun W => (IHolds W (b3) 73 [U z0, U z1, U z2, U z3]) ∧ (GH W g s.size Wd M low one sq Wd2 M2 low2 one2 sq2)) (by kernel_rfl) ⟨Jd.out, F.out⟩ (fun hHeld1 => ?_)
  generalize U2.drew = U4 at *
  refine tk (i := 0) (v := .agg #[U z0, U z1, U z2, U z3]) rfl (by kernel_rfl) (fun _ _ _ h => h) rfl ?_ hHeld1 ?_
  · intro W hS; have zd_0 : W.cell? ⟨b3, 0, none⟩ = some (U z0) := IHolds.cell (l := [U z0, U z1, U z2, U z3]) (t := 73) (b := b3) (w := W) (hS.1) 0 (by simp); have zd_1 : W.cell? ⟨b3, 1, none⟩ = some (U z1) := IHolds.cell (l := [U z0, U z1, U z2, U z3]) (t := 73) (b := b3) (w := W) (hS.1) 1 (by simp); have zd_2 : W.cell? ⟨b3, 2, none⟩ = some (U z2) := IHolds.cell (l := [U z0, U z1, U z2, U z3]) (t := 73) (b := b3) (w := W) (hS.1) 2 (by simp); have zd_3 : W.cell? ⟨b3, 3, none⟩ = some (U z3) := IHolds.cell (l := [U z0, U z1, U z2, U z3]) (t := 73) (b := b3) (w := W) (hS.1) 3 (by simp); go_simp
  simp only [Act.put, y1, y2, y3, y4, y5, y6, y7]
  refine tk (i := 1) (v := .agg #[.int .u64 0, .int .u64 0, .int .u64 0, .int .u64 0]) rfl (by kernel_rfl) (fun _ _ _ h => h) rfl ?_ hHeld1 ?_
  · intro W hS; go_simp
  simp only [Act.put, y1, y2, y3, y4, y5, y6, y7]
  refine tk (i := 2) (v := (.bool true)) rfl (by kernel_rfl) (fun _ _ _ h => h) rfl ?_ hHeld1 ?_
  · intro W hS; go_simp
  simp only [Act.put, y1, y2, y3, y4, y5, y6, y7]
  refine tk (i := 3) (v := (.bool true)) rfl (by kernel_rfl) (fun _ _ _ h => h) rfl ?_ hHeld1 ?_
  · intro W hS; go_simp
  simp only [Act.put, y1, y2, y3, y4, y5, y6, y7]
  refine tk (i := 4) (v := .pointer (some ⟨g, 0, none⟩)) rfl (by kernel_rfl) (fun _ _ _ h => h) rfl ?_ hHeld1 ?_
  · intro W hS; go_simp
  simp only [Act.put, y1, y2, y3, y4, y5, y6, y7]
  refine tk (i := 9) (v := .agg #[U z0, U z1, U z2, U z3]) rfl (by kernel_rfl) (fun _ _ _ h => h) rfl ?_ hHeld1 ?_
  · intro W hS; have zd_0 : W.cell? ⟨b3, 0, none⟩ = some (U z0) := IHolds.cell (l := [U z0, U z1, U z2, U z3]) (t := 73) (b := b3) (w := W) (hS.1) 0 (by simp); have zd_1 : W.cell? ⟨b3, 1, none⟩ = some (U z1) := IHolds.cell (l := [U z0, U z1, U z2, U z3]) (t := 73) (b := b3) (w := W) (hS.1) 1 (by simp); have zd_2 : W.cell? ⟨b3, 2, none⟩ = some (U z2) := IHolds.cell (l := [U z0, U z1, U z2, U z3]) (t := 73) (b := b3) (w := W) (hS.1) 2 (by simp); have zd_3 : W.cell? ⟨b3, 3, none⟩ = some (U z3) := IHolds.cell (l := [U z0, U z1, U z2, U z3]) (t := 73) (b := b3) (w := W) (hS.1) 3 (by simp); go_simp
  simp only [Act.put, y1, y2, y3, y4, y5, y6, y7]
  refine tk (i := 5) (v := .pointer (some ⟨g, 0, none⟩)) rfl (by kernel_rfl) (fun _ _ _ h => h) rfl ?_ hHeld1 ?_
  · intro W hS; go_simp
  simp only [Act.put, y1, y2, y3, y4, y5, y6, y7]
  refine tk (i := 6) (v := .pointer (some ⟨g, 1, none⟩)) rfl (by kernel_rfl) (fun _ _ _ h => h) rfl ?_ hHeld1 ?_
  · intro W hS; go_simp
  simp only [Act.put, y1, y2, y3, y4, y5, y6, y7]
  refine tk (i := 7) (v := .pointer (some ⟨g, 2, none⟩)) rfl (by kernel_rfl) (fun _ _ _ h => h) rfl ?_ hHeld1 ?_
  · intro W hS; go_simp
  simp only [Act.put, y1, y2, y3, y4, y5, y6, y7]
  refine tk (i := 8) (v := .agg #[U (w4 M 0), U (w4 M 1), U (w4 M 2), U (w4 M 3)]) rfl (by kernel_rfl) (fun _ _ _ h => h) rfl ?_ hHeld1 ?_
  · intro W hS; have fz := hS.2; have fz0 : W.cell? ⟨g, 2, none⟩ = some (U (w4 M 0)) := fz.fs.m0; have fz1 : W.cell? ⟨g, 3, none⟩ = some (U (w4 M 1)) := fz.fs.m1; have fz2 : W.cell? ⟨g, 4, none⟩ = some (U (w4 M 2)) := fz.fs.m2; have fz3 : W.cell? ⟨g, 5, none⟩ = some (U (w4 M 3)) := fz.fs.m3; go_simp
  simp only [Act.put, y1, y2, y3, y4, y5, y6, y7]
  refine wpAnyH_ready (rs := [10]) (by kernel_rfl) (by simp) ?_
  refine AllReadyH.cons rfl (fun K hK => ?_) AllReadyH.nil
  clear hHeld1
  go_simp
  refine (CL.out U4).mono ?_
  rintro e U5 ⟨rfl, hb⟩
  replace F := aG F hb
  replace B := aB B hb
  replace Jr := aJ Jr hb
  replace Jd := aJ Jd hb
  clear hb
  go_wp2_with fail
  refine hK.out _ _ (⟨Jd.out, F.out⟩) (fun hHeld2 => ?_)
  clear hK K
  try simp only [Act.put, y1, y2, y3, y4, y5, y6, y7]
  refine tk (i := 11) (v := (.bool false)) rfl (by kernel_rfl) (fun _ _ _ h => h) rfl ?_ hHeld2 ?_
  · intro W hS; go_simp
  simp only [Act.put, y1, y2, y3, y4, y5, y6, y7]
  refine tk (i := 12) (v := (.bool false)) rfl (by kernel_rfl) (fun _ _ _ h => h) rfl ?_ hHeld2 ?_
  · intro W hS; go_simp
  simp only [Act.put, y1, y2, y3, y4, y5, y6, y7]
  refine wpAnyH_done (by kernel_rfl) ?_ _
  clear hHeld2
  have zr_0 : U5.cell? ⟨w.heap.size, 0, none⟩ = some (.int .u64 0) := IHolds.cell (l := [.int .u64 0, .int .u64 0, .int .u64 0, .int .u64 0]) (t := 73) (b := w.heap.size) (w := U5) (Jr.out) 0 (by simp)
  have zr_1 : U5.cell? ⟨w.heap.size, 1, none⟩ = some (.int .u64 0) := IHolds.cell (l := [.int .u64 0, .int .u64 0, .int .u64 0, .int .u64 0]) (t := 73) (b := w.heap.size) (w := U5) (Jr.out) 1 (by simp)
  have zr_2 : U5.cell? ⟨w.heap.size, 2, none⟩ = some (.int .u64 0) := IHolds.cell (l := [.int .u64 0, .int .u64 0, .int .u64 0, .int .u64 0]) (t := 73) (b := w.heap.size) (w := U5) (Jr.out) 2 (by simp)
  have zr_3 : U5.cell? ⟨w.heap.size, 3, none⟩ = some (.int .u64 0) := IHolds.cell (l := [.int .u64 0, .int .u64 0, .int .u64 0, .int .u64 0]) (t := 73) (b := w.heap.size) (w := U5) (Jr.out) 3 (by simp)
  have f0 := fJ Jr
  have hBut : But (w.heap.size) U5 ((((U5.setCell ⟨w.heap.size, 0, none⟩ (.int .u64 0)).setCell ⟨w.heap.size, 1, none⟩ (.int .u64 0)).setCell ⟨w.heap.size, 2, none⟩ (.int .u64 0)).setCell ⟨w.heap.size, 3, none⟩ (.int .u64 0)) := (((((But.refl _ U5).setCell 0 (.int .u64 0)).setCell 1 (.int .u64 0)).setCell 2 (.int .u64 0)).setCell 3 (.int .u64 0))
  replace F := tG F hBut neF_r.out
  have I4 : Hid (IHolds _ (w.heap.size) 73 [.int .u64 0, .int .u64 0, .int .u64 0, .int .u64 0]) := ((((Jr.out.set 0 (.int .u64 0)).set 1 (.int .u64 0)).set 2 (.int .u64 0)).set 3 (.int .u64 0))
  replace B : Hid (Below w.heap.size w ((((U5.setCell ⟨w.heap.size, 0, none⟩ (.int .u64 0)).setCell ⟨w.heap.size, 1, none⟩ (.int .u64 0)).setCell ⟨w.heap.size, 2, none⟩ (.int .u64 0)).setCell ⟨w.heap.size, 3, none⟩ (.int .u64 0))) := ((((B.out.setCell (by first | exact Nat.le_refl _ | exact ge_r.out | (show w.heap.size ≤ w.heap.size; omega)) _).setCell (by first | exact Nat.le_refl _ | exact ge_r.out | (show w.heap.size ≤ w.heap.size; omega)) _).setCell (by first | exact Nat.le_refl _ | exact ge_r.out | (show w.heap.size ≤ w.heap.size; omega)) _).setCell (by first | exact Nat.le_refl _ | exact ge_r.out | (show w.heap.size ≤ w.heap.size; omega)) _)
  replace Jd := tJ Jd hBut (fun h => ne_r_d.out h.symm)
  replace Jr := I4
  clear I4 hBut
  go_wp2_with fail
  clear zr_0 zr_1 zr_2 zr_3
  clear f0
  generalize ((((U5.setCell ⟨w.heap.size, 0, none⟩ (.int .u64 0)).setCell ⟨w.heap.size, 1, none⟩ (.int .u64 0)).setCell ⟨w.heap.size, 2, none⟩ (.int .u64 0)).setCell ⟨w.heap.size, 3, none⟩ (.int .u64 0)) = U6 at *
  have E0 : Hid (U6.cell? ⟨w.heap.size, 0, none⟩ = some (.int .u64 0)) := IHolds.cell (l := [.int .u64 0, .int .u64 0, .int .u64 0, .int .u64 0]) (t := 73) (b := w.heap.size) (w := U6) Jr.out 0 (by simp)
  have E1 : Hid (U6.cell? ⟨w.heap.size, 1, none⟩ = some (.int .u64 0)) := IHolds.cell (l := [.int .u64 0, .int .u64 0, .int .u64 0, .int .u64 0]) (t := 73) (b := w.heap.size) (w := U6) Jr.out 1 (by simp)
  have E2 : Hid (U6.cell? ⟨w.heap.size, 2, none⟩ = some (.int .u64 0)) := IHolds.cell (l := [.int .u64 0, .int .u64 0, .int .u64 0, .int .u64 0]) (t := 73) (b := w.heap.size) (w := U6) Jr.out 2 (by simp)
  have E3 : Hid (U6.cell? ⟨w.heap.size, 3, none⟩ = some (.int .u64 0)) := IHolds.cell (l := [.int .u64 0, .int .u64 0, .int .u64 0, .int .u64 0]) (t := 73) (b := w.heap.size) (w := U6) Jr.out 3 (by simp)
  exact bodyPost_ret (v := .tuple #[.agg #[.int .u64 0, .int .u64 0, .int .u64 0, .int .u64 0], .int .i64 7]) (by simp [results, Tryz.results36, go_sem, E0.out, E1.out, E2.out, E3.out]) rfl ⟨rfl, B.out⟩
set_option maxRecDepth 100000 in
set_option maxHeartbeats 2000000 in
theorem elem_zero {w : World} {g S Wd M low one sq Wd2 M2 low2 one2 sq2 : Nat} (F : Hid (GH w g S Wd M low one sq Wd2 M2 low2 one2 sq2)) {s : ByteArray} {z0 z1 z2 z3 : Nat} (hS : S = s.size) (CN : Hid (∀ W, Calls Tryz.prog 63 #[.string s] W fun e w' => e = .returned (.agg #[U z0, U z1, U z2, U z3]) ∧ Below W.heap.size W w'))  (hz : decide (z0 = 0 ∧ z1 = 0 ∧ z2 = 0 ∧ z3 = 0) = true) :
    Calls Tryz.prog 36 #[.pointer (some ⟨g, 0, none⟩), .string s] w fun e w' => e = .returned (.tuple #[.agg #[.int .u64 0, .int .u64 0, .int .u64 0, .int .u64 0], .int .i64 7]) ∧ Below w.heap.size w w' := by
  subst hS
  have hq : ∀ W, (Op.equalIn 10000 73 (.agg #[U z0, U z1, U z2, U z3]) (.agg #[.int .u64 0, .int .u64 0, .int .u64 0, .int .u64 0])).run Tryz.prog W = .ok true W := fun W => by rw [eq66, hz]
  clear hz
  have hb := nB w (.cells #[.int .u64 0, .int .u64 0, .int .u64 0, .int .u64 0] 73)
  have Jr : Hid (IHolds (w.alloc (.cells #[.int .u64 0, .int .u64 0, .int .u64 0, .int .u64 0] 73)) w.heap.size 73 [.int .u64 0, .int .u64 0, .int .u64 0, .int .u64 0]) := IHolds.new w 73 _
  have B : Hid (Below w.heap.size w (w.alloc (.cells #[.int .u64 0, .int .u64 0, .int .u64 0, .int .u64 0] 73))) := hb
  have neF_r : Hid (g ≠ w.heap.size) := F.out.ne
  replace F := aG F hb
  clear hb
  have fz0 : (w.alloc (.cells #[.int .u64 0, .int .u64 0, .int .u64 0, .int .u64 0] 73)).cell? ⟨g, 0, none⟩ = some (.int .i64 (s.size : Int)) := F.out.c
  go_enter Tryz.func36, Tryz.ntmps36
  go_wp2_with fail
  clear fz0
  generalize (w.alloc (.cells #[.int .u64 0, .int .u64 0, .int .u64 0, .int .u64 0] 73)) = V0 at *
  refine (CN.out V0).mono ?_
  rintro e U1 ⟨rfl, hb⟩
  replace F := aG F hb
  replace B := aB B hb
  replace Jr := aJ Jr hb
  clear hb
  have neF_d : Hid (g ≠ U1.heap.size) := F.out.ne
  have hb := nB U1 (.cells #[U z0, U z1, U z2, U z3] 73)
  have Jd : Hid (IHolds (U1.alloc (.cells #[U z0, U z1, U z2, U z3] 73)) U1.heap.size 73 [U z0, U z1, U z2, U z3]) := IHolds.new _ _ _
  have ne_r_d := nJ Jr
  have ge_d : Hid (w.heap.size ≤ U1.heap.size) := B.out.size
  replace F := aG F hb
  replace B := aB B hb
  replace Jr := aJ Jr hb
  clear hb
  go_wp2_with fail
  generalize (U1.alloc (.cells #[U z0, U z1, U z2, U z3] 73)) = U2 at *
  generalize U1.heap.size = b3 at *
  have hb := dB U2
  replace F := aG F hb
  replace B := aB B hb
  replace Jr := aJ Jr hb
  replace Jd := aJ Jd hb
  clear hb
  refine wp_region_held_drew (S := fun W => (IHolds W (b3) 73 [U z0, U z1, U z2, U z3]) ∧ (GH W g s.size Wd M low one sq Wd2 M2 low2 one2 sq2)) (by kernel_rfl) ⟨Jd.out, F.out⟩ (fun hHeld1 => ?_)
  generalize U2.drew = U4 at *
  refine tk (i := 0) (v := .agg #[U z0, U z1, U z2, U z3]) rfl (by kernel_rfl) (fun _ _ _ h => h) rfl ?_ hHeld1 ?_
  · intro W hS; have zd_0 : W.cell? ⟨b3, 0, none⟩ = some (U z0) := IHolds.cell (l := [U z0, U z1, U z2, U z3]) (t := 73) (b := b3) (w := W) (hS.1) 0 (by simp); have zd_1 : W.cell? ⟨b3, 1, none⟩ = some (U z1) := IHolds.cell (l := [U z0, U z1, U z2, U z3]) (t := 73) (b := b3) (w := W) (hS.1) 1 (by simp); have zd_2 : W.cell? ⟨b3, 2, none⟩ = some (U z2) := IHolds.cell (l := [U z0, U z1, U z2, U z3]) (t := 73) (b := b3) (w := W) (hS.1) 2 (by simp); have zd_3 : W.cell? ⟨b3, 3, none⟩ = some (U z3) := IHolds.cell (l := [U z0, U z1, U z2, U z3]) (t := 73) (b := b3) (w := W) (hS.1) 3 (by simp); go_simp
  simp only [Act.put, y1, y2, y3, y4, y5, y6, y7]
  refine tk (i := 1) (v := .agg #[.int .u64 0, .int .u64 0, .int .u64 0, .int .u64 0]) rfl (by kernel_rfl) (fun _ _ _ h => h) rfl ?_ hHeld1 ?_
  · intro W hS; go_simp
  simp only [Act.put, y1, y2, y3, y4, y5, y6, y7]
  refine tk (i := 2) (v := (.bool false)) rfl (by kernel_rfl) (fun _ _ _ h => h) rfl ?_ hHeld1 ?_
  · intro W hS; go_simp
  simp only [Act.put, y1, y2, y3, y4, y5, y6, y7]
  refine tk (i := 3) (v := (.bool false)) rfl (by kernel_rfl) (fun _ _ _ h => h) rfl ?_ hHeld1 ?_
  · intro W hS; go_simp
  simp only [Act.put, y1, y2, y3, y4, y5, y6, y7]
  refine tkU (i := 4) rfl (by kernel_rfl) (fun _ _ _ h => h) rfl hHeld1 ?_
  simp only [Act.put, y1, y2, y3, y4, y5, y6, y7]
  refine tkU (i := 9) rfl (by kernel_rfl) (fun _ _ _ h => h) rfl hHeld1 ?_
  simp only [Act.put, y1, y2, y3, y4, y5, y6, y7]
  refine tkU (i := 5) rfl (by kernel_rfl) (fun _ _ _ h => h) rfl hHeld1 ?_
  simp only [Act.put, y1, y2, y3, y4, y5, y6, y7]
  refine tkU (i := 6) rfl (by kernel_rfl) (fun _ _ _ h => h) rfl hHeld1 ?_
  simp only [Act.put, y1, y2, y3, y4, y5, y6, y7]
  refine tkU (i := 7) rfl (by kernel_rfl) (fun _ _ _ h => h) rfl hHeld1 ?_
  simp only [Act.put, y1, y2, y3, y4, y5, y6, y7]
  refine tkU (i := 8) rfl (by kernel_rfl) (fun _ _ _ h => h) rfl hHeld1 ?_
  simp only [Act.put, y1, y2, y3, y4, y5, y6, y7]
  refine tkU (i := 10) rfl (by kernel_rfl) (fun _ _ _ h => h) rfl hHeld1 ?_
  simp only [Act.put, y1, y2, y3, y4, y5, y6, y7]
  refine tkU (i := 11) rfl (by kernel_rfl) (fun _ _ _ h => h) rfl hHeld1 ?_
  simp only [Act.put, y1, y2, y3, y4, y5, y6, y7]
  refine tk (i := 12) (v := (.bool false)) rfl (by kernel_rfl) (fun _ _ _ h => h) rfl ?_ hHeld1 ?_
  · intro W hS; go_simp
  simp only [Act.put, y1, y2, y3, y4, y5, y6, y7]
  refine wpAnyH_done (by kernel_rfl) ?_ _
  clear hHeld1
  have zr_0 : U4.cell? ⟨w.heap.size, 0, none⟩ = some (.int .u64 0) := IHolds.cell (l := [.int .u64 0, .int .u64 0, .int .u64 0, .int .u64 0]) (t := 73) (b := w.heap.size) (w := U4) (Jr.out) 0 (by simp)
  have zr_1 : U4.cell? ⟨w.heap.size, 1, none⟩ = some (.int .u64 0) := IHolds.cell (l := [.int .u64 0, .int .u64 0, .int .u64 0, .int .u64 0]) (t := 73) (b := w.heap.size) (w := U4) (Jr.out) 1 (by simp)
  have zr_2 : U4.cell? ⟨w.heap.size, 2, none⟩ = some (.int .u64 0) := IHolds.cell (l := [.int .u64 0, .int .u64 0, .int .u64 0, .int .u64 0]) (t := 73) (b := w.heap.size) (w := U4) (Jr.out) 2 (by simp)
  have zr_3 : U4.cell? ⟨w.heap.size, 3, none⟩ = some (.int .u64 0) := IHolds.cell (l := [.int .u64 0, .int .u64 0, .int .u64 0, .int .u64 0]) (t := 73) (b := w.heap.size) (w := U4) (Jr.out) 3 (by simp)
  have f0 := fJ Jr
  have hBut : But (w.heap.size) U4 ((((U4.setCell ⟨w.heap.size, 0, none⟩ (.int .u64 0)).setCell ⟨w.heap.size, 1, none⟩ (.int .u64 0)).setCell ⟨w.heap.size, 2, none⟩ (.int .u64 0)).setCell ⟨w.heap.size, 3, none⟩ (.int .u64 0)) := (((((But.refl _ U4).setCell 0 (.int .u64 0)).setCell 1 (.int .u64 0)).setCell 2 (.int .u64 0)).setCell 3 (.int .u64 0))
  replace F := tG F hBut neF_r.out
  have I4 : Hid (IHolds _ (w.heap.size) 73 [.int .u64 0, .int .u64 0, .int .u64 0, .int .u64 0]) := ((((Jr.out.set 0 (.int .u64 0)).set 1 (.int .u64 0)).set 2 (.int .u64 0)).set 3 (.int .u64 0))
  replace B : Hid (Below w.heap.size w ((((U4.setCell ⟨w.heap.size, 0, none⟩ (.int .u64 0)).setCell ⟨w.heap.size, 1, none⟩ (.int .u64 0)).setCell ⟨w.heap.size, 2, none⟩ (.int .u64 0)).setCell ⟨w.heap.size, 3, none⟩ (.int .u64 0))) := ((((B.out.setCell (by first | exact Nat.le_refl _ | exact ge_r.out | (show w.heap.size ≤ w.heap.size; omega)) _).setCell (by first | exact Nat.le_refl _ | exact ge_r.out | (show w.heap.size ≤ w.heap.size; omega)) _).setCell (by first | exact Nat.le_refl _ | exact ge_r.out | (show w.heap.size ≤ w.heap.size; omega)) _).setCell (by first | exact Nat.le_refl _ | exact ge_r.out | (show w.heap.size ≤ w.heap.size; omega)) _)
  replace Jd := tJ Jd hBut (fun h => ne_r_d.out h.symm)
  replace Jr := I4
  clear I4 hBut
  go_wp2_with fail
  clear zr_0 zr_1 zr_2 zr_3
  clear f0
  generalize ((((U4.setCell ⟨w.heap.size, 0, none⟩ (.int .u64 0)).setCell ⟨w.heap.size, 1, none⟩ (.int .u64 0)).setCell ⟨w.heap.size, 2, none⟩ (.int .u64 0)).setCell ⟨w.heap.size, 3, none⟩ (.int .u64 0)) = U5 at *
  have E0 : Hid (U5.cell? ⟨w.heap.size, 0, none⟩ = some (.int .u64 0)) := IHolds.cell (l := [.int .u64 0, .int .u64 0, .int .u64 0, .int .u64 0]) (t := 73) (b := w.heap.size) (w := U5) Jr.out 0 (by simp)
  have E1 : Hid (U5.cell? ⟨w.heap.size, 1, none⟩ = some (.int .u64 0)) := IHolds.cell (l := [.int .u64 0, .int .u64 0, .int .u64 0, .int .u64 0]) (t := 73) (b := w.heap.size) (w := U5) Jr.out 1 (by simp)
  have E2 : Hid (U5.cell? ⟨w.heap.size, 2, none⟩ = some (.int .u64 0)) := IHolds.cell (l := [.int .u64 0, .int .u64 0, .int .u64 0, .int .u64 0]) (t := 73) (b := w.heap.size) (w := U5) Jr.out 2 (by simp)
  have E3 : Hid (U5.cell? ⟨w.heap.size, 3, none⟩ = some (.int .u64 0)) := IHolds.cell (l := [.int .u64 0, .int .u64 0, .int .u64 0, .int .u64 0]) (t := 73) (b := w.heap.size) (w := U5) Jr.out 3 (by simp)
  exact bodyPost_ret (v := .tuple #[.agg #[.int .u64 0, .int .u64 0, .int .u64 0, .int .u64 0], .int .i64 7]) (by simp [results, Tryz.results36, go_sem, E0.out, E1.out, E2.out, E3.out]) rfl ⟨rfl, B.out⟩
end Go.Proofs.YtmpiipcllgjhdaaGreatDoor

/- The closures, and the faces Scalar, Member, Number, Reduce. -/
namespace Go.Proofs.YtmpiipcllgjhdaaGreatDoor
open Go.RowKit Go.Deep Go.PlainAid

set_option maxRecDepth 100000 in
set_option maxHeartbeats 2000000 in
theorem clos58 {w : World} {g cp : Nat} {s : ByteArray} {z0 z1 z2 z3 : Nat} {c : Int} (Js : Hid (IHolds w cp 9 [.string s])) (C : Hid (∀ W, Below w.heap.size w W → Calls Tryz.prog 32 #[.pointer (some ⟨g, 0, none⟩), .string s] W fun e w' => e = .returned (.tuple #[.agg #[U z0, U z1, U z2, U z3], .int .i64 c]) ∧ Below W.heap.size W w')) :
    Calls Tryz.prog 31 #[.pointer (some ⟨g, 0, none⟩), .pointer (some ⟨cp, 0, none⟩)] w fun e w' => e = .returned (.tuple #[.agg #[U z0, U z1, U z2, U z3], .int .i64 c]) ∧ Below w.heap.size w w' := by
  have ne_s_r := nJ Js
  have hb := nB w (.cells #[.int .u64 0, .int .u64 0, .int .u64 0, .int .u64 0] 73)
  have Jr : Hid (IHolds (w.alloc (.cells #[.int .u64 0, .int .u64 0, .int .u64 0, .int .u64 0] 73)) w.heap.size 73 [.int .u64 0, .int .u64 0, .int .u64 0, .int .u64 0]) := IHolds.new w 73 _
  have B : Hid (Below w.heap.size w (w.alloc (.cells #[.int .u64 0, .int .u64 0, .int .u64 0, .int .u64 0] 73))) := hb
  replace Js := aJ Js hb
  clear hb
  have zs0 : (w.alloc (.cells #[.int .u64 0, .int .u64 0, .int .u64 0, .int .u64 0] 73)).cell? ⟨cp, 0, none⟩ = some (.string s) := Js.out.cell 0 (by simp)
  go_enter Tryz.func31, Tryz.ntmps31
  go_wp2_with fail
  clear zs0
  generalize (w.alloc (.cells #[.int .u64 0, .int .u64 0, .int .u64 0, .int .u64 0] 73)) = V0 at *
  refine (C.out V0 B.out).mono ?_
  rintro e U1 ⟨rfl, hb⟩
  replace B := aB B hb
  replace Js := aJ Js hb
  replace Jr := aJ Jr hb
  clear hb
  have zr_0 : U1.cell? ⟨w.heap.size, 0, none⟩ = some (.int .u64 0) := IHolds.cell (l := [.int .u64 0, .int .u64 0, .int .u64 0, .int .u64 0]) (t := 73) (b := w.heap.size) (w := U1) (Jr.out) 0 (by simp)
  have zr_1 : U1.cell? ⟨w.heap.size, 1, none⟩ = some (.int .u64 0) := IHolds.cell (l := [.int .u64 0, .int .u64 0, .int .u64 0, .int .u64 0]) (t := 73) (b := w.heap.size) (w := U1) (Jr.out) 1 (by simp)
  have zr_2 : U1.cell? ⟨w.heap.size, 2, none⟩ = some (.int .u64 0) := IHolds.cell (l := [.int .u64 0, .int .u64 0, .int .u64 0, .int .u64 0]) (t := 73) (b := w.heap.size) (w := U1) (Jr.out) 2 (by simp)
  have zr_3 : U1.cell? ⟨w.heap.size, 3, none⟩ = some (.int .u64 0) := IHolds.cell (l := [.int .u64 0, .int .u64 0, .int .u64 0, .int .u64 0]) (t := 73) (b := w.heap.size) (w := U1) (Jr.out) 3 (by simp)
  have f0 := fJ Jr
  have hBut : But (w.heap.size) U1 ((((U1.setCell ⟨w.heap.size, 0, none⟩ (U z0)).setCell ⟨w.heap.size, 1, none⟩ (U z1)).setCell ⟨w.heap.size, 2, none⟩ (U z2)).setCell ⟨w.heap.size, 3, none⟩ (U z3)) := (((((But.refl _ U1).setCell 0 (U z0)).setCell 1 (U z1)).setCell 2 (U z2)).setCell 3 (U z3))
  have I4 : Hid (IHolds _ (w.heap.size) 73 [U z0, U z1, U z2, U z3]) := ((((Jr.out.set 0 (U z0)).set 1 (U z1)).set 2 (U z2)).set 3 (U z3))
  replace B : Hid (Below w.heap.size w ((((U1.setCell ⟨w.heap.size, 0, none⟩ (U z0)).setCell ⟨w.heap.size, 1, none⟩ (U z1)).setCell ⟨w.heap.size, 2, none⟩ (U z2)).setCell ⟨w.heap.size, 3, none⟩ (U z3))) := ((((B.out.setCell (by first | exact Nat.le_refl _ | exact ge_r.out | (show w.heap.size ≤ w.heap.size; omega)) _).setCell (by first | exact Nat.le_refl _ | exact ge_r.out | (show w.heap.size ≤ w.heap.size; omega)) _).setCell (by first | exact Nat.le_refl _ | exact ge_r.out | (show w.heap.size ≤ w.heap.size; omega)) _).setCell (by first | exact Nat.le_refl _ | exact ge_r.out | (show w.heap.size ≤ w.heap.size; omega)) _)
  replace Js := tJ Js hBut ne_s_r.out
  replace Jr := I4
  clear I4 hBut
  go_wp2_with fail
  clear zr_0 zr_1 zr_2 zr_3
  clear f0
  generalize ((((U1.setCell ⟨w.heap.size, 0, none⟩ (U z0)).setCell ⟨w.heap.size, 1, none⟩ (U z1)).setCell ⟨w.heap.size, 2, none⟩ (U z2)).setCell ⟨w.heap.size, 3, none⟩ (U z3)) = U2 at *
  have E0 : Hid (U2.cell? ⟨w.heap.size, 0, none⟩ = some (U z0)) := IHolds.cell (l := [U z0, U z1, U z2, U z3]) (t := 73) (b := w.heap.size) (w := U2) Jr.out 0 (by simp)
  have E1 : Hid (U2.cell? ⟨w.heap.size, 1, none⟩ = some (U z1)) := IHolds.cell (l := [U z0, U z1, U z2, U z3]) (t := 73) (b := w.heap.size) (w := U2) Jr.out 1 (by simp)
  have E2 : Hid (U2.cell? ⟨w.heap.size, 2, none⟩ = some (U z2)) := IHolds.cell (l := [U z0, U z1, U z2, U z3]) (t := 73) (b := w.heap.size) (w := U2) Jr.out 2 (by simp)
  have E3 : Hid (U2.cell? ⟨w.heap.size, 3, none⟩ = some (U z3)) := IHolds.cell (l := [U z0, U z1, U z2, U z3]) (t := 73) (b := w.heap.size) (w := U2) Jr.out 3 (by simp)
  exact bodyPost_ret (v := .tuple #[.agg #[U z0, U z1, U z2, U z3], .int .i64 c]) (by simp [results, Tryz.results31, go_sem, E0.out, E1.out, E2.out, E3.out]) rfl ⟨rfl, B.out⟩
set_option maxRecDepth 100000 in
set_option maxHeartbeats 2000000 in
theorem clos60 {w : World} {g cp : Nat} {s : ByteArray} {z0 z1 z2 z3 : Nat} {c : Int} (Js : Hid (IHolds w cp 9 [.string s])) (C : Hid (∀ W, Below w.heap.size w W → Calls Tryz.prog 36 #[.pointer (some ⟨g, 0, none⟩), .string s] W fun e w' => e = .returned (.tuple #[.agg #[U z0, U z1, U z2, U z3], .int .i64 c]) ∧ Below W.heap.size W w')) :
    Calls Tryz.prog 35 #[.pointer (some ⟨g, 0, none⟩), .pointer (some ⟨cp, 0, none⟩)] w fun e w' => e = .returned (.tuple #[.agg #[U z0, U z1, U z2, U z3], .int .i64 c]) ∧ Below w.heap.size w w' := by
  have ne_s_r := nJ Js
  have hb := nB w (.cells #[.int .u64 0, .int .u64 0, .int .u64 0, .int .u64 0] 73)
  have Jr : Hid (IHolds (w.alloc (.cells #[.int .u64 0, .int .u64 0, .int .u64 0, .int .u64 0] 73)) w.heap.size 73 [.int .u64 0, .int .u64 0, .int .u64 0, .int .u64 0]) := IHolds.new w 73 _
  have B : Hid (Below w.heap.size w (w.alloc (.cells #[.int .u64 0, .int .u64 0, .int .u64 0, .int .u64 0] 73))) := hb
  replace Js := aJ Js hb
  clear hb
  have zs0 : (w.alloc (.cells #[.int .u64 0, .int .u64 0, .int .u64 0, .int .u64 0] 73)).cell? ⟨cp, 0, none⟩ = some (.string s) := Js.out.cell 0 (by simp)
  go_enter Tryz.func35, Tryz.ntmps35
  go_wp2_with fail
  clear zs0
  generalize (w.alloc (.cells #[.int .u64 0, .int .u64 0, .int .u64 0, .int .u64 0] 73)) = V0 at *
  refine (C.out V0 B.out).mono ?_
  rintro e U1 ⟨rfl, hb⟩
  replace B := aB B hb
  replace Js := aJ Js hb
  replace Jr := aJ Jr hb
  clear hb
  have zr_0 : U1.cell? ⟨w.heap.size, 0, none⟩ = some (.int .u64 0) := IHolds.cell (l := [.int .u64 0, .int .u64 0, .int .u64 0, .int .u64 0]) (t := 73) (b := w.heap.size) (w := U1) (Jr.out) 0 (by simp)
  have zr_1 : U1.cell? ⟨w.heap.size, 1, none⟩ = some (.int .u64 0) := IHolds.cell (l := [.int .u64 0, .int .u64 0, .int .u64 0, .int .u64 0]) (t := 73) (b := w.heap.size) (w := U1) (Jr.out) 1 (by simp)
  have zr_2 : U1.cell? ⟨w.heap.size, 2, none⟩ = some (.int .u64 0) := IHolds.cell (l := [.int .u64 0, .int .u64 0, .int .u64 0, .int .u64 0]) (t := 73) (b := w.heap.size) (w := U1) (Jr.out) 2 (by simp)
  have zr_3 : U1.cell? ⟨w.heap.size, 3, none⟩ = some (.int .u64 0) := IHolds.cell (l := [.int .u64 0, .int .u64 0, .int .u64 0, .int .u64 0]) (t := 73) (b := w.heap.size) (w := U1) (Jr.out) 3 (by simp)
  have f0 := fJ Jr
  have hBut : But (w.heap.size) U1 ((((U1.setCell ⟨w.heap.size, 0, none⟩ (U z0)).setCell ⟨w.heap.size, 1, none⟩ (U z1)).setCell ⟨w.heap.size, 2, none⟩ (U z2)).setCell ⟨w.heap.size, 3, none⟩ (U z3)) := (((((But.refl _ U1).setCell 0 (U z0)).setCell 1 (U z1)).setCell 2 (U z2)).setCell 3 (U z3))
  have I4 : Hid (IHolds _ (w.heap.size) 73 [U z0, U z1, U z2, U z3]) := ((((Jr.out.set 0 (U z0)).set 1 (U z1)).set 2 (U z2)).set 3 (U z3))
  replace B : Hid (Below w.heap.size w ((((U1.setCell ⟨w.heap.size, 0, none⟩ (U z0)).setCell ⟨w.heap.size, 1, none⟩ (U z1)).setCell ⟨w.heap.size, 2, none⟩ (U z2)).setCell ⟨w.heap.size, 3, none⟩ (U z3))) := ((((B.out.setCell (by first | exact Nat.le_refl _ | exact ge_r.out | (show w.heap.size ≤ w.heap.size; omega)) _).setCell (by first | exact Nat.le_refl _ | exact ge_r.out | (show w.heap.size ≤ w.heap.size; omega)) _).setCell (by first | exact Nat.le_refl _ | exact ge_r.out | (show w.heap.size ≤ w.heap.size; omega)) _).setCell (by first | exact Nat.le_refl _ | exact ge_r.out | (show w.heap.size ≤ w.heap.size; omega)) _)
  replace Js := tJ Js hBut ne_s_r.out
  replace Jr := I4
  clear I4 hBut
  go_wp2_with fail
  clear zr_0 zr_1 zr_2 zr_3
  clear f0
  generalize ((((U1.setCell ⟨w.heap.size, 0, none⟩ (U z0)).setCell ⟨w.heap.size, 1, none⟩ (U z1)).setCell ⟨w.heap.size, 2, none⟩ (U z2)).setCell ⟨w.heap.size, 3, none⟩ (U z3)) = U2 at *
  have E0 : Hid (U2.cell? ⟨w.heap.size, 0, none⟩ = some (U z0)) := IHolds.cell (l := [U z0, U z1, U z2, U z3]) (t := 73) (b := w.heap.size) (w := U2) Jr.out 0 (by simp)
  have E1 : Hid (U2.cell? ⟨w.heap.size, 1, none⟩ = some (U z1)) := IHolds.cell (l := [U z0, U z1, U z2, U z3]) (t := 73) (b := w.heap.size) (w := U2) Jr.out 1 (by simp)
  have E2 : Hid (U2.cell? ⟨w.heap.size, 2, none⟩ = some (U z2)) := IHolds.cell (l := [U z0, U z1, U z2, U z3]) (t := 73) (b := w.heap.size) (w := U2) Jr.out 2 (by simp)
  have E3 : Hid (U2.cell? ⟨w.heap.size, 3, none⟩ = some (U z3)) := IHolds.cell (l := [U z0, U z1, U z2, U z3]) (t := 73) (b := w.heap.size) (w := U2) Jr.out 3 (by simp)
  exact bodyPost_ret (v := .tuple #[.agg #[U z0, U z1, U z2, U z3], .int .i64 c]) (by simp [results, Tryz.results35, go_sem, E0.out, E1.out, E2.out, E3.out]) rfl ⟨rfl, B.out⟩
set_option maxRecDepth 100000 in
set_option maxHeartbeats 2000000 in
theorem clos52 {w : World} {g cp : Nat} {z : Int} {v0 v1 v2 v3 : Nat} {t : ByteArray} (Jn : Hid (IHolds w cp 3 [.int .i64 z])) (C1 : Hid (∀ W, Below w.heap.size w W → Calls Tryz.prog 130 #[.pointer (some ⟨g, 1, none⟩), .int .i64 z] W fun e w' => e = .returned (.agg #[U v0, U v1, U v2, U v3]) ∧ Below W.heap.size W w')) (C2 : Hid (∀ W, Below w.heap.size w W → Calls Tryz.prog 65 #[.pointer (some ⟨g, 0, none⟩), .agg #[U v0, U v1, U v2, U v3]] W fun e w' => e = .returned (.tuple #[.string t, .int .i64 0]) ∧ Below W.heap.size W w')) :
    Calls Tryz.prog 129 #[.pointer (some ⟨g, 0, none⟩), .pointer (some ⟨cp, 0, none⟩)] w fun e w' => e = .returned (.tuple #[.string t, .int .i64 0]) ∧ Below w.heap.size w w' := by
  have B : Hid (Below w.heap.size w w) := Below.refl _ _
  go_enter Tryz.func129, Tryz.ntmps129
  go_wp2_with fail
  have hb := dB w
  replace B := aB B hb
  replace Jn := aJ Jn hb
  clear hb
  refine wp_region_held_drew (S := fun W => (IHolds W (cp) 3 [(.int .i64 z)])) (by kernel_rfl) Jn.out (fun hHeld1 => ?_)
  generalize w.drew = U1 at *
  refine tk (i := 0) (v := .pointer (some ⟨g, 0, none⟩)) rfl (by kernel_rfl) (fun _ _ _ h => h) rfl ?_ hHeld1 ?_
  · intro W hS; go_simp
  simp only [Act.put, y1, y2, y3, y4, y5, y6, y7]
  refine tk (i := 1) (v := .pointer (some ⟨g, 0, none⟩)) rfl (by kernel_rfl) (fun _ _ _ h => h) rfl ?_ hHeld1 ?_
  · intro W hS; go_simp
  simp only [Act.put, y1, y2, y3, y4, y5, y6, y7]
  refine tk (i := 4) (v := (.int .i64 z)) rfl (by kernel_rfl) (fun _ _ _ h => h) rfl ?_ hHeld1 ?_
  · intro W hS; have zn_0 : W.cell? ⟨cp, 0, none⟩ = some ((.int .i64 z)) := IHolds.cell (l := [(.int .i64 z)]) (t := 3) (b := cp) (w := W) (hS) 0 (by simp); go_simp
  simp only [Act.put, y1, y2, y3, y4, y5, y6, y7]
  refine tk (i := 2) (v := .pointer (some ⟨g, 0, none⟩)) rfl (by kernel_rfl) (fun _ _ _ h => h) rfl ?_ hHeld1 ?_
  · intro W hS; go_simp
  simp only [Act.put, y1, y2, y3, y4, y5, y6, y7]
  refine tk (i := 3) (v := .pointer (some ⟨g, 1, none⟩)) rfl (by kernel_rfl) (fun _ _ _ h => h) rfl ?_ hHeld1 ?_
  · intro W hS; go_simp
  simp only [Act.put, y1, y2, y3, y4, y5, y6, y7]
  refine wpAnyH_ready (rs := [5]) (by kernel_rfl) (by simp) ?_
  refine AllReadyH.cons rfl (fun K hK => ?_) AllReadyH.nil
  clear hHeld1
  go_simp
  refine (C1.out U1 B.out).mono ?_
  rintro e U2 ⟨rfl, hb⟩
  replace B := aB B hb
  replace Jn := aJ Jn hb
  clear hb
  go_wp2_with fail
  refine hK.out _ _ (Jn.out) (fun hHeld2 => ?_)
  clear hK K
  try simp only [Act.put, y1, y2, y3, y4, y5, y6, y7]
  refine wpAnyH_ready (rs := [6]) (by kernel_rfl) (by simp) ?_
  refine AllReadyH.cons rfl (fun K hK => ?_) AllReadyH.nil
  clear hHeld2
  go_simp
  refine (C2.out U2 B.out).mono ?_
  rintro e U3 ⟨rfl, hb⟩
  replace B := aB B hb
  replace Jn := aJ Jn hb
  clear hb
  go_wp2_with fail
  refine hK.out _ _ (Jn.out) (fun hHeld3 => ?_)
  clear hK K
  try simp only [Act.put, y1, y2, y3, y4, y5, y6, y7]
  refine tk (i := 7) (v := (.string t)) rfl (by kernel_rfl) (fun _ _ _ h => h) rfl ?_ hHeld3 ?_
  · intro W hS; go_simp
  simp only [Act.put, y1, y2, y3, y4, y5, y6, y7]
  refine tk (i := 8) (v := (.int .i64 0)) rfl (by kernel_rfl) (fun _ _ _ h => h) rfl ?_ hHeld3 ?_
  · intro W hS; go_simp
  simp only [Act.put, y1, y2, y3, y4, y5, y6, y7]
  refine tk (i := 9) (v := (.string t)) rfl (by kernel_rfl) (fun _ _ _ h => h) rfl ?_ hHeld3 ?_
  · intro W hS; go_simp
  simp only [Act.put, y1, y2, y3, y4, y5, y6, y7]
  refine tk (i := 10) (v := (.int .i64 0)) rfl (by kernel_rfl) (fun _ _ _ h => h) rfl ?_ hHeld3 ?_
  · intro W hS; go_simp
  simp only [Act.put, y1, y2, y3, y4, y5, y6, y7]
  refine wpAnyH_done (by kernel_rfl) ?_ _
  clear hHeld3
  go_wp2_with fail
  go_ret2
  exact ⟨rfl, B.out⟩
set_option maxRecDepth 100000 in
set_option maxHeartbeats 2000000 in
theorem scalar_face {w : World} {z c : Int} {s : ByteArray} {z0 z1 z2 z3 : Nat} {t : Bool} (ht : (c == 0) = t)
    (C : Hid (∀ W cp, IHolds W cp 9 [.string s] → Calls Tryz.prog 30 #[.int .i64 z, .func (.func 31) #[] #[.pointer (some ⟨cp, 0, none⟩)]] W fun e w' => e = .returned (.tuple #[.agg #[U z0, U z1, U z2, U z3], .int .i64 c]) ∧ Below W.heap.size W w')) :
    Calls Tryz.prog 14 #[.int .i64 z, .string s] w fun e w' => e = .returned (.bool t) ∧ Below w.heap.size w w' := by
  have hb := nB w (.cells #[.string s] 9)
  have Js : Hid (IHolds (w.alloc (.cells #[.string s] 9)) w.heap.size 9 [.string s]) := IHolds.new w 9 _
  have B : Hid (Below w.heap.size w (w.alloc (.cells #[.string s] 9))) := hb
  clear hb
  go_enter Tryz.func14, Tryz.ntmps14
  go_wp2_with fail
  generalize w.alloc (.cells #[.string s] 9) = V0 at *
  refine (C.out V0 _ Js.out).mono ?_
  rintro e U1 ⟨rfl, hb⟩
  replace B := aB B hb
  clear hb Js
  replace B := aB B (nB U1 (.cells #[U z0, U z1, U z2, U z3] 73))
  go_wp2_with fail
  go_ret
  exact ⟨rfl, B.out⟩
set_option maxRecDepth 100000 in
set_option maxHeartbeats 2000000 in
theorem member_face {w : World} {z c : Int} {s : ByteArray} {z0 z1 z2 z3 : Nat} {t : Bool} (ht : (c == 0) = t)
    (C : Hid (∀ W cp, IHolds W cp 9 [.string s] → Calls Tryz.prog 30 #[.int .i64 z, .func (.func 35) #[] #[.pointer (some ⟨cp, 0, none⟩)]] W fun e w' => e = .returned (.tuple #[.agg #[U z0, U z1, U z2, U z3], .int .i64 c]) ∧ Below W.heap.size W w')) :
    Calls Tryz.prog 16 #[.int .i64 z, .string s] w fun e w' => e = .returned (.bool t) ∧ Below w.heap.size w w' := by
  have hb := nB w (.cells #[.string s] 9)
  have Js : Hid (IHolds (w.alloc (.cells #[.string s] 9)) w.heap.size 9 [.string s]) := IHolds.new w 9 _
  have B : Hid (Below w.heap.size w (w.alloc (.cells #[.string s] 9))) := hb
  clear hb
  go_enter Tryz.func16, Tryz.ntmps16
  go_wp2_with fail
  generalize w.alloc (.cells #[.string s] 9) = V0 at *
  refine (C.out V0 _ Js.out).mono ?_
  rintro e U1 ⟨rfl, hb⟩
  replace B := aB B hb
  clear hb Js
  replace B := aB B (nB U1 (.cells #[U z0, U z1, U z2, U z3] 73))
  go_wp2_with fail
  go_ret
  exact ⟨rfl, B.out⟩
set_option maxRecDepth 100000 in
set_option maxHeartbeats 2000000 in
theorem number_face {w : World} {z c : Int} {n : Int} {t : ByteArray}
    (C : Hid (∀ W cp, IHolds W cp 3 [.int .i64 n] → Calls Tryz.prog 33 #[.int .i64 z, .func (.func 129) #[] #[.pointer (some ⟨cp, 0, none⟩)]] W fun e w' => e = .returned (.tuple #[.string t, .int .i64 c]) ∧ Below W.heap.size W w')) :
    Calls Tryz.prog 99 #[.int .i64 z, .int .i64 n] w fun e w' => e = .returned (.tuple #[.string t, .int .i64 c]) ∧ Below w.heap.size w w' := by
  have hb := nB w (.cells #[.int .i64 n] 3)
  have Js : Hid (IHolds (w.alloc (.cells #[.int .i64 n] 3)) w.heap.size 3 [.int .i64 n]) := IHolds.new w 3 _
  have B : Hid (Below w.heap.size w (w.alloc (.cells #[.int .i64 n] 3))) := hb
  clear hb
  go_enter Tryz.func99, Tryz.ntmps99
  go_wp2_with fail
  generalize w.alloc (.cells #[.int .i64 n] 3) = V0 at *
  refine (C.out V0 _ Js.out).mono ?_
  rintro e U1 ⟨rfl, hb⟩
  replace B := aB B hb
  clear hb Js
  go_wp2_with fail
  go_ret2
  exact ⟨rfl, B.out⟩
end Go.Proofs.YtmpiipcllgjhdaaGreatDoor

/- The reference's kinds. -/
namespace Go.Proofs.YtmpiipcllgjhdaaGreatDoor
open Go.RowKit Go.Deep Go.PlainAid

theorem len_lt {n k : Nat} (h : n < 65536 ^ k) : (dg 65536 n).length ≤ k := dg_len_le b16 k n h
theorem A4_zero : Value.agg #[.int .u64 0, .int .u64 0, .int .u64 0, .int .u64 0] = A4 0 := A4_small (k := 0) BB_pos
theorem pow32 {n : Nat} (h : n ≤ 32) : 256 ^ n ≤ BB ^ 4 := by
  rw [BB_256, ← Nat.pow_mul]
  exact Nat.pow_le_pow_right (by omega) (by omega)
theorem numS_small {s : ByteArray} (h : s.size ≤ 32) : numS s < BB ^ 4 := Nat.lt_of_lt_of_le (numS_lt s) (pow32 h)
theorem w4_all_zero {n : Nat} (h : n < BB ^ 4) : (w4 n 0 = 0 ∧ w4 n 1 = 0 ∧ w4 n 2 = 0 ∧ w4 n 3 = 0) ↔ n = 0 := by
  constructor
  · rintro ⟨h0, h1, h2, h3⟩
    have := vl_w4 h
    rw [h0, h1, h2, h3] at this
    simpa [vl] using this.symm
  · rintro rfl
    simp [w4]
theorem lessT (w : World) {n m : Nat} (hn : n < BB ^ 4) (hm : m < BB ^ 4) (h : n < m) : Calls Tryz.prog 64 #[A4 n, A4 m] w fun e w' => e = .returned (.bool true) ∧ Below w.heap.size w w' := by
  have := lessA w hn hm
  rw [decide_eq_true h] at this
  exact this
theorem lessF (w : World) {n m : Nat} (hn : n < BB ^ 4) (hm : m < BB ^ 4) (h : ¬ n < m) : Calls Tryz.prog 64 #[A4 n, A4 m] w fun e w' => e = .returned (.bool false) ∧ Below w.heap.size w w' := by
  have := lessA w hn hm
  rw [decide_eq_false h] at this
  exact this
/-- Is it a scalar, is it an element? -/
def isSc (S M : Nat) (s : ByteArray) : Bool := decide (s.size = S ∧ numS s < M)
def isEl (S M : Nat) (s : ByteArray) : Bool := decide (s.size = S ∧ numS s ≠ 0 ∧ numS s ≤ M)
theorem size_ne {s : ByteArray} {S : Nat} (h : ¬ s.size = S) : ((s.size : Int) == (S : Int)) = false := by
  rw [beq_eq_false_iff_ne]; omega
theorem scalarA {w : World} {g S Wd M low one sq Wd2 M2 low2 one2 sq2 : Nat} (F : Hid (GH w g S Wd M low one sq Wd2 M2 low2 one2 sq2)) (s : ByteArray) (hS : S ≤ 32) (hM : M < BB ^ 4) :
    Calls Tryz.prog 32 #[.pointer (some ⟨g, 0, none⟩), .string s] w fun e w' => e = .returned (.tuple #[A4 (if isSc S M s then numS s else 0), .int .i64 (if isSc S M s then 0 else 6)]) ∧ Below w.heap.size w w' := by
  by_cases h : s.size = S
  · have hn := numS_small (s := s) (by omega)
    by_cases h2 : numS s < M
    · have e : isSc S M s = true := by unfold isSc; exact decide_eq_true ⟨h, h2⟩
      rw [e, if_pos rfl, if_pos rfl]
      exact scalar_is F h.symm (fun W => numberOf_any W s (by omega)) (fun W => lessT W hn hM h2)
    · have e : isSc S M s = false := by unfold isSc; exact decide_eq_false (fun q => h2 q.2)
      rw [e, if_neg (by simp), if_neg (by simp), ← A4_zero]
      exact scalar_not F h.symm (fun W => numberOf_any W s (by omega)) (fun W => lessF W hn hM h2)
  · have e : isSc S M s = false := by unfold isSc; exact decide_eq_false (fun q => h q.1)
    rw [e, if_neg (by simp), if_neg (by simp), ← A4_zero]
    exact scalar_no F (size_ne h)
theorem elemA {w : World} {g S Wd M low one sq Wd2 M2 low2 one2 sq2 : Nat} (F : Hid (GH w g S Wd M low one sq Wd2 M2 low2 one2 sq2)) (s : ByteArray) (hS : S ≤ 32) (hM : M < BB ^ 4) :
    Calls Tryz.prog 36 #[.pointer (some ⟨g, 0, none⟩), .string s] w fun e w' => e = .returned (.tuple #[A4 (if isEl S M s then numS s else 0), .int .i64 (if isEl S M s then 0 else 7)]) ∧ Below w.heap.size w w' := by
  by_cases h : s.size = S
  · have hn := numS_small (s := s) (by omega)
    by_cases h0 : numS s = 0
    · have e : isEl S M s = false := by unfold isEl; exact decide_eq_false (fun q => q.2.1 h0)
      rw [e, if_neg (by simp), if_neg (by simp), ← A4_zero]
      exact elem_zero F h.symm (fun W => numberOf_any W s (by omega)) (decide_eq_true ((w4_all_zero hn).2 h0))
    · have hz := decide_eq_false (p := _ ∧ _) (fun q => h0 ((w4_all_zero hn).1 q))
      by_cases h2 : M < numS s
      · have e : isEl S M s = false := by unfold isEl; exact decide_eq_false (fun q => by have := q.2.2; omega)
        rw [e, if_neg (by simp), if_neg (by simp), ← A4_zero]
        exact elem_not F h.symm (fun W => numberOf_any W s (by omega)) (fun W => lessT W hM hn h2) hz
      · have e : isEl S M s = true := by unfold isEl; exact decide_eq_true ⟨h, h0, by omega⟩
        rw [e, if_pos rfl, if_pos rfl]
        exact elem_is F h.symm (fun W => numberOf_any W s (by omega)) (fun W => lessF W hM hn h2) hz
  · have e : isEl S M s = false := by unfold isEl; exact decide_eq_false (fun q => h q.1)
    rw [e, if_neg (by simp), if_neg (by simp), ← A4_zero]
    exact elem_no F (size_ne h)
theorem toldA {w : World} {g S n : Nat} (hg : w.cell? ⟨g, 0, none⟩ = some (.int .i64 (S : Int))) (hS : S ≤ 32) (hn : n < BB ^ 4) :
    Calls Tryz.prog 65 #[.pointer (some ⟨g, 0, none⟩), A4 n] w fun e w' => e = .returned (.tuple #[.string ⟨(beB S n).toArray⟩, .int .i64 0]) ∧ Below w.heap.size w w' := by
  have := told_any hg (x0 := w4 n 0) (x1 := w4 n 1) (x2 := w4 n 2) (x3 := w4 n 3) (w4_lt n 0) (w4_lt n 1) (w4_lt n 2) (w4_lt n 3) hS
  rw [show NB (w4 n 0) (w4 n 1) (w4 n 2) (w4 n 3) = n from vl_w4 hn] at this
  exact this
/-! The reference's. -/
theorem subF_lt {M a b : Nat} (ha : a < M) (hb : b < M) : subF M a b < M := by unfold subF; split <;> omega
theorem numF_lt {M : Nat} {z : Int} (hM : 2 ≤ M) : numF M z < M := by
  unfold numF
  split
  · exact subF_lt (by omega) (Nat.mod_lt _ (by omega))
  · exact Nat.mod_lt _ (by omega)
set_option maxRecDepth 100000 in
theorem gh1 (W : World) (g : Nat) (h : IHolds W g 111 gr1.toList) : GH W g 2 1 641 28778071877862015 1 1 1 1283 690135397925220949 989 475 := by
  refine ⟨by have := h.cell 0 (by decide); exact this, ?_, ?_⟩
  · exact ⟨by have := h.cell 1 (by decide); exact this, (by have := h.cell 2 (by decide); rw [show w4 641 0 = 641 from by decide +kernel]; exact this), (by have := h.cell 3 (by decide); rw [show w4 641 1 = 0 from by decide +kernel]; exact this), (by have := h.cell 4 (by decide); rw [show w4 641 2 = 0 from by decide +kernel]; exact this), (by have := h.cell 5 (by decide); rw [show w4 641 3 = 0 from by decide +kernel]; exact this), by have := h.cell 6 (by decide); exact this, (by have := h.cell 7 (by decide); rw [show w4 1 0 = 1 from by decide +kernel]; exact this), (by have := h.cell 8 (by decide); rw [show w4 1 1 = 0 from by decide +kernel]; exact this), (by have := h.cell 9 (by decide); rw [show w4 1 2 = 0 from by decide +kernel]; exact this), (by have := h.cell 10 (by decide); rw [show w4 1 3 = 0 from by decide +kernel]; exact this), (by have := h.cell 11 (by decide); rw [show w4 1 0 = 1 from by decide +kernel]; exact this), (by have := h.cell 12 (by decide); rw [show w4 1 1 = 0 from by decide +kernel]; exact this), (by have := h.cell 13 (by decide); rw [show w4 1 2 = 0 from by decide +kernel]; exact this), (by have := h.cell 14 (by decide); rw [show w4 1 3 = 0 from by decide +kernel]; exact this)⟩
  · exact ⟨by have := h.cell 15 (by decide); exact this, (by have := h.cell 16 (by decide); rw [show w4 1283 0 = 1283 from by decide +kernel]; exact this), (by have := h.cell 17 (by decide); rw [show w4 1283 1 = 0 from by decide +kernel]; exact this), (by have := h.cell 18 (by decide); rw [show w4 1283 2 = 0 from by decide +kernel]; exact this), (by have := h.cell 19 (by decide); rw [show w4 1283 3 = 0 from by decide +kernel]; exact this), by have := h.cell 20 (by decide); exact this, (by have := h.cell 21 (by decide); rw [show w4 989 0 = 989 from by decide +kernel]; exact this), (by have := h.cell 22 (by decide); rw [show w4 989 1 = 0 from by decide +kernel]; exact this), (by have := h.cell 23 (by decide); rw [show w4 989 2 = 0 from by decide +kernel]; exact this), (by have := h.cell 24 (by decide); rw [show w4 989 3 = 0 from by decide +kernel]; exact this), (by have := h.cell 25 (by decide); rw [show w4 475 0 = 475 from by decide +kernel]; exact this), (by have := h.cell 26 (by decide); rw [show w4 475 1 = 0 from by decide +kernel]; exact this), (by have := h.cell 27 (by decide); rw [show w4 475 2 = 0 from by decide +kernel]; exact this), (by have := h.cell 28 (by decide); rw [show w4 475 3 = 0 from by decide +kernel]; exact this)⟩
set_option maxRecDepth 100000 in
theorem gh2 (W : World) (g : Nat) (h : IHolds W g 111 gr2.toList) : GH W g 8 1 576465431670292481 14411523486952456191 576315691930484705 164727685076202836 1 1152930863340584963 2177741659672237397 1152781123600777171 169519337302233854 := by
  refine ⟨by have := h.cell 0 (by decide); exact this, ?_, ?_⟩
  · exact ⟨by have := h.cell 1 (by decide); exact this, (by have := h.cell 2 (by decide); rw [show w4 576465431670292481 0 = 576465431670292481 from by decide +kernel]; exact this), (by have := h.cell 3 (by decide); rw [show w4 576465431670292481 1 = 0 from by decide +kernel]; exact this), (by have := h.cell 4 (by decide); rw [show w4 576465431670292481 2 = 0 from by decide +kernel]; exact this), (by have := h.cell 5 (by decide); rw [show w4 576465431670292481 3 = 0 from by decide +kernel]; exact this), by have := h.cell 6 (by decide); exact this, (by have := h.cell 7 (by decide); rw [show w4 576315691930484705 0 = 576315691930484705 from by decide +kernel]; exact this), (by have := h.cell 8 (by decide); rw [show w4 576315691930484705 1 = 0 from by decide +kernel]; exact this), (by have := h.cell 9 (by decide); rw [show w4 576315691930484705 2 = 0 from by decide +kernel]; exact this), (by have := h.cell 10 (by decide); rw [show w4 576315691930484705 3 = 0 from by decide +kernel]; exact this), (by have := h.cell 11 (by decide); rw [show w4 164727685076202836 0 = 164727685076202836 from by decide +kernel]; exact this), (by have := h.cell 12 (by decide); rw [show w4 164727685076202836 1 = 0 from by decide +kernel]; exact this), (by have := h.cell 13 (by decide); rw [show w4 164727685076202836 2 = 0 from by decide +kernel]; exact this), (by have := h.cell 14 (by decide); rw [show w4 164727685076202836 3 = 0 from by decide +kernel]; exact this)⟩
  · exact ⟨by have := h.cell 15 (by decide); exact this, (by have := h.cell 16 (by decide); rw [show w4 1152930863340584963 0 = 1152930863340584963 from by decide +kernel]; exact this), (by have := h.cell 17 (by decide); rw [show w4 1152930863340584963 1 = 0 from by decide +kernel]; exact this), (by have := h.cell 18 (by decide); rw [show w4 1152930863340584963 2 = 0 from by decide +kernel]; exact this), (by have := h.cell 19 (by decide); rw [show w4 1152930863340584963 3 = 0 from by decide +kernel]; exact this), by have := h.cell 20 (by decide); exact this, (by have := h.cell 21 (by decide); rw [show w4 1152781123600777171 0 = 1152781123600777171 from by decide +kernel]; exact this), (by have := h.cell 22 (by decide); rw [show w4 1152781123600777171 1 = 0 from by decide +kernel]; exact this), (by have := h.cell 23 (by decide); rw [show w4 1152781123600777171 2 = 0 from by decide +kernel]; exact this), (by have := h.cell 24 (by decide); rw [show w4 1152781123600777171 3 = 0 from by decide +kernel]; exact this), (by have := h.cell 25 (by decide); rw [show w4 169519337302233854 0 = 169519337302233854 from by decide +kernel]; exact this), (by have := h.cell 26 (by decide); rw [show w4 169519337302233854 1 = 0 from by decide +kernel]; exact this), (by have := h.cell 27 (by decide); rw [show w4 169519337302233854 2 = 0 from by decide +kernel]; exact this), (by have := h.cell 28 (by decide); rw [show w4 169519337302233854 3 = 0 from by decide +kernel]; exact this)⟩
set_option maxRecDepth 100000 in
theorem gh3 (W : World) (g : Nat) (h : IHolds W g 111 gr3.toList) : GH W g 32 4 7237005577332262213973186563042995786902308146886443998308627866733439352833 18446744073709551615 7237005577332262213973186563042971049735362462343904064828166006911539347441 7237005577332262213973055834329441520127728155767444907515600161428691746049 4 14474011154664524427946373126085991573804616293772887996617255733466878705667 6148914691236517205 14474011154664524427946373126085966836637670609230348063136793873644978700267 14474011154664524427946242397372833101701167255334527841511617785270253517891 := by
  refine ⟨by have := h.cell 0 (by decide); exact this, ?_, ?_⟩
  · exact ⟨by have := h.cell 1 (by decide); exact this, (by have := h.cell 2 (by decide); rw [show w4 7237005577332262213973186563042995786902308146886443998308627866733439352833 0 = 1 from by decide +kernel]; exact this), (by have := h.cell 3 (by decide); rw [show w4 7237005577332262213973186563042995786902308146886443998308627866733439352833 1 = 9223372036854775808 from by decide +kernel]; exact this), (by have := h.cell 4 (by decide); rw [show w4 7237005577332262213973186563042995786902308146886443998308627866733439352833 2 = 4543 from by decide +kernel]; exact this), (by have := h.cell 5 (by decide); rw [show w4 7237005577332262213973186563042995786902308146886443998308627866733439352833 3 = 1152921504606846976 from by decide +kernel]; exact this), by have := h.cell 6 (by decide); exact this, (by have := h.cell 7 (by decide); rw [show w4 7237005577332262213973186563042971049735362462343904064828166006911539347441 0 = 18446744073709551601 from by decide +kernel]; exact this), (by have := h.cell 8 (by decide); rw [show w4 7237005577332262213973186563042971049735362462343904064828166006911539347441 1 = 9223372036854775807 from by decide +kernel]; exact this), (by have := h.cell 9 (by decide); rw [show w4 7237005577332262213973186563042971049735362462343904064828166006911539347441 2 = 18446744073709483463 from by decide +kernel]; exact this), (by have := h.cell 10 (by decide); rw [show w4 7237005577332262213973186563042971049735362462343904064828166006911539347441 3 = 1152921504606846975 from by decide +kernel]; exact this), (by have := h.cell 11 (by decide); rw [show w4 7237005577332262213973055834329441520127728155767444907515600161428691746049 0 = 18446743989154217217 from by decide +kernel]; exact this), (by have := h.cell 12 (by decide); rw [show w4 7237005577332262213973055834329441520127728155767444907515600161428691746049 1 = 9223372036854775807 from by decide +kernel]; exact this), (by have := h.cell 13 (by decide); rw [show w4 7237005577332262213973055834329441520127728155767444907515600161428691746049 2 = 18446359896548872895 from by decide +kernel]; exact this), (by have := h.cell 14 (by decide); rw [show w4 7237005577332262213973055834329441520127728155767444907515600161428691746049 3 = 1152921504606846975 from by decide +kernel]; exact this)⟩
  · exact ⟨by have := h.cell 15 (by decide); exact this, (by have := h.cell 16 (by decide); rw [show w4 14474011154664524427946373126085991573804616293772887996617255733466878705667 0 = 3 from by decide +kernel]; exact this), (by have := h.cell 17 (by decide); rw [show w4 14474011154664524427946373126085991573804616293772887996617255733466878705667 1 = 0 from by decide +kernel]; exact this), (by have := h.cell 18 (by decide); rw [show w4 14474011154664524427946373126085991573804616293772887996617255733466878705667 2 = 9087 from by decide +kernel]; exact this), (by have := h.cell 19 (by decide); rw [show w4 14474011154664524427946373126085991573804616293772887996617255733466878705667 3 = 2305843009213693952 from by decide +kernel]; exact this), by have := h.cell 20 (by decide); exact this, (by have := h.cell 21 (by decide); rw [show w4 14474011154664524427946373126085966836637670609230348063136793873644978700267 0 = 18446744073709551595 from by decide +kernel]; exact this), (by have := h.cell 22 (by decide); rw [show w4 14474011154664524427946373126085966836637670609230348063136793873644978700267 1 = 18446744073709551615 from by decide +kernel]; exact this), (by have := h.cell 23 (by decide); rw [show w4 14474011154664524427946373126085966836637670609230348063136793873644978700267 2 = 18446744073709488006 from by decide +kernel]; exact this), (by have := h.cell 24 (by decide); rw [show w4 14474011154664524427946373126085966836637670609230348063136793873644978700267 3 = 2305843009213693951 from by decide +kernel]; exact this), (by have := h.cell 25 (by decide); rw [show w4 14474011154664524427946242397372833101701167255334527841511617785270253517891 0 = 18446743946876550211 from by decide +kernel]; exact this), (by have := h.cell 26 (by decide); rw [show w4 14474011154664524427946242397372833101701167255334527841511617785270253517891 1 = 18446744073709551615 from by decide +kernel]; exact this), (by have := h.cell 27 (by decide); rw [show w4 14474011154664524427946242397372833101701167255334527841511617785270253517891 2 = 18446359896550040574 from by decide +kernel]; exact this), (by have := h.cell 28 (by decide); rw [show w4 14474011154664524427946242397372833101701167255334527841511617785270253517891 3 = 2305843009213693951 from by decide +kernel]; exact this)⟩
end Go.Proofs.YtmpiipcllgjhdaaGreatDoor
