/- The closures, and the faces Scalar, Member, Number, Reduce. -/
import Derived.Test.YtohpbclofcflaaaGreatScal
set_option linter.unusedSimpArgs false
set_option linter.unusedVariables false
namespace Go.Proofs.YtohpbclofcflaaaGreat
open Go.RowKit Go.Deep Go.PlainAid

set_option maxRecDepth 100000 in
set_option maxHeartbeats 2000000 in
theorem clos58 {w : World} {g cp : Nat} {s : ByteArray} {z0 z1 z2 z3 : Nat} {c : Int} (Js : Hid (IHolds w cp 9 [.string s])) (C : Hid (∀ W, Below w.heap.size w W → Calls Tryz.prog 57 #[.pointer (some ⟨g, 0, none⟩), .string s] W fun e w' => e = .returned (.tuple #[.agg #[U z0, U z1, U z2, U z3], .int .i64 c]) ∧ Below W.heap.size W w')) :
    Calls Tryz.prog 56 #[.pointer (some ⟨g, 0, none⟩), .pointer (some ⟨cp, 0, none⟩)] w fun e w' => e = .returned (.tuple #[.agg #[U z0, U z1, U z2, U z3], .int .i64 c]) ∧ Below w.heap.size w w' := by
  have ne_s_r := nJ Js
  have hb := nB w (.cells #[.int .u64 0, .int .u64 0, .int .u64 0, .int .u64 0] 81)
  have Jr : Hid (IHolds (w.alloc (.cells #[.int .u64 0, .int .u64 0, .int .u64 0, .int .u64 0] 81)) w.heap.size 81 [.int .u64 0, .int .u64 0, .int .u64 0, .int .u64 0]) := IHolds.new w 81 _
  have B : Hid (Below w.heap.size w (w.alloc (.cells #[.int .u64 0, .int .u64 0, .int .u64 0, .int .u64 0] 81))) := hb
  replace Js := aJ Js hb
  clear hb
  have zs0 : (w.alloc (.cells #[.int .u64 0, .int .u64 0, .int .u64 0, .int .u64 0] 81)).cell? ⟨cp, 0, none⟩ = some (.string s) := Js.out.cell 0 (by simp)
  go_enter Tryz.func56, Tryz.ntmps56
  go_wp2_with fail
  clear zs0
  generalize (w.alloc (.cells #[.int .u64 0, .int .u64 0, .int .u64 0, .int .u64 0] 81)) = V0 at *
  refine (C.out V0 B.out).mono ?_
  rintro e U1 ⟨rfl, hb⟩
  replace B := aB B hb
  replace Js := aJ Js hb
  replace Jr := aJ Jr hb
  clear hb
  have zr_0 : U1.cell? ⟨w.heap.size, 0, none⟩ = some (.int .u64 0) := IHolds.cell (l := [.int .u64 0, .int .u64 0, .int .u64 0, .int .u64 0]) (t := 81) (b := w.heap.size) (w := U1) (Jr.out) 0 (by simp)
  have zr_1 : U1.cell? ⟨w.heap.size, 1, none⟩ = some (.int .u64 0) := IHolds.cell (l := [.int .u64 0, .int .u64 0, .int .u64 0, .int .u64 0]) (t := 81) (b := w.heap.size) (w := U1) (Jr.out) 1 (by simp)
  have zr_2 : U1.cell? ⟨w.heap.size, 2, none⟩ = some (.int .u64 0) := IHolds.cell (l := [.int .u64 0, .int .u64 0, .int .u64 0, .int .u64 0]) (t := 81) (b := w.heap.size) (w := U1) (Jr.out) 2 (by simp)
  have zr_3 : U1.cell? ⟨w.heap.size, 3, none⟩ = some (.int .u64 0) := IHolds.cell (l := [.int .u64 0, .int .u64 0, .int .u64 0, .int .u64 0]) (t := 81) (b := w.heap.size) (w := U1) (Jr.out) 3 (by simp)
  have f0 := fJ Jr
  have hBut : But (w.heap.size) U1 ((((U1.setCell ⟨w.heap.size, 0, none⟩ (U z0)).setCell ⟨w.heap.size, 1, none⟩ (U z1)).setCell ⟨w.heap.size, 2, none⟩ (U z2)).setCell ⟨w.heap.size, 3, none⟩ (U z3)) := (((((But.refl _ U1).setCell 0 (U z0)).setCell 1 (U z1)).setCell 2 (U z2)).setCell 3 (U z3))
  have I4 : Hid (IHolds _ (w.heap.size) 81 [U z0, U z1, U z2, U z3]) := ((((Jr.out.set 0 (U z0)).set 1 (U z1)).set 2 (U z2)).set 3 (U z3))
  replace B : Hid (Below w.heap.size w ((((U1.setCell ⟨w.heap.size, 0, none⟩ (U z0)).setCell ⟨w.heap.size, 1, none⟩ (U z1)).setCell ⟨w.heap.size, 2, none⟩ (U z2)).setCell ⟨w.heap.size, 3, none⟩ (U z3))) := ((((B.out.setCell (by first | exact Nat.le_refl _ | exact ge_r.out | (show w.heap.size ≤ w.heap.size; omega)) _).setCell (by first | exact Nat.le_refl _ | exact ge_r.out | (show w.heap.size ≤ w.heap.size; omega)) _).setCell (by first | exact Nat.le_refl _ | exact ge_r.out | (show w.heap.size ≤ w.heap.size; omega)) _).setCell (by first | exact Nat.le_refl _ | exact ge_r.out | (show w.heap.size ≤ w.heap.size; omega)) _)
  replace Js := tJ Js hBut ne_s_r.out
  replace Jr := I4
  clear I4 hBut
  go_wp2_with fail
  clear zr_0 zr_1 zr_2 zr_3
  clear f0
  generalize ((((U1.setCell ⟨w.heap.size, 0, none⟩ (U z0)).setCell ⟨w.heap.size, 1, none⟩ (U z1)).setCell ⟨w.heap.size, 2, none⟩ (U z2)).setCell ⟨w.heap.size, 3, none⟩ (U z3)) = U2 at *
  have E0 : Hid (U2.cell? ⟨w.heap.size, 0, none⟩ = some (U z0)) := IHolds.cell (l := [U z0, U z1, U z2, U z3]) (t := 81) (b := w.heap.size) (w := U2) Jr.out 0 (by simp)
  have E1 : Hid (U2.cell? ⟨w.heap.size, 1, none⟩ = some (U z1)) := IHolds.cell (l := [U z0, U z1, U z2, U z3]) (t := 81) (b := w.heap.size) (w := U2) Jr.out 1 (by simp)
  have E2 : Hid (U2.cell? ⟨w.heap.size, 2, none⟩ = some (U z2)) := IHolds.cell (l := [U z0, U z1, U z2, U z3]) (t := 81) (b := w.heap.size) (w := U2) Jr.out 2 (by simp)
  have E3 : Hid (U2.cell? ⟨w.heap.size, 3, none⟩ = some (U z3)) := IHolds.cell (l := [U z0, U z1, U z2, U z3]) (t := 81) (b := w.heap.size) (w := U2) Jr.out 3 (by simp)
  exact bodyPost_ret (v := .tuple #[.agg #[U z0, U z1, U z2, U z3], .int .i64 c]) (by simp [results, Tryz.results56, go_sem, E0.out, E1.out, E2.out, E3.out]) rfl ⟨rfl, B.out⟩
set_option maxRecDepth 100000 in
set_option maxHeartbeats 2000000 in
theorem clos60 {w : World} {g cp : Nat} {s : ByteArray} {z0 z1 z2 z3 : Nat} {c : Int} (Js : Hid (IHolds w cp 9 [.string s])) (C : Hid (∀ W, Below w.heap.size w W → Calls Tryz.prog 55 #[.pointer (some ⟨g, 0, none⟩), .string s] W fun e w' => e = .returned (.tuple #[.agg #[U z0, U z1, U z2, U z3], .int .i64 c]) ∧ Below W.heap.size W w')) :
    Calls Tryz.prog 54 #[.pointer (some ⟨g, 0, none⟩), .pointer (some ⟨cp, 0, none⟩)] w fun e w' => e = .returned (.tuple #[.agg #[U z0, U z1, U z2, U z3], .int .i64 c]) ∧ Below w.heap.size w w' := by
  have ne_s_r := nJ Js
  have hb := nB w (.cells #[.int .u64 0, .int .u64 0, .int .u64 0, .int .u64 0] 81)
  have Jr : Hid (IHolds (w.alloc (.cells #[.int .u64 0, .int .u64 0, .int .u64 0, .int .u64 0] 81)) w.heap.size 81 [.int .u64 0, .int .u64 0, .int .u64 0, .int .u64 0]) := IHolds.new w 81 _
  have B : Hid (Below w.heap.size w (w.alloc (.cells #[.int .u64 0, .int .u64 0, .int .u64 0, .int .u64 0] 81))) := hb
  replace Js := aJ Js hb
  clear hb
  have zs0 : (w.alloc (.cells #[.int .u64 0, .int .u64 0, .int .u64 0, .int .u64 0] 81)).cell? ⟨cp, 0, none⟩ = some (.string s) := Js.out.cell 0 (by simp)
  go_enter Tryz.func54, Tryz.ntmps54
  go_wp2_with fail
  clear zs0
  generalize (w.alloc (.cells #[.int .u64 0, .int .u64 0, .int .u64 0, .int .u64 0] 81)) = V0 at *
  refine (C.out V0 B.out).mono ?_
  rintro e U1 ⟨rfl, hb⟩
  replace B := aB B hb
  replace Js := aJ Js hb
  replace Jr := aJ Jr hb
  clear hb
  have zr_0 : U1.cell? ⟨w.heap.size, 0, none⟩ = some (.int .u64 0) := IHolds.cell (l := [.int .u64 0, .int .u64 0, .int .u64 0, .int .u64 0]) (t := 81) (b := w.heap.size) (w := U1) (Jr.out) 0 (by simp)
  have zr_1 : U1.cell? ⟨w.heap.size, 1, none⟩ = some (.int .u64 0) := IHolds.cell (l := [.int .u64 0, .int .u64 0, .int .u64 0, .int .u64 0]) (t := 81) (b := w.heap.size) (w := U1) (Jr.out) 1 (by simp)
  have zr_2 : U1.cell? ⟨w.heap.size, 2, none⟩ = some (.int .u64 0) := IHolds.cell (l := [.int .u64 0, .int .u64 0, .int .u64 0, .int .u64 0]) (t := 81) (b := w.heap.size) (w := U1) (Jr.out) 2 (by simp)
  have zr_3 : U1.cell? ⟨w.heap.size, 3, none⟩ = some (.int .u64 0) := IHolds.cell (l := [.int .u64 0, .int .u64 0, .int .u64 0, .int .u64 0]) (t := 81) (b := w.heap.size) (w := U1) (Jr.out) 3 (by simp)
  have f0 := fJ Jr
  have hBut : But (w.heap.size) U1 ((((U1.setCell ⟨w.heap.size, 0, none⟩ (U z0)).setCell ⟨w.heap.size, 1, none⟩ (U z1)).setCell ⟨w.heap.size, 2, none⟩ (U z2)).setCell ⟨w.heap.size, 3, none⟩ (U z3)) := (((((But.refl _ U1).setCell 0 (U z0)).setCell 1 (U z1)).setCell 2 (U z2)).setCell 3 (U z3))
  have I4 : Hid (IHolds _ (w.heap.size) 81 [U z0, U z1, U z2, U z3]) := ((((Jr.out.set 0 (U z0)).set 1 (U z1)).set 2 (U z2)).set 3 (U z3))
  replace B : Hid (Below w.heap.size w ((((U1.setCell ⟨w.heap.size, 0, none⟩ (U z0)).setCell ⟨w.heap.size, 1, none⟩ (U z1)).setCell ⟨w.heap.size, 2, none⟩ (U z2)).setCell ⟨w.heap.size, 3, none⟩ (U z3))) := ((((B.out.setCell (by first | exact Nat.le_refl _ | exact ge_r.out | (show w.heap.size ≤ w.heap.size; omega)) _).setCell (by first | exact Nat.le_refl _ | exact ge_r.out | (show w.heap.size ≤ w.heap.size; omega)) _).setCell (by first | exact Nat.le_refl _ | exact ge_r.out | (show w.heap.size ≤ w.heap.size; omega)) _).setCell (by first | exact Nat.le_refl _ | exact ge_r.out | (show w.heap.size ≤ w.heap.size; omega)) _)
  replace Js := tJ Js hBut ne_s_r.out
  replace Jr := I4
  clear I4 hBut
  go_wp2_with fail
  clear zr_0 zr_1 zr_2 zr_3
  clear f0
  generalize ((((U1.setCell ⟨w.heap.size, 0, none⟩ (U z0)).setCell ⟨w.heap.size, 1, none⟩ (U z1)).setCell ⟨w.heap.size, 2, none⟩ (U z2)).setCell ⟨w.heap.size, 3, none⟩ (U z3)) = U2 at *
  have E0 : Hid (U2.cell? ⟨w.heap.size, 0, none⟩ = some (U z0)) := IHolds.cell (l := [U z0, U z1, U z2, U z3]) (t := 81) (b := w.heap.size) (w := U2) Jr.out 0 (by simp)
  have E1 : Hid (U2.cell? ⟨w.heap.size, 1, none⟩ = some (U z1)) := IHolds.cell (l := [U z0, U z1, U z2, U z3]) (t := 81) (b := w.heap.size) (w := U2) Jr.out 1 (by simp)
  have E2 : Hid (U2.cell? ⟨w.heap.size, 2, none⟩ = some (U z2)) := IHolds.cell (l := [U z0, U z1, U z2, U z3]) (t := 81) (b := w.heap.size) (w := U2) Jr.out 2 (by simp)
  have E3 : Hid (U2.cell? ⟨w.heap.size, 3, none⟩ = some (U z3)) := IHolds.cell (l := [U z0, U z1, U z2, U z3]) (t := 81) (b := w.heap.size) (w := U2) Jr.out 3 (by simp)
  exact bodyPost_ret (v := .tuple #[.agg #[U z0, U z1, U z2, U z3], .int .i64 c]) (by simp [results, Tryz.results54, go_sem, E0.out, E1.out, E2.out, E3.out]) rfl ⟨rfl, B.out⟩
set_option maxRecDepth 100000 in
set_option maxHeartbeats 2000000 in
theorem clos52 {w : World} {g cp : Nat} {z : Int} {v0 v1 v2 v3 : Nat} {t : ByteArray} (Jn : Hid (IHolds w cp 3 [.int .i64 z])) (C1 : Hid (∀ W, Below w.heap.size w W → Calls Tryz.prog 70 #[.pointer (some ⟨g, 1, none⟩), .int .i64 z] W fun e w' => e = .returned (.agg #[U v0, U v1, U v2, U v3]) ∧ Below W.heap.size W w')) (C2 : Hid (∀ W, Below w.heap.size w W → Calls Tryz.prog 69 #[.pointer (some ⟨g, 0, none⟩), .agg #[U v0, U v1, U v2, U v3]] W fun e w' => e = .returned (.tuple #[.string t, .int .i64 0]) ∧ Below W.heap.size W w')) :
    Calls Tryz.prog 68 #[.pointer (some ⟨g, 0, none⟩), .pointer (some ⟨cp, 0, none⟩)] w fun e w' => e = .returned (.tuple #[.string t, .int .i64 0]) ∧ Below w.heap.size w w' := by
  have B : Hid (Below w.heap.size w w) := Below.refl _ _
  go_enter Tryz.func68, Tryz.ntmps68
  go_wp2_with fail
  have hb := dB w
  replace B := aB B hb
  replace Jn := aJ Jn hb
  clear hb
  refine wp_region_held_drew (S := fun W => (IHolds W (cp) 3 [(.int .i64 z)])) (by kernel_rfl) Jn.out (fun hHeld1 => ?_)
  generalize w.drew = U1 at *
  refine tk (i := 0) (v := .pointer (some ⟨g, 0, none⟩)) rfl (by kernel_rfl) (fun _ _ _ h => h) rfl ?_ hHeld1 ?_
  · intro W hS; go_simp
  simp only [Act.put, y1, y2, y3, y4, y5, y6, y7]
  refine tk (i := 1) (v := .pointer (some ⟨g, 0, none⟩)) rfl (by kernel_rfl) (fun _ _ _ h => h) rfl ?_ hHeld1 ?_
  · intro W hS; go_simp
  simp only [Act.put, y1, y2, y3, y4, y5, y6, y7]
  refine tk (i := 4) (v := (.int .i64 z)) rfl (by kernel_rfl) (fun _ _ _ h => h) rfl ?_ hHeld1 ?_
  · intro W hS; have zn_0 : W.cell? ⟨cp, 0, none⟩ = some ((.int .i64 z)) := IHolds.cell (l := [(.int .i64 z)]) (t := 3) (b := cp) (w := W) (hS) 0 (by simp); go_simp
  simp only [Act.put, y1, y2, y3, y4, y5, y6, y7]
  refine tk (i := 2) (v := .pointer (some ⟨g, 0, none⟩)) rfl (by kernel_rfl) (fun _ _ _ h => h) rfl ?_ hHeld1 ?_
  · intro W hS; go_simp
  simp only [Act.put, y1, y2, y3, y4, y5, y6, y7]
  refine tk (i := 3) (v := .pointer (some ⟨g, 1, none⟩)) rfl (by kernel_rfl) (fun _ _ _ h => h) rfl ?_ hHeld1 ?_
  · intro W hS; go_simp
  simp only [Act.put, y1, y2, y3, y4, y5, y6, y7]
  refine wpAnyH_ready (rs := [5]) (by kernel_rfl) (by simp) ?_
  refine AllReadyH.cons rfl (fun K hK => ?_) AllReadyH.nil
  clear hHeld1
  go_simp
  refine (C1.out U1 B.out).mono ?_
  rintro e U2 ⟨rfl, hb⟩
  replace B := aB B hb
  replace Jn := aJ Jn hb
  clear hb
  go_wp2_with fail
  refine hK.out _ _ (Jn.out) (fun hHeld2 => ?_)
  clear hK K
  try simp only [Act.put, y1, y2, y3, y4, y5, y6, y7]
  refine wpAnyH_ready (rs := [6]) (by kernel_rfl) (by simp) ?_
  refine AllReadyH.cons rfl (fun K hK => ?_) AllReadyH.nil
  clear hHeld2
  go_simp
  refine (C2.out U2 B.out).mono ?_
  rintro e U3 ⟨rfl, hb⟩
  replace B := aB B hb
  replace Jn := aJ Jn hb
  clear hb
  go_wp2_with fail
  refine hK.out _ _ (Jn.out) (fun hHeld3 => ?_)
  clear hK K
  try simp only [Act.put, y1, y2, y3, y4, y5, y6, y7]
  refine tk (i := 7) (v := (.string t)) rfl (by kernel_rfl) (fun _ _ _ h => h) rfl ?_ hHeld3 ?_
  · intro W hS; go_simp
  simp only [Act.put, y1, y2, y3, y4, y5, y6, y7]
  refine tk (i := 8) (v := (.int .i64 0)) rfl (by kernel_rfl) (fun _ _ _ h => h) rfl ?_ hHeld3 ?_
  · intro W hS; go_simp
  simp only [Act.put, y1, y2, y3, y4, y5, y6, y7]
  refine tk (i := 9) (v := (.string t)) rfl (by kernel_rfl) (fun _ _ _ h => h) rfl ?_ hHeld3 ?_
  · intro W hS; go_simp
  simp only [Act.put, y1, y2, y3, y4, y5, y6, y7]
  refine tk (i := 10) (v := (.int .i64 0)) rfl (by kernel_rfl) (fun _ _ _ h => h) rfl ?_ hHeld3 ?_
  · intro W hS; go_simp
  simp only [Act.put, y1, y2, y3, y4, y5, y6, y7]
  refine wpAnyH_done (by kernel_rfl) ?_ _
  clear hHeld3
  go_wp2_with fail
  go_ret2
  exact ⟨rfl, B.out⟩
set_option maxRecDepth 100000 in
set_option maxHeartbeats 2000000 in
theorem scalar_face {w : World} {z c : Int} {s : ByteArray} {z0 z1 z2 z3 : Nat} {t : Bool} (ht : (c == 0) = t)
    (C : Hid (∀ W cp, IHolds W cp 9 [.string s] → Calls Tryz.prog 53 #[.int .i64 z, .func (.func 56) #[] #[.pointer (some ⟨cp, 0, none⟩)]] W fun e w' => e = .returned (.tuple #[.agg #[U z0, U z1, U z2, U z3], .int .i64 c]) ∧ Below W.heap.size W w')) :
    Calls Tryz.prog 34 #[.int .i64 z, .string s] w fun e w' => e = .returned (.bool t) ∧ Below w.heap.size w w' := by
  have hb := nB w (.cells #[.string s] 9)
  have Js : Hid (IHolds (w.alloc (.cells #[.string s] 9)) w.heap.size 9 [.string s]) := IHolds.new w 9 _
  have B : Hid (Below w.heap.size w (w.alloc (.cells #[.string s] 9))) := hb
  clear hb
  go_enter Tryz.func34, Tryz.ntmps34
  go_wp2_with fail
  generalize w.alloc (.cells #[.string s] 9) = V0 at *
  refine (C.out V0 _ Js.out).mono ?_
  rintro e U1 ⟨rfl, hb⟩
  replace B := aB B hb
  clear hb Js
  replace B := aB B (nB U1 (.cells #[U z0, U z1, U z2, U z3] 81))
  go_wp2_with fail
  go_ret
  exact ⟨rfl, B.out⟩
set_option maxRecDepth 100000 in
set_option maxHeartbeats 2000000 in
theorem member_face {w : World} {z c : Int} {s : ByteArray} {z0 z1 z2 z3 : Nat} {t : Bool} (ht : (c == 0) = t)
    (C : Hid (∀ W cp, IHolds W cp 9 [.string s] → Calls Tryz.prog 53 #[.int .i64 z, .func (.func 54) #[] #[.pointer (some ⟨cp, 0, none⟩)]] W fun e w' => e = .returned (.tuple #[.agg #[U z0, U z1, U z2, U z3], .int .i64 c]) ∧ Below W.heap.size W w')) :
    Calls Tryz.prog 33 #[.int .i64 z, .string s] w fun e w' => e = .returned (.bool t) ∧ Below w.heap.size w w' := by
  have hb := nB w (.cells #[.string s] 9)
  have Js : Hid (IHolds (w.alloc (.cells #[.string s] 9)) w.heap.size 9 [.string s]) := IHolds.new w 9 _
  have B : Hid (Below w.heap.size w (w.alloc (.cells #[.string s] 9))) := hb
  clear hb
  go_enter Tryz.func33, Tryz.ntmps33
  go_wp2_with fail
  generalize w.alloc (.cells #[.string s] 9) = V0 at *
  refine (C.out V0 _ Js.out).mono ?_
  rintro e U1 ⟨rfl, hb⟩
  replace B := aB B hb
  clear hb Js
  replace B := aB B (nB U1 (.cells #[U z0, U z1, U z2, U z3] 81))
  go_wp2_with fail
  go_ret
  exact ⟨rfl, B.out⟩
set_option maxRecDepth 100000 in
set_option maxHeartbeats 2000000 in
theorem number_face {w : World} {z c : Int} {n : Int} {t : ByteArray}
    (C : Hid (∀ W cp, IHolds W cp 3 [.int .i64 n] → Calls Tryz.prog 58 #[.int .i64 z, .func (.func 68) #[] #[.pointer (some ⟨cp, 0, none⟩)]] W fun e w' => e = .returned (.tuple #[.string t, .int .i64 c]) ∧ Below W.heap.size W w')) :
    Calls Tryz.prog 48 #[.int .i64 z, .int .i64 n] w fun e w' => e = .returned (.tuple #[.string t, .int .i64 c]) ∧ Below w.heap.size w w' := by
  have hb := nB w (.cells #[.int .i64 n] 3)
  have Js : Hid (IHolds (w.alloc (.cells #[.int .i64 n] 3)) w.heap.size 3 [.int .i64 n]) := IHolds.new w 3 _
  have B : Hid (Below w.heap.size w (w.alloc (.cells #[.int .i64 n] 3))) := hb
  clear hb
  go_enter Tryz.func48, Tryz.ntmps48
  go_wp2_with fail
  generalize w.alloc (.cells #[.int .i64 n] 3) = V0 at *
  refine (C.out V0 _ Js.out).mono ?_
  rintro e U1 ⟨rfl, hb⟩
  replace B := aB B hb
  clear hb Js
  go_wp2_with fail
  go_ret2
  exact ⟨rfl, B.out⟩
end Go.Proofs.YtohpbclofcflaaaGreat
