/- The inverse of a scalar. -/
import Derived.Test.YtohpbclofcflaaaGreatPow
import Derived.Test.YtohpbclofcflaaaGreatScal
set_option linter.unusedSimpArgs false
set_option linter.unusedVariables false
namespace Go.Proofs.YtohpbclofcflaaaGreat
open Go.RowKit Go.Deep Go.PlainAid

set_option maxRecDepth 100000 in
set_option maxHeartbeats 2000000 in
theorem finverse_words {w : World} {g o Wd M low one sq : Nat} (F : Hid (FH w g o Wd M low one sq)) (x0 x1 x2 x3 z0 z1 z2 z3 v0 v1 v2 v3 : Nat) (C1 : Hid (∀ W, Calls Tryz.prog 89 #[.agg #[U (w4 M 0), U (w4 M 1), U (w4 M 2), U (w4 M 3)], .agg #[.int .u64 2, .int .u64 0, .int .u64 0, .int .u64 0]] W fun e w' => e = .returned (.tuple #[.agg #[U z0, U z1, U z2, U z3], .int .u64 0]) ∧ Below W.heap.size W w'))
    (C2 : Hid (∀ W b1 b2, FH W g o Wd M low one sq → IHolds W b1 81 [U x0, U x1, U x2, U x3] → IHolds W b2 81 [U z0, U z1, U z2, U z3] → Calls Tryz.prog 77 #[.pointer (some ⟨g, o, none⟩), .slice (some ⟨b1, 0, none⟩) 1 1, .slice (some ⟨b2, 0, none⟩) 1 1] W fun e w' => e = .returned (.agg #[U v0, U v1, U v2, U v3]) ∧ Below W.heap.size W w')) :
    Calls Tryz.prog 102 #[.pointer (some ⟨g, o, none⟩), .agg #[U x0, U x1, U x2, U x3]] w fun e w' => e = .returned (.agg #[U v0, U v1, U v2, U v3]) ∧ Below w.heap.size w w' := by
  have Jx : Hid (IHolds ((w.alloc (.cells #[U x0, U x1, U x2, U x3] 81)).alloc (.cells #[.int .u64 0, .int .u64 0, .int .u64 0, .int .u64 0] 81)) w.heap.size 81 [U x0, U x1, U x2, U x3]) := (IHolds.new w 81 [U x0, U x1, U x2, U x3]).alloc _
  have Jr : Hid (IHolds ((w.alloc (.cells #[U x0, U x1, U x2, U x3] 81)).alloc (.cells #[.int .u64 0, .int .u64 0, .int .u64 0, .int .u64 0] 81)) (w.heap.size + 1) 81 [.int .u64 0, .int .u64 0, .int .u64 0, .int .u64 0]) := by
    have q := IHolds.new (w.alloc (.cells #[U x0, U x1, U x2, U x3] 81)) 81 [.int .u64 0, .int .u64 0, .int .u64 0, .int .u64 0]
    rw [World.size_alloc] at q
    exact q
  have B : Hid (Below w.heap.size w ((w.alloc (.cells #[U x0, U x1, U x2, U x3] 81)).alloc (.cells #[.int .u64 0, .int .u64 0, .int .u64 0, .int .u64 0] 81))) := ((Below.refl _ w).alloc (Nat.le_refl _) _).alloc (by simp only [World.size_alloc]; omega) _
  have neF_r : Hid (g ≠ w.heap.size + 1) := by have h := F.out.lt; show _ ≠ _; omega
  replace F := aF F B.out
  have fo0 := F.out.m0
  have fo1 := F.out.m1
  have fo2 := F.out.m2
  have fo3 := F.out.m3
  go_enter Tryz.func102, Tryz.ntmps102
  go_wp2_with fail
  clear fo0 fo1 fo2 fo3
  generalize ((w.alloc (.cells #[U x0, U x1, U x2, U x3] 81)).alloc (.cells #[.int .u64 0, .int .u64 0, .int .u64 0, .int .u64 0] 81)) = U0 at *
  refine (C1.out U0).mono ?_
  rintro e U1 ⟨rfl, hb⟩
  replace F := aF F hb
  replace B := aB B hb
  replace Jx := aJ Jx hb
  replace Jr := aJ Jr hb
  clear hb
  have Jd : Hid (IHolds (U1.alloc (.cells #[U z0, U z1, U z2, U z3] 81)) U1.heap.size 81 [U z0, U z1, U z2, U z3]) := IHolds.new U1 81 _
  have h1 := nB U1 (.cells #[U z0, U z1, U z2, U z3] 81)
  have Jx1 := aJ Jx h1
  have zx0 : (U1.alloc (.cells #[U z0, U z1, U z2, U z3] 81)).cell? ⟨w.heap.size, 0, none⟩ = some (U x0) := Jx1.out.cell 0 (by simp)
  have zx1 : (U1.alloc (.cells #[U z0, U z1, U z2, U z3] 81)).cell? ⟨w.heap.size, 1, none⟩ = some (U x1) := Jx1.out.cell 1 (by simp)
  have zx2 : (U1.alloc (.cells #[U z0, U z1, U z2, U z3] 81)).cell? ⟨w.heap.size, 2, none⟩ = some (U x2) := Jx1.out.cell 2 (by simp)
  have zx3 : (U1.alloc (.cells #[U z0, U z1, U z2, U z3] 81)).cell? ⟨w.heap.size, 3, none⟩ = some (U x3) := Jx1.out.cell 3 (by simp)
  have h2 := nB (U1.alloc (.cells #[U z0, U z1, U z2, U z3] 81)) (.cells #[U x0, U x1, U x2, U x3] 81)
  have Jd2 := aJ Jd h2
  have zd0 : ((U1.alloc (.cells #[U z0, U z1, U z2, U z3] 81)).alloc (.cells #[U x0, U x1, U x2, U x3] 81)).cell? ⟨U1.heap.size, 0, none⟩ = some (U z0) := Jd2.out.cell 0 (by simp)
  have zd1 : ((U1.alloc (.cells #[U z0, U z1, U z2, U z3] 81)).alloc (.cells #[U x0, U x1, U x2, U x3] 81)).cell? ⟨U1.heap.size, 1, none⟩ = some (U z1) := Jd2.out.cell 1 (by simp)
  have zd2 : ((U1.alloc (.cells #[U z0, U z1, U z2, U z3] 81)).alloc (.cells #[U x0, U x1, U x2, U x3] 81)).cell? ⟨U1.heap.size, 2, none⟩ = some (U z2) := Jd2.out.cell 2 (by simp)
  have zd3 : ((U1.alloc (.cells #[U z0, U z1, U z2, U z3] 81)).alloc (.cells #[U x0, U x1, U x2, U x3] 81)).cell? ⟨U1.heap.size, 3, none⟩ = some (U z3) := Jd2.out.cell 3 (by simp)
  have h3 := nB ((U1.alloc (.cells #[U z0, U z1, U z2, U z3] 81)).alloc (.cells #[U x0, U x1, U x2, U x3] 81)) (.cells #[U z0, U z1, U z2, U z3] 81)
  have JA : Hid (IHolds (((U1.alloc (.cells #[U z0, U z1, U z2, U z3] 81)).alloc (.cells #[U x0, U x1, U x2, U x3] 81)).alloc (.cells #[U z0, U z1, U z2, U z3] 81)) (U1.heap.size + 1) 81 [U x0, U x1, U x2, U x3]) := by
    have q := IHolds.new (U1.alloc (.cells #[U z0, U z1, U z2, U z3] 81)) 81 [U x0, U x1, U x2, U x3]
    rw [World.size_alloc] at q
    exact q.alloc _
  have JN : Hid (IHolds (((U1.alloc (.cells #[U z0, U z1, U z2, U z3] 81)).alloc (.cells #[U x0, U x1, U x2, U x3] 81)).alloc (.cells #[U z0, U z1, U z2, U z3] 81)) (U1.heap.size + 2) 81 [U z0, U z1, U z2, U z3]) := by
    have q := IHolds.new ((U1.alloc (.cells #[U z0, U z1, U z2, U z3] 81)).alloc (.cells #[U x0, U x1, U x2, U x3] 81)) 81 [U z0, U z1, U z2, U z3]
    simp only [World.size_alloc, Nat.add_assoc, Nat.reduceAdd] at q
    exact q
  replace B := aB (aB (aB B h1) h2) h3
  replace F := aF (aF (aF F h1) h2) h3
  replace Jr := aJ (aJ (aJ Jr h1) h2) h3
  clear h1 h2 h3 Jd Jx Jx1 Jd2
  go_wp2_with fail
  clear zx0 zx1 zx2 zx3 zd0 zd1 zd2 zd3
  generalize (((U1.alloc (.cells #[U z0, U z1, U z2, U z3] 81)).alloc (.cells #[U x0, U x1, U x2, U x3] 81)).alloc (.cells #[U z0, U z1, U z2, U z3] 81)) = V9 at *
  refine (C2.out V9 _ _ F.out JA.out JN.out).mono ?_
  rintro e VA ⟨rfl, hb⟩
  clear JA JN
  replace F := aF F hb
  replace B := aB B hb
  replace Jr := aJ Jr hb
  clear hb
  have zr_0 : VA.cell? ⟨w.heap.size + 1, 0, none⟩ = some (.int .u64 0) := IHolds.cell (l := [.int .u64 0, .int .u64 0, .int .u64 0, .int .u64 0]) (t := 81) (b := w.heap.size + 1) (w := VA) (Jr.out) 0 (by simp)
  have zr_1 : VA.cell? ⟨w.heap.size + 1, 1, none⟩ = some (.int .u64 0) := IHolds.cell (l := [.int .u64 0, .int .u64 0, .int .u64 0, .int .u64 0]) (t := 81) (b := w.heap.size + 1) (w := VA) (Jr.out) 1 (by simp)
  have zr_2 : VA.cell? ⟨w.heap.size + 1, 2, none⟩ = some (.int .u64 0) := IHolds.cell (l := [.int .u64 0, .int .u64 0, .int .u64 0, .int .u64 0]) (t := 81) (b := w.heap.size + 1) (w := VA) (Jr.out) 2 (by simp)
  have zr_3 : VA.cell? ⟨w.heap.size + 1, 3, none⟩ = some (.int .u64 0) := IHolds.cell (l := [.int .u64 0, .int .u64 0, .int .u64 0, .int .u64 0]) (t := 81) (b := w.heap.size + 1) (w := VA) (Jr.out) 3 (by simp)
  have f0 := fJ Jr
  have hBut : But (w.heap.size + 1) VA ((((VA.setCell ⟨w.heap.size + 1, 0, none⟩ (U v0)).setCell ⟨w.heap.size + 1, 1, none⟩ (U v1)).setCell ⟨w.heap.size + 1, 2, none⟩ (U v2)).setCell ⟨w.heap.size + 1, 3, none⟩ (U v3)) := (((((But.refl _ VA).setCell 0 (U v0)).setCell 1 (U v1)).setCell 2 (U v2)).setCell 3 (U v3))
  replace F := tF F hBut neF_r.out
  have I4 : Hid (IHolds _ (w.heap.size + 1) 81 [U v0, U v1, U v2, U v3]) := ((((Jr.out.set 0 (U v0)).set 1 (U v1)).set 2 (U v2)).set 3 (U v3))
  replace B : Hid (Below w.heap.size w ((((VA.setCell ⟨w.heap.size + 1, 0, none⟩ (U v0)).setCell ⟨w.heap.size + 1, 1, none⟩ (U v1)).setCell ⟨w.heap.size + 1, 2, none⟩ (U v2)).setCell ⟨w.heap.size + 1, 3, none⟩ (U v3))) := ((((B.out.setCell (by first | exact Nat.le_refl _ | exact ge_r.out | (show w.heap.size ≤ w.heap.size + 1; omega)) _).setCell (by first | exact Nat.le_refl _ | exact ge_r.out | (show w.heap.size ≤ w.heap.size + 1; omega)) _).setCell (by first | exact Nat.le_refl _ | exact ge_r.out | (show w.heap.size ≤ w.heap.size + 1; omega)) _).setCell (by first | exact Nat.le_refl _ | exact ge_r.out | (show w.heap.size ≤ w.heap.size + 1; omega)) _)
  replace Jr := I4
  clear I4 hBut
  go_wp2_with fail
  clear zr_0 zr_1 zr_2 zr_3
  clear f0
  generalize ((((VA.setCell ⟨w.heap.size + 1, 0, none⟩ (U v0)).setCell ⟨w.heap.size + 1, 1, none⟩ (U v1)).setCell ⟨w.heap.size + 1, 2, none⟩ (U v2)).setCell ⟨w.heap.size + 1, 3, none⟩ (U v3)) = U2 at *
  have E0 : Hid (U2.cell? ⟨w.heap.size + 1, 0, none⟩ = some (U v0)) := IHolds.cell (l := [U v0, U v1, U v2, U v3]) (t := 81) (b := w.heap.size + 1) (w := U2) Jr.out 0 (by simp)
  have E1 : Hid (U2.cell? ⟨w.heap.size + 1, 1, none⟩ = some (U v1)) := IHolds.cell (l := [U v0, U v1, U v2, U v3]) (t := 81) (b := w.heap.size + 1) (w := U2) Jr.out 1 (by simp)
  have E2 : Hid (U2.cell? ⟨w.heap.size + 1, 2, none⟩ = some (U v2)) := IHolds.cell (l := [U v0, U v1, U v2, U v3]) (t := 81) (b := w.heap.size + 1) (w := U2) Jr.out 2 (by simp)
  have E3 : Hid (U2.cell? ⟨w.heap.size + 1, 3, none⟩ = some (U v3)) := IHolds.cell (l := [U v0, U v1, U v2, U v3]) (t := 81) (b := w.heap.size + 1) (w := U2) Jr.out 3 (by simp)
  exact bodyPost_ret (v := .agg #[U v0, U v1, U v2, U v3]) (by simp [results, Tryz.results102, go_sem, E0.out, E1.out, E2.out, E3.out]) rfl ⟨rfl, B.out⟩
theorem finverseA {w : World} {g o Wd M low one sq Ri a : Nat} (F : FH w g o Wd M low one sq) (fl : Fld Wd M low one sq Ri) (ha : a < BB ^ Wd) :
    Calls Tryz.prog 102 #[.pointer (some ⟨g, o, none⟩), A4 a] w fun e w' => e = .returned (A4 (a ^ (M - 2) % M)) ∧ Below w.heap.size w w' := by
  have hm := fl.m2
  have hM := fl.big
  refine finverse_words F _ _ _ _ (w4 (M - 2) 0) (w4 (M - 2) 1) (w4 (M - 2) 2) (w4 (M - 2) 3) _ _ _ _ (fun W => ?_) (fun W b1 b2 hF h1 h2 => ?_)
  · have e1 : .agg #[.int .u64 2, .int .u64 0, .int .u64 0, .int .u64 0] = A4 2 := A4_small (k := 2) (by rw [BB_eq]; omega)
    have e2 : borN M 2 = 0 := by unfold borN; rw [if_neg (by omega)]
    have e3 : subN M 2 = M - 2 := by unfold subN; rw [if_neg (by omega)]
    have h := minusA W (n := M) (m := 2) (by omega) (by have := BB_pos; rw [BB_eq] at *; omega)
    rw [e2, e3, ← e1] at h
    exact h
  · have h := powers_any (w := W) hF fl [a] [M - 2] _ _ (NumsV.one (X := a) h1) (NumsV.one (X := M - 2) h2) rfl (by simp) (fun j hj => by
      simp only [List.length_cons, List.length_nil, Nat.zero_add, Nat.lt_one_iff] at hj
      subst hj
      exact ha) (fun j hj => by
      simp only [List.length_cons, List.length_nil, Nat.zero_add, Nat.lt_one_iff] at hj
      subst hj
      show M - 2 < BB ^ 4
      omega)
    have e : powP [a] [M - 2] [a].length = a ^ (M - 2) := by simp [powP]
    rw [e] at h
    exact h
end Go.Proofs.YtohpbclofcflaaaGreat
