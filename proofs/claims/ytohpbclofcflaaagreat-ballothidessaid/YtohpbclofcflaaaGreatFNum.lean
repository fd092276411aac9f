/- The field's numbers, and what is reduced. -/
import Derived.Test.YtohpbclofcflaaaGreatJoin
set_option linter.unusedSimpArgs false
set_option linter.unusedVariables false
namespace Go.Proofs.YtohpbclofcflaaaGreat
open Go.RowKit Go.Deep Go.PlainAid

theorem A4_small {k : Nat} (h : k < BB) : Value.agg #[U k, .int .u64 0, .int .u64 0, .int .u64 0] = A4 k := by
  refine A4_of (a := k) (b := 0) (c := 0) (d := 0) ?_ (by simp [vl])
  intro x hx
  simp only [List.mem_cons, List.not_mem_nil, or_false] at hx
  have := BB_pos
  omega
set_option maxRecDepth 100000 in
set_option maxHeartbeats 2000000 in
theorem fnumber_pos {w : World} {g o Wd M low one sq : Nat} (F : Hid (FH w g o Wd M low one sq)) (k : Nat) (v0 v1 v2 v3 : Nat) (hk : k ≤ 9223372036854775807) (C1 : Hid (∀ W, FH W g o Wd M low one sq → Calls Tryz.prog 86 #[.pointer (some ⟨g, o, none⟩), .agg #[U k, .int .u64 0, .int .u64 0, .int .u64 0], .agg #[U (w4 one 0), U (w4 one 1), U (w4 one 2), U (w4 one 3)]] W fun e w' => e = .returned (.agg #[U v0, U v1, U v2, U v3]) ∧ Below W.heap.size W w')) :
    Calls Tryz.prog 70 #[.pointer (some ⟨g, o, none⟩), .int .i64 (k : Int)] w fun e w' => e = .returned (.agg #[U v0, U v1, U v2, U v3]) ∧ Below w.heap.size w w' := by
  have k0 : ¬ (k : Int) < 0 := by omega
  have k1 : IntKind.u64.wrap (k : Int) = (k : Int) := IntWalk.u64_in _ ⟨by omega, by omega⟩
  go_enter Tryz.func70, Tryz.ntmps70
  have hb := nB w (.cells #[.int .u64 0, .int .u64 0, .int .u64 0, .int .u64 0] 81)
  have Jr : Hid (IHolds (w.alloc (.cells #[.int .u64 0, .int .u64 0, .int .u64 0, .int .u64 0] 81)) w.heap.size 81 [.int .u64 0, .int .u64 0, .int .u64 0, .int .u64 0]) := IHolds.new w 81 _
  have B : Hid (Below w.heap.size w (w.alloc (.cells #[.int .u64 0, .int .u64 0, .int .u64 0, .int .u64 0] 81))) := hb
  have neF_r : Hid (g ≠ w.heap.size) := F.out.ne
  replace F := aF F hb
  clear hb
  have fo0 := F.out.o0
  have fo1 := F.out.o1
  have fo2 := F.out.o2
  have fo3 := F.out.o3
  go_wp2_with fail
  clear fo0 fo1 fo2 fo3
  generalize (w.alloc (.cells #[.int .u64 0, .int .u64 0, .int .u64 0, .int .u64 0] 81)) = U0 at *
  refine (C1.out U0 F.out).mono ?_
  rintro e U1 ⟨rfl, hb⟩
  replace F := aF F hb
  replace B := aB B hb
  replace Jr := aJ Jr hb
  clear hb
  have zr_0 : U1.cell? ⟨w.heap.size, 0, none⟩ = some (.int .u64 0) := IHolds.cell (l := [.int .u64 0, .int .u64 0, .int .u64 0, .int .u64 0]) (t := 81) (b := w.heap.size) (w := U1) (Jr.out) 0 (by simp)
  have zr_1 : U1.cell? ⟨w.heap.size, 1, none⟩ = some (.int .u64 0) := IHolds.cell (l := [.int .u64 0, .int .u64 0, .int .u64 0, .int .u64 0]) (t := 81) (b := w.heap.size) (w := U1) (Jr.out) 1 (by simp)
  have zr_2 : U1.cell? ⟨w.heap.size, 2, none⟩ = some (.int .u64 0) := IHolds.cell (l := [.int .u64 0, .int .u64 0, .int .u64 0, .int .u64 0]) (t := 81) (b := w.heap.size) (w := U1) (Jr.out) 2 (by simp)
  have zr_3 : U1.cell? ⟨w.heap.size, 3, none⟩ = some (.int .u64 0) := IHolds.cell (l := [.int .u64 0, .int .u64 0, .int .u64 0, .int .u64 0]) (t := 81) (b := w.heap.size) (w := U1) (Jr.out) 3 (by simp)
  have f0 := fJ Jr
  have hBut : But (w.heap.size) U1 ((((U1.setCell ⟨w.heap.size, 0, none⟩ (U v0)).setCell ⟨w.heap.size, 1, none⟩ (U v1)).setCell ⟨w.heap.size, 2, none⟩ (U v2)).setCell ⟨w.heap.size, 3, none⟩ (U v3)) := (((((But.refl _ U1).setCell 0 (U v0)).setCell 1 (U v1)).setCell 2 (U v2)).setCell 3 (U v3))
  replace F := tF F hBut neF_r.out
  have I4 : Hid (IHolds _ (w.heap.size) 81 [U v0, U v1, U v2, U v3]) := ((((Jr.out.set 0 (U v0)).set 1 (U v1)).set 2 (U v2)).set 3 (U v3))
  replace B : Hid (Below w.heap.size w ((((U1.setCell ⟨w.heap.size, 0, none⟩ (U v0)).setCell ⟨w.heap.size, 1, none⟩ (U v1)).setCell ⟨w.heap.size, 2, none⟩ (U v2)).setCell ⟨w.heap.size, 3, none⟩ (U v3))) := ((((B.out.setCell (by first | exact Nat.le_refl _ | exact ge_r.out | (show w.heap.size ≤ w.heap.size; omega)) _).setCell (by first | exact Nat.le_refl _ | exact ge_r.out | (show w.heap.size ≤ w.heap.size; omega)) _).setCell (by first | exact Nat.le_refl _ | exact ge_r.out | (show w.heap.size ≤ w.heap.size; omega)) _).setCell (by first | exact Nat.le_refl _ | exact ge_r.out | (show w.heap.size ≤ w.heap.size; omega)) _)
  replace Jr := I4
  clear I4 hBut
  go_wp2_with fail
  clear zr_0 zr_1 zr_2 zr_3
  clear f0
  generalize ((((U1.setCell ⟨w.heap.size, 0, none⟩ (U v0)).setCell ⟨w.heap.size, 1, none⟩ (U v1)).setCell ⟨w.heap.size, 2, none⟩ (U v2)).setCell ⟨w.heap.size, 3, none⟩ (U v3)) = U2 at *
  have E0 : Hid (U2.cell? ⟨w.heap.size, 0, none⟩ = some (U v0)) := IHolds.cell (l := [U v0, U v1, U v2, U v3]) (t := 81) (b := w.heap.size) (w := U2) Jr.out 0 (by simp)
  have E1 : Hid (U2.cell? ⟨w.heap.size, 1, none⟩ = some (U v1)) := IHolds.cell (l := [U v0, U v1, U v2, U v3]) (t := 81) (b := w.heap.size) (w := U2) Jr.out 1 (by simp)
  have E2 : Hid (U2.cell? ⟨w.heap.size, 2, none⟩ = some (U v2)) := IHolds.cell (l := [U v0, U v1, U v2, U v3]) (t := 81) (b := w.heap.size) (w := U2) Jr.out 2 (by simp)
  have E3 : Hid (U2.cell? ⟨w.heap.size, 3, none⟩ = some (U v3)) := IHolds.cell (l := [U v0, U v1, U v2, U v3]) (t := 81) (b := w.heap.size) (w := U2) Jr.out 3 (by simp)
  exact bodyPost_ret (v := .agg #[U v0, U v1, U v2, U v3]) (by simp [results, Tryz.results70, go_sem, E0.out, E1.out, E2.out, E3.out]) rfl ⟨rfl, B.out⟩
set_option maxRecDepth 100000 in
set_option maxHeartbeats 2000000 in
theorem fnumber_neg {w : World} {g o Wd M low one sq : Nat} (F : Hid (FH w g o Wd M low one sq)) (z : Int) (k N1 : Nat) (u0 u1 u2 u3 v0 v1 v2 v3 : Nat) (hz : z < 0) (kz : IntKind.u64.wrap z = (N1 : Int)) (kn : IntKind.u64.wrap (-(N1 : Int)) = (k : Int)) (C1 : Hid (∀ W, FH W g o Wd M low one sq → Calls Tryz.prog 86 #[.pointer (some ⟨g, o, none⟩), .agg #[U k, .int .u64 0, .int .u64 0, .int .u64 0], .agg #[U (w4 one 0), U (w4 one 1), U (w4 one 2), U (w4 one 3)]] W fun e w' => e = .returned (.agg #[U u0, U u1, U u2, U u3]) ∧ Below W.heap.size W w')) (C2 : Hid (∀ W, FH W g o Wd M low one sq → Calls Tryz.prog 85 #[.pointer (some ⟨g, o, none⟩), .agg #[.int .u64 0, .int .u64 0, .int .u64 0, .int .u64 0], .agg #[U u0, U u1, U u2, U u3]] W fun e w' => e = .returned (.agg #[U v0, U v1, U v2, U v3]) ∧ Below W.heap.size W w')) :
    Calls Tryz.prog 70 #[.pointer (some ⟨g, o, none⟩), .int .i64 z] w fun e w' => e = .returned (.agg #[U v0, U v1, U v2, U v3]) ∧ Below w.heap.size w w' := by
  go_enter Tryz.func70, Tryz.ntmps70
  have hb := nB w (.cells #[.int .u64 0, .int .u64 0, .int .u64 0, .int .u64 0] 81)
  have Jr : Hid (IHolds (w.alloc (.cells #[.int .u64 0, .int .u64 0, .int .u64 0, .int .u64 0] 81)) w.heap.size 81 [.int .u64 0, .int .u64 0, .int .u64 0, .int .u64 0]) := IHolds.new w 81 _
  have B : Hid (Below w.heap.size w (w.alloc (.cells #[.int .u64 0, .int .u64 0, .int .u64 0, .int .u64 0] 81))) := hb
  have neF_r : Hid (g ≠ w.heap.size) := F.out.ne
  replace F := aF F hb
  clear hb
  have fo0 := F.out.o0
  have fo1 := F.out.o1
  have fo2 := F.out.o2
  have fo3 := F.out.o3
  go_wp2_with fail
  clear fo0 fo1 fo2 fo3
  generalize (w.alloc (.cells #[.int .u64 0, .int .u64 0, .int .u64 0, .int .u64 0] 81)) = U0 at *
  refine (C1.out U0 F.out).mono ?_
  rintro e U1 ⟨rfl, hb⟩
  replace F := aF F hb
  replace B := aB B hb
  replace Jr := aJ Jr hb
  clear hb
  go_wp2_with fail
  refine (C2.out U1 F.out).mono ?_
  rintro e U2 ⟨rfl, hb⟩
  replace F := aF F hb
  replace B := aB B hb
  replace Jr := aJ Jr hb
  clear hb
  have zr_0 : U2.cell? ⟨w.heap.size, 0, none⟩ = some (.int .u64 0) := IHolds.cell (l := [.int .u64 0, .int .u64 0, .int .u64 0, .int .u64 0]) (t := 81) (b := w.heap.size) (w := U2) (Jr.out) 0 (by simp)
  have zr_1 : U2.cell? ⟨w.heap.size, 1, none⟩ = some (.int .u64 0) := IHolds.cell (l := [.int .u64 0, .int .u64 0, .int .u64 0, .int .u64 0]) (t := 81) (b := w.heap.size) (w := U2) (Jr.out) 1 (by simp)
  have zr_2 : U2.cell? ⟨w.heap.size, 2, none⟩ = some (.int .u64 0) := IHolds.cell (l := [.int .u64 0, .int .u64 0, .int .u64 0, .int .u64 0]) (t := 81) (b := w.heap.size) (w := U2) (Jr.out) 2 (by simp)
  have zr_3 : U2.cell? ⟨w.heap.size, 3, none⟩ = some (.int .u64 0) := IHolds.cell (l := [.int .u64 0, .int .u64 0, .int .u64 0, .int .u64 0]) (t := 81) (b := w.heap.size) (w := U2) (Jr.out) 3 (by simp)
  have f0 := fJ Jr
  have hBut : But (w.heap.size) U2 ((((U2.setCell ⟨w.heap.size, 0, none⟩ (U v0)).setCell ⟨w.heap.size, 1, none⟩ (U v1)).setCell ⟨w.heap.size, 2, none⟩ (U v2)).setCell ⟨w.heap.size, 3, none⟩ (U v3)) := (((((But.refl _ U2).setCell 0 (U v0)).setCell 1 (U v1)).setCell 2 (U v2)).setCell 3 (U v3))
  replace F := tF F hBut neF_r.out
  have I4 : Hid (IHolds _ (w.heap.size) 81 [U v0, U v1, U v2, U v3]) := ((((Jr.out.set 0 (U v0)).set 1 (U v1)).set 2 (U v2)).set 3 (U v3))
  replace B : Hid (Below w.heap.size w ((((U2.setCell ⟨w.heap.size, 0, none⟩ (U v0)).setCell ⟨w.heap.size, 1, none⟩ (U v1)).setCell ⟨w.heap.size, 2, none⟩ (U v2)).setCell ⟨w.heap.size, 3, none⟩ (U v3))) := ((((B.out.setCell (by first | exact Nat.le_refl _ | exact ge_r.out | (show w.heap.size ≤ w.heap.size; omega)) _).setCell (by first | exact Nat.le_refl _ | exact ge_r.out | (show w.heap.size ≤ w.heap.size; omega)) _).setCell (by first | exact Nat.le_refl _ | exact ge_r.out | (show w.heap.size ≤ w.heap.size; omega)) _).setCell (by first | exact Nat.le_refl _ | exact ge_r.out | (show w.heap.size ≤ w.heap.size; omega)) _)
  replace Jr := I4
  clear I4 hBut
  go_wp2_with fail
  clear zr_0 zr_1 zr_2 zr_3
  clear f0
  generalize ((((U2.setCell ⟨w.heap.size, 0, none⟩ (U v0)).setCell ⟨w.heap.size, 1, none⟩ (U v1)).setCell ⟨w.heap.size, 2, none⟩ (U v2)).setCell ⟨w.heap.size, 3, none⟩ (U v3)) = U3 at *
  have E0 : Hid (U3.cell? ⟨w.heap.size, 0, none⟩ = some (U v0)) := IHolds.cell (l := [U v0, U v1, U v2, U v3]) (t := 81) (b := w.heap.size) (w := U3) Jr.out 0 (by simp)
  have E1 : Hid (U3.cell? ⟨w.heap.size, 1, none⟩ = some (U v1)) := IHolds.cell (l := [U v0, U v1, U v2, U v3]) (t := 81) (b := w.heap.size) (w := U3) Jr.out 1 (by simp)
  have E2 : Hid (U3.cell? ⟨w.heap.size, 2, none⟩ = some (U v2)) := IHolds.cell (l := [U v0, U v1, U v2, U v3]) (t := 81) (b := w.heap.size) (w := U3) Jr.out 2 (by simp)
  have E3 : Hid (U3.cell? ⟨w.heap.size, 3, none⟩ = some (U v3)) := IHolds.cell (l := [U v0, U v1, U v2, U v3]) (t := 81) (b := w.heap.size) (w := U3) Jr.out 3 (by simp)
  exact bodyPost_ret (v := .agg #[U v0, U v1, U v2, U v3]) (by simp [results, Tryz.results70, go_sem, E0.out, E1.out, E2.out, E3.out]) rfl ⟨rfl, B.out⟩
/-- What comes of joining with one, with the square. -/
theorem joined_one {w : World} {g o Wd M low one sq Ri a : Nat} (F : FH w g o Wd M low one sq) (fl : Fld Wd M low one sq Ri) (ha : a < BB ^ Wd) :
    Calls Tryz.prog 86 #[.pointer (some ⟨g, o, none⟩), A4 a, A4 one] w fun e w' => e = .returned (A4 (a % M)) ∧ Below w.heap.size w w' := by
  have hm := fl.m2
  refine (joined_any F fl ha (by rw [fl.o]; exact Nat.mod_lt _ (by omega))).mono ?_
  rintro e w' ⟨⟨r, rfl, h⟩, hb⟩
  rw [fl.of_one h]
  exact ⟨rfl, hb⟩
theorem joined_sq {w : World} {g o Wd M low one sq Ri a : Nat} (F : FH w g o Wd M low one sq) (fl : Fld Wd M low one sq Ri) (ha : a < BB ^ Wd) :
    Calls Tryz.prog 86 #[.pointer (some ⟨g, o, none⟩), A4 a, A4 sq] w fun e w' => e = .returned (A4 (a * BB ^ Wd % M)) ∧ Below w.heap.size w w' := by
  have hm := fl.m2
  refine (joined_any F fl ha (by rw [fl.s]; exact Nat.mod_lt _ (by omega))).mono ?_
  rintro e w' ⟨⟨r, rfl, h⟩, hb⟩
  rw [fl.of_sq h]
  exact ⟨rfl, hb⟩
/-- A number of the field. -/
def numF (M : Nat) (z : Int) : Nat := if z < 0 then subF M 0 ((-z).toNat % M) else z.toNat % M
theorem Fld.big {Wd M low one sq Ri : Nat} (fl : Fld Wd M low one sq Ri) : 2 * M ≤ BB ^ 4 := Nat.le_trans fl.m9 (Nat.pow_le_pow_right BB_pos fl.w4)
theorem Fld.word {Wd M low one sq Ri k : Nat} (fl : Fld Wd M low one sq Ri) (hk : k < BB) : k < BB ^ Wd := Nat.lt_of_lt_of_le hk (by
  have := Nat.pow_le_pow_right BB_pos fl.w1
  rwa [Nat.pow_one] at this)
theorem fnumberA {w : World} {g o Wd M low one sq Ri : Nat} (F : Hid (FH w g o Wd M low one sq)) (fl : Fld Wd M low one sq Ri) (z : Int) (h1 : -9223372036854775808 ≤ z) (h2 : z ≤ 9223372036854775807) :
    Calls Tryz.prog 70 #[.pointer (some ⟨g, o, none⟩), .int .i64 z] w fun e w' => e = .returned (A4 (numF M z)) ∧ Below w.heap.size w w' := by
  have hm := fl.m2
  have hM := fl.big
  unfold numF
  by_cases hz : z < 0
  · rw [if_pos hz]
    obtain ⟨k, hk⟩ : ∃ k, k = (-z).toNat := ⟨_, rfl⟩
    rw [← hk]
    have k9 : k < BB := by rw [BB_eq]; omega
    refine fnumber_neg F z k (18446744073709551616 - k) (w4 (k % M) 0) (w4 (k % M) 1) (w4 (k % M) 2) (w4 (k % M) 3) _ _ _ _ hz ?_ ?_ (fun W hF => ?_) (fun W hF => ?_)
    · rw [IntKind.wrap_u64]; omega
    · rw [IntKind.wrap_u64]; omega
    · rw [A4_small k9]; exact joined_one hF fl (fl.word k9)
    · have e : Value.agg #[.int .u64 0, .int .u64 0, .int .u64 0, .int .u64 0] = A4 0 := A4_small (k := 0) BB_pos
      rw [e]
      exact fminusA hF (by omega) (Nat.mod_lt _ (by omega)) hM
  · rw [if_neg hz]
    obtain ⟨k, hk⟩ : ∃ k, k = z.toNat := ⟨_, rfl⟩
    rw [← hk]
    have k9 : k < BB := by rw [BB_eq]; omega
    have ez : z = (k : Int) := by omega
    rw [ez]
    refine fnumber_pos F k _ _ _ _ (by omega) (fun W hF => ?_)
    rw [A4_small k9]; exact joined_one hF fl (fl.word k9)
end Go.Proofs.YtohpbclofcflaaaGreat
