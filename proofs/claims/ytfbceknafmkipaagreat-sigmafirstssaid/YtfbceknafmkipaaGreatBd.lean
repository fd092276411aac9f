/- The field's numbers, and what is reduced. -/
import Derived.Test.YtfbceknafmkipaaGreatBc
import Derived.Test.YtfbceknafmkipaaGreatBb
import Derived.ChangeKeysEq
set_option linter.unusedSimpArgs false
set_option linter.unusedVariables false
namespace Go.Proofs.YtfbceknafmkipaaGreat
open Go.RowKit Go.Deep Go.PlainAid

theorem A4_small {k : Nat} (h : k < BB) : Value.agg #[U k, .int .u64 0, .int .u64 0, .int .u64 0] = A4 k := by
  refine A4_of (a := k) (b := 0) (c := 0) (d := 0) ?_ (by simp [vl])
  intro x hx
  simp only [List.mem_cons, List.not_mem_nil, or_false] at hx
  have := BB_pos
  omega
set_option maxRecDepth 100000 in
set_option maxHeartbeats 2000000 in
theorem fnumber_pos {w : World} {g o Wd M low one sq : Nat} (F : Hid (FH w g o Wd M low one sq)) (k : Nat) (v0 v1 v2 v3 : Nat) (hk : k ≤ 9223372036854775807) (C1 : Hid (∀ W, FH W g o Wd M low one sq → Calls Tryz.prog 123 #[.pointer (some ⟨g, o, none⟩), .agg #[U k, .int .u64 0, .int .u64 0, .int .u64 0], .agg #[U (w4 one 0), U (w4 one 1), U (w4 one 2), U (w4 one 3)]] W fun e w' => e = .returned (.agg #[U v0, U v1, U v2, U v3]) ∧ Below W.heap.size W w')) :
    Calls Tryz.prog 103 #[.pointer (some ⟨g, o, none⟩), .int .i64 (k : Int)] w fun e w' => e = .returned (.agg #[U v0, U v1, U v2, U v3]) ∧ Below w.heap.size w w' := by
  have k0 : ¬ (k : Int) < 0 := by omega
  have k1 : IntKind.u64.wrap (k : Int) = (k : Int) := IntWalk.u64_in _ ⟨by omega, by omega⟩
  go_enter Tryz.func103, Tryz.ntmps103
  have hb := nB w (.cells #[.int .u64 0, .int .u64 0, .int .u64 0, .int .u64 0] 103)
  have Jr : Hid (IHolds (w.alloc (.cells #[.int .u64 0, .int .u64 0, .int .u64 0, .int .u64 0] 103)) w.heap.size 103 [.int .u64 0, .int .u64 0, .int .u64 0, .int .u64 0]) := IHolds.new w 103 _
  have B : Hid (Below w.heap.size w (w.alloc (.cells #[.int .u64 0, .int .u64 0, .int .u64 0, .int .u64 0] 103))) := hb
  have neF_r : Hid (g ≠ w.heap.size) := F.out.ne
  replace F := aF F hb
  clear hb
  have fo0 := F.out.o0
  have fo1 := F.out.o1
  have fo2 := F.out.o2
  have fo3 := F.out.o3
  go_wp2_with fail
  clear fo0 fo1 fo2 fo3
  generalize (w.alloc (.cells #[.int .u64 0, .int .u64 0, .int .u64 0, .int .u64 0] 103)) = U0 at *
  refine (C1.out U0 F.out).mono ?_
  rintro e U1 ⟨rfl, hb⟩
  replace F := aF F hb
  replace B := aB B hb
  replace Jr := aJ Jr hb
  clear hb
  have zr_0 : U1.cell? ⟨w.heap.size, 0, none⟩ = some (.int .u64 0) := IHolds.cell (l := [.int .u64 0, .int .u64 0, .int .u64 0, .int .u64 0]) (t := 103) (b := w.heap.size) (w := U1) (Jr.out) 0 (by simp)
  have zr_1 : U1.cell? ⟨w.heap.size, 1, none⟩ = some (.int .u64 0) := IHolds.cell (l := [.int .u64 0, .int .u64 0, .int .u64 0, .int .u64 0]) (t := 103) (b := w.heap.size) (w := U1) (Jr.out) 1 (by simp)
  have zr_2 : U1.cell? ⟨w.heap.size, 2, none⟩ = some (.int .u64 0) := IHolds.cell (l := [.int .u64 0, .int .u64 0, .int .u64 0, .int .u64 0]) (t := 103) (b := w.heap.size) (w := U1) (Jr.out) 2 (by simp)
  have zr_3 : U1.cell? ⟨w.heap.size, 3, none⟩ = some (.int .u64 0) := IHolds.cell (l := [.int .u64 0, .int .u64 0, .int .u64 0, .int .u64 0]) (t := 103) (b := w.heap.size) (w := U1) (Jr.out) 3 (by simp)
  have f0 := fJ Jr
  have hBut : But (w.heap.size) U1 ((((U1.setCell ⟨w.heap.size, 0, none⟩ (U v0)).setCell ⟨w.heap.size, 1, none⟩ (U v1)).setCell ⟨w.heap.size, 2, none⟩ (U v2)).setCell ⟨w.heap.size, 3, none⟩ (U v3)) := (((((But.refl _ U1).setCell 0 (U v0)).setCell 1 (U v1)).setCell 2 (U v2)).setCell 3 (U v3))
  replace F := tF F hBut neF_r.out
  have I4 : Hid (IHolds _ (w.heap.size) 103 [U v0, U v1, U v2, U v3]) := ((((Jr.out.set 0 (U v0)).set 1 (U v1)).set 2 (U v2)).set 3 (U v3))
  replace B : Hid (Below w.heap.size w ((((U1.setCell ⟨w.heap.size, 0, none⟩ (U v0)).setCell ⟨w.heap.size, 1, none⟩ (U v1)).setCell ⟨w.heap.size, 2, none⟩ (U v2)).setCell ⟨w.heap.size, 3, none⟩ (U v3))) := ((((B.out.setCell (by first | exact Nat.le_refl _ | exact ge_r.out | (show w.heap.size ≤ w.heap.size; omega)) _).setCell (by first | exact Nat.le_refl _ | exact ge_r.out | (show w.heap.size ≤ w.heap.size; omega)) _).setCell (by first | exact Nat.le_refl _ | exact ge_r.out | (show w.heap.size ≤ w.heap.size; omega)) _).setCell (by first | exact Nat.le_refl _ | exact ge_r.out | (show w.heap.size ≤ w.heap.size; omega)) _)
  replace Jr := I4
  clear I4 hBut
  go_wp2_with fail
  clear zr_0 zr_1 zr_2 zr_3
  clear f0
  generalize ((((U1.setCell ⟨w.heap.size, 0, none⟩ (U v0)).setCell ⟨w.heap.size, 1, none⟩ (U v1)).setCell ⟨w.heap.size, 2, none⟩ (U v2)).setCell ⟨w.heap.size, 3, none⟩ (U v3)) = U2 at *
  have E0 : Hid (U2.cell? ⟨w.heap.size, 0, none⟩ = some (U v0)) := IHolds.cell (l := [U v0, U v1, U v2, U v3]) (t := 103) (b := w.heap.size) (w := U2) Jr.out 0 (by simp)
  have E1 : Hid (U2.cell? ⟨w.heap.size, 1, none⟩ = some (U v1)) := IHolds.cell (l := [U v0, U v1, U v2, U v3]) (t := 103) (b := w.heap.size) (w := U2) Jr.out 1 (by simp)
  have E2 : Hid (U2.cell? ⟨w.heap.size, 2, none⟩ = some (U v2)) := IHolds.cell (l := [U v0, U v1, U v2, U v3]) (t := 103) (b := w.heap.size) (w := U2) Jr.out 2 (by simp)
  have E3 : Hid (U2.cell? ⟨w.heap.size, 3, none⟩ = some (U v3)) := IHolds.cell (l := [U v0, U v1, U v2, U v3]) (t := 103) (b := w.heap.size) (w := U2) Jr.out 3 (by simp)
  exact bodyPost_ret (v := .agg #[U v0, U v1, U v2, U v3]) (by simp [results, Tryz.results103, go_sem, E0.out, E1.out, E2.out, E3.out]) rfl ⟨rfl, B.out⟩
set_option maxRecDepth 100000 in
set_option maxHeartbeats 2000000 in
theorem fnumber_neg {w : World} {g o Wd M low one sq : Nat} (F : Hid (FH w g o Wd M low one sq)) (z : Int) (k N1 : Nat) (u0 u1 u2 u3 v0 v1 v2 v3 : Nat) (hz : z < 0) (kz : IntKind.u64.wrap z = (N1 : Int)) (kn : IntKind.u64.wrap (-(N1 : Int)) = (k : Int)) (C1 : Hid (∀ W, FH W g o Wd M low one sq → Calls Tryz.prog 123 #[.pointer (some ⟨g, o, none⟩), .agg #[U k, .int .u64 0, .int .u64 0, .int .u64 0], .agg #[U (w4 one 0), U (w4 one 1), U (w4 one 2), U (w4 one 3)]] W fun e w' => e = .returned (.agg #[U u0, U u1, U u2, U u3]) ∧ Below W.heap.size W w')) (C2 : Hid (∀ W, FH W g o Wd M low one sq → Calls Tryz.prog 99 #[.pointer (some ⟨g, o, none⟩), .agg #[.int .u64 0, .int .u64 0, .int .u64 0, .int .u64 0], .agg #[U u0, U u1, U u2, U u3]] W fun e w' => e = .returned (.agg #[U v0, U v1, U v2, U v3]) ∧ Below W.heap.size W w')) :
    Calls Tryz.prog 103 #[.pointer (some ⟨g, o, none⟩), .int .i64 z] w fun e w' => e = .returned (.agg #[U v0, U v1, U v2, U v3]) ∧ Below w.heap.size w w' := by
  go_enter Tryz.func103, Tryz.ntmps103
  have hb := nB w (.cells #[.int .u64 0, .int .u64 0, .int .u64 0, .int .u64 0] 103)
  have Jr : Hid (IHolds (w.alloc (.cells #[.int .u64 0, .int .u64 0, .int .u64 0, .int .u64 0] 103)) w.heap.size 103 [.int .u64 0, .int .u64 0, .int .u64 0, .int .u64 0]) := IHolds.new w 103 _
  have B : Hid (Below w.heap.size w (w.alloc (.cells #[.int .u64 0, .int .u64 0, .int .u64 0, .int .u64 0] 103))) := hb
  have neF_r : Hid (g ≠ w.heap.size) := F.out.ne
  replace F := aF F hb
  clear hb
  have fo0 := F.out.o0
  have fo1 := F.out.o1
  have fo2 := F.out.o2
  have fo3 := F.out.o3
  go_wp2_with fail
  clear fo0 fo1 fo2 fo3
  generalize (w.alloc (.cells #[.int .u64 0, .int .u64 0, .int .u64 0, .int .u64 0] 103)) = U0 at *
  refine (C1.out U0 F.out).mono ?_
  rintro e U1 ⟨rfl, hb⟩
  replace F := aF F hb
  replace B := aB B hb
  replace Jr := aJ Jr hb
  clear hb
  go_wp2_with fail
  refine (C2.out U1 F.out).mono ?_
  rintro e U2 ⟨rfl, hb⟩
  replace F := aF F hb
  replace B := aB B hb
  replace Jr := aJ Jr hb
  clear hb
  have zr_0 : U2.cell? ⟨w.heap.size, 0, none⟩ = some (.int .u64 0) := IHolds.cell (l := [.int .u64 0, .int .u64 0, .int .u64 0, .int .u64 0]) (t := 103) (b := w.heap.size) (w := U2) (Jr.out) 0 (by simp)
  have zr_1 : U2.cell? ⟨w.heap.size, 1, none⟩ = some (.int .u64 0) := IHolds.cell (l := [.int .u64 0, .int .u64 0, .int .u64 0, .int .u64 0]) (t := 103) (b := w.heap.size) (w := U2) (Jr.out) 1 (by simp)
  have zr_2 : U2.cell? ⟨w.heap.size, 2, none⟩ = some (.int .u64 0) := IHolds.cell (l := [.int .u64 0, .int .u64 0, .int .u64 0, .int .u64 0]) (t := 103) (b := w.heap.size) (w := U2) (Jr.out) 2 (by simp)
  have zr_3 : U2.cell? ⟨w.heap.size, 3, none⟩ = some (.int .u64 0) := IHolds.cell (l := [.int .u64 0, .int .u64 0, .int .u64 0, .int .u64 0]) (t := 103) (b := w.heap.size) (w := U2) (Jr.out) 3 (by simp)
  have f0 := fJ Jr
  have hBut : But (w.heap.size) U2 ((((U2.setCell ⟨w.heap.size, 0, none⟩ (U v0)).setCell ⟨w.heap.size, 1, none⟩ (U v1)).setCell ⟨w.heap.size, 2, none⟩ (U v2)).setCell ⟨w.heap.size, 3, none⟩ (U v3)) := (((((But.refl _ U2).setCell 0 (U v0)).setCell 1 (U v1)).setCell 2 (U v2)).setCell 3 (U v3))
  replace F := tF F hBut neF_r.out
  have I4 : Hid (IHolds _ (w.heap.size) 103 [U v0, U v1, U v2, U v3]) := ((((Jr.out.set 0 (U v0)).set 1 (U v1)).set 2 (U v2)).set 3 (U v3))
  replace B : Hid (Below w.heap.size w ((((U2.setCell ⟨w.heap.size, 0, none⟩ (U v0)).setCell ⟨w.heap.size, 1, none⟩ (U v1)).setCell ⟨w.heap.size, 2, none⟩ (U v2)).setCell ⟨w.heap.size, 3, none⟩ (U v3))) := ((((B.out.setCell (by first | exact Nat.le_refl _ | exact ge_r.out | (show w.heap.size ≤ w.heap.size; omega)) _).setCell (by first | exact Nat.le_refl _ | exact ge_r.out | (show w.heap.size ≤ w.heap.size; omega)) _).setCell (by first | exact Nat.le_refl _ | exact ge_r.out | (show w.heap.size ≤ w.heap.size; omega)) _).setCell (by first | exact Nat.le_refl _ | exact ge_r.out | (show w.heap.size ≤ w.heap.size; omega)) _)
  replace Jr := I4
  clear I4 hBut
  go_wp2_with fail
  clear zr_0 zr_1 zr_2 zr_3
  clear f0
  generalize ((((U2.setCell ⟨w.heap.size, 0, none⟩ (U v0)).setCell ⟨w.heap.size, 1, none⟩ (U v1)).setCell ⟨w.heap.size, 2, none⟩ (U v2)).setCell ⟨w.heap.size, 3, none⟩ (U v3)) = U3 at *
  have E0 : Hid (U3.cell? ⟨w.heap.size, 0, none⟩ = some (U v0)) := IHolds.cell (l := [U v0, U v1, U v2, U v3]) (t := 103) (b := w.heap.size) (w := U3) Jr.out 0 (by simp)
  have E1 : Hid (U3.cell? ⟨w.heap.size, 1, none⟩ = some (U v1)) := IHolds.cell (l := [U v0, U v1, U v2, U v3]) (t := 103) (b := w.heap.size) (w := U3) Jr.out 1 (by simp)
  have E2 : Hid (U3.cell? ⟨w.heap.size, 2, none⟩ = some (U v2)) := IHolds.cell (l := [U v0, U v1, U v2, U v3]) (t := 103) (b := w.heap.size) (w := U3) Jr.out 2 (by simp)
  have E3 : Hid (U3.cell? ⟨w.heap.size, 3, none⟩ = some (U v3)) := IHolds.cell (l := [U v0, U v1, U v2, U v3]) (t := 103) (b := w.heap.size) (w := U3) Jr.out 3 (by simp)
  exact bodyPost_ret (v := .agg #[U v0, U v1, U v2, U v3]) (by simp [results, Tryz.results103, go_sem, E0.out, E1.out, E2.out, E3.out]) rfl ⟨rfl, B.out⟩
/-- What comes of joining with one, with the square. -/
theorem joined_one {w : World} {g o Wd M low one sq Ri a : Nat} (F : FH w g o Wd M low one sq) (fl : Fld Wd M low one sq Ri) (ha : a < BB ^ Wd) :
    Calls Tryz.prog 123 #[.pointer (some ⟨g, o, none⟩), A4 a, A4 one] w fun e w' => e = .returned (A4 (a % M)) ∧ Below w.heap.size w w' := by
  have hm := fl.m2
  refine (joined_any F fl ha (by rw [fl.o]; exact Nat.mod_lt _ (by omega))).mono ?_
  rintro e w' ⟨⟨r, rfl, h⟩, hb⟩
  rw [fl.of_one h]
  exact ⟨rfl, hb⟩
theorem joined_sq {w : World} {g o Wd M low one sq Ri a : Nat} (F : FH w g o Wd M low one sq) (fl : Fld Wd M low one sq Ri) (ha : a < BB ^ Wd) :
    Calls Tryz.prog 123 #[.pointer (some ⟨g, o, none⟩), A4 a, A4 sq] w fun e w' => e = .returned (A4 (a * BB ^ Wd % M)) ∧ Below w.heap.size w w' := by
  have hm := fl.m2
  refine (joined_any F fl ha (by rw [fl.s]; exact Nat.mod_lt _ (by omega))).mono ?_
  rintro e w' ⟨⟨r, rfl, h⟩, hb⟩
  rw [fl.of_sq h]
  exact ⟨rfl, hb⟩
/-- A number of the field. -/
def numF (M : Nat) (z : Int) : Nat := if z < 0 then subF M 0 ((-z).toNat % M) else z.toNat % M
theorem Fld.big {Wd M low one sq Ri : Nat} (fl : Fld Wd M low one sq Ri) : 2 * M ≤ BB ^ 4 := Nat.le_trans fl.m9 (Nat.pow_le_pow_right BB_pos fl.w4)
theorem Fld.word {Wd M low one sq Ri k : Nat} (fl : Fld Wd M low one sq Ri) (hk : k < BB) : k < BB ^ Wd := Nat.lt_of_lt_of_le hk (by
  have := Nat.pow_le_pow_right BB_pos fl.w1
  rwa [Nat.pow_one] at this)
theorem fnumberA {w : World} {g o Wd M low one sq Ri : Nat} (F : Hid (FH w g o Wd M low one sq)) (fl : Fld Wd M low one sq Ri) (z : Int) (h1 : -9223372036854775808 ≤ z) (h2 : z ≤ 9223372036854775807) :
    Calls Tryz.prog 103 #[.pointer (some ⟨g, o, none⟩), .int .i64 z] w fun e w' => e = .returned (A4 (numF M z)) ∧ Below w.heap.size w w' := by
  have hm := fl.m2
  have hM := fl.big
  unfold numF
  by_cases hz : z < 0
  · rw [if_pos hz]
    obtain ⟨k, hk⟩ : ∃ k, k = (-z).toNat := ⟨_, rfl⟩
    rw [← hk]
    have k9 : k < BB := by rw [BB_eq]; omega
    refine fnumber_neg F z k (18446744073709551616 - k) (w4 (k % M) 0) (w4 (k % M) 1) (w4 (k % M) 2) (w4 (k % M) 3) _ _ _ _ hz ?_ ?_ (fun W hF => ?_) (fun W hF => ?_)
    · rw [IntKind.wrap_u64]; omega
    · rw [IntKind.wrap_u64]; omega
    · rw [A4_small k9]; exact joined_one hF fl (fl.word k9)
    · have e : Value.agg #[.int .u64 0, .int .u64 0, .int .u64 0, .int .u64 0] = A4 0 := A4_small (k := 0) BB_pos
      rw [e]
      exact fminusA hF (by omega) (Nat.mod_lt _ (by omega)) hM
  · rw [if_neg hz]
    obtain ⟨k, hk⟩ : ∃ k, k = z.toNat := ⟨_, rfl⟩
    rw [← hk]
    have k9 : k < BB := by rw [BB_eq]; omega
    have ez : z = (k : Int) := by omega
    rw [ez]
    refine fnumber_pos F k _ _ _ _ (by omega) (fun W hF => ?_)
    rw [A4_small k9]; exact joined_one hF fl (fl.word k9)
end Go.Proofs.YtfbceknafmkipaaGreat

/- What is reduced. -/
set_option linter.unusedSimpArgs false
set_option linter.unusedVariables false
namespace Go.Proofs.YtfbceknafmkipaaGreat
open Go.RowKit Go.Deep Go.PlainAid

theorem numS_extract (s : ByteArray) (i j : Nat) : numS (s.extract i j) = beV ((s.data.toList.drop i).take (j - i)) := by
  unfold numS
  rw [ByteArray.data_extract, Array.toList_extract]
theorem size_extract (s : ByteArray) (i j : Nat) (h : j ≤ s.size) : (s.extract i j).size = j - i := by
  rw [ByteArray.size_extract]; omega
theorem beV_upto (l : List UInt8) (i j : Nat) (h : i ≤ j) (hj : j ≤ l.length) : beV (l.take j) = beV (l.take i) * 256 ^ (j - i) + beV ((l.drop i).take (j - i)) := by
  have e : l.take j = l.take i ++ (l.drop i).take (j - i) := by
    have q := List.take_append_drop i (l.take j)
    rw [List.take_take, Nat.min_eq_left h] at q
    rw [List.take_drop, show i + (j - i) = j by omega]
    exact q.symm
  rw [e, beV_append, List.length_take, List.length_drop, Nat.min_eq_left (by omega)]
theorem BB_pow (W : Nat) : BB ^ W = 256 ^ (W * 8) := by rw [BB_256, ← Nat.pow_mul, Nat.mul_comm]
theorem belowN_mod {M x y : Nat} (hx : x < M) (hy : y < M) : belowN M (x + y) = (x + y) % M := by
  unfold belowN
  split
  · rw [Nat.mod_eq_of_lt (by assumption)]
  · rw [Nat.mod_eq_sub_mod (by omega), Nat.mod_eq_of_lt (by omega)]
/-- One piece more. -/
theorem red_step {l : List UInt8} {M Wd i j S : Nat} (hM : 0 < M) (hij : i ≤ j) (hj : j ≤ l.length) (hS : S = beV (l.take i) % M) (h : i + Wd * 8 = j ∨ i = 0) :
    belowN M (S * BB ^ Wd % M + beV ((l.drop i).take (j - i)) % M) = beV (l.take j) % M := by
  rw [belowN_mod (Nat.mod_lt _ hM) (Nat.mod_lt _ hM), ← Nat.add_mod, beV_upto l i j hij hj]
  rcases h with h | h
  · rw [show j - i = Wd * 8 by omega, ← BB_pow, Nat.add_mod, hS, Nat.mod_mul_mod, ← Nat.add_mod]
  · subst h
    have : S = 0 := by rw [hS]; simp [beV]
    rw [this]
    simp [beV]
end Go.Proofs.YtfbceknafmkipaaGreat

/- What is told of a kind: Sizes, Order, Prime, Base. -/
set_option linter.unusedSimpArgs false
set_option linter.unusedVariables false
namespace Go.Proofs.YtfbceknafmkipaaGreat
open Go.RowKit Go.Deep Go.PlainAid

set_option maxRecDepth 100000 in
set_option maxHeartbeats 2000000 in
theorem sizes_any {w : World} {g S : Nat} (c0 : w.cell? ⟨g, 0, none⟩ = some (.int .i64 (S : Int))) :
    Calls Tryz.prog 87 #[.pointer (some ⟨g, 0, none⟩)] w fun e w' => e = .returned (.tuple #[.int .i64 (S : Int), .int .i64 0]) ∧ Below w.heap.size w w' := by
  go_enter Tryz.func87, Tryz.ntmps87
  go_wp2_with fail
  go_ret2
  exact ⟨rfl, Below.refl _ _⟩
set_option maxRecDepth 100000 in
set_option maxHeartbeats 2000000 in
theorem on46_ok {s : Int} {w : World} {z : Int} {G : Array Value} (hG : gz.size = G.size) (hi : (Tryz.prog.info? 128).map (·.size) = some G.size) (h1 : G.all (·.oneCell') = true)
    (CG : Hid (∀ W, Calls Tryz.prog 95 #[.int .i64 z] W fun e w' => e = .returned (.tuple #[.agg G, .bool true]) ∧ Below W.heap.size W w')) (HF : Hid (∀ W g, IHolds W g 128 G.toList → Calls Tryz.prog 87 #[.pointer (some ⟨g, 0, none⟩)] W fun e w' => e = .returned (.tuple #[.int .i64 s, .int .i64 0]) ∧ Below W.heap.size W w')) :
    Calls Tryz.prog 86 #[.int .i64 z, .func (.func 87) #[] #[]] w fun e w' => e = .returned (.tuple #[.int .i64 s, .int .i64 0]) ∧ Below w.heap.size w w' := by
  go_enter Tryz.func86, Tryz.ntmps86
  go_wp2_with fail
  refine (CG.out w).mono ?_
  rintro e U1 ⟨rfl, hb⟩
  have B : Hid (Below w.heap.size w U1) := hb
  clear hb
  have hg : (U1.alloc (.cells gz 128)).heap[U1.heap.size]? = some (.cells gz 128 (0, 0)) := by
    have h := IHolds.new U1 128 gz.toList
    unfold IHolds at h
    rw [Array.toArray_toList] at h
    exact h
  have J : Hid (IHolds (U1.alloc (.cells G 128)) U1.heap.size 128 G.toList) := by
    have h := IHolds.new U1 128 G.toList
    rw [Array.toArray_toList] at h
    exact h
  replace B := aB B (nB U1 (.cells G 128))
  go_wp2_with (refine wpList_store_row rfl 128 (.tmp 6) (.tmp 12) rfl U1.heap.size G rfl rfl 128 gz hg hi hG h1 ?_; rw [World.setRow_alloc_new]; clear hg)
  generalize U1.alloc (.cells G 128) = U2 at *
  refine (HF.out U2 _ J.out).mono ?_
  rintro e U3 ⟨rfl, hb⟩
  replace B := aB B hb
  clear hb
  go_wp2_with fail
  go_ret2
  exact ⟨rfl, B.out⟩
set_option maxRecDepth 100000 in
set_option maxHeartbeats 2000000 in
theorem on46_no (F : Nat) {w : World} {z : Int} {G : Array Value} (hG : gz.size = G.size) (hi : (Tryz.prog.info? 128).map (·.size) = some G.size) (h1 : G.all (·.oneCell') = true)
    (CG : Hid (∀ W, Calls Tryz.prog 95 #[.int .i64 z] W fun e w' => e = .returned (.tuple #[.agg G, .bool false]) ∧ Below W.heap.size W w'))  :
    Calls Tryz.prog 86 #[.int .i64 z, .func (.func F) #[] #[]] w fun e w' => e = .returned (.tuple #[.int .i64 0, .int .i64 1]) ∧ Below w.heap.size w w' := by
  go_enter Tryz.func86, Tryz.ntmps86
  go_wp2_with fail
  refine (CG.out w).mono ?_
  rintro e U1 ⟨rfl, hb⟩
  have B : Hid (Below w.heap.size w U1) := hb
  clear hb
  have hg : (U1.alloc (.cells gz 128)).heap[U1.heap.size]? = some (.cells gz 128 (0, 0)) := by
    have h := IHolds.new U1 128 gz.toList
    unfold IHolds at h
    rw [Array.toArray_toList] at h
    exact h
  have J : Hid (IHolds (U1.alloc (.cells G 128)) U1.heap.size 128 G.toList) := by
    have h := IHolds.new U1 128 G.toList
    rw [Array.toArray_toList] at h
    exact h
  replace B := aB B (nB U1 (.cells G 128))
  go_wp2_with (refine wpList_store_row rfl 128 (.tmp 6) (.tmp 12) rfl U1.heap.size G rfl rfl 128 gz hg hi hG h1 ?_; rw [World.setRow_alloc_new]; clear hg)
  go_ret2
  exact ⟨rfl, B.out⟩
set_option maxRecDepth 100000 in
set_option maxHeartbeats 2000000 in
theorem on48_no (F : Nat) {w : World} {z : Int} {G : Array Value} (hG : gz.size = G.size) (hi : (Tryz.prog.info? 128).map (·.size) = some G.size) (h1 : G.all (·.oneCell') = true)
    (CG : Hid (∀ W, Calls Tryz.prog 95 #[.int .i64 z] W fun e w' => e = .returned (.tuple #[.agg G, .bool false]) ∧ Below W.heap.size W w'))  :
    Calls Tryz.prog 100 #[.int .i64 z, .func (.func F) #[] #[]] w fun e w' => e = .returned (.tuple #[.string ⟨#[]⟩, .int .i64 1]) ∧ Below w.heap.size w w' := by
  go_enter Tryz.func100, Tryz.ntmps100
  go_wp2_with fail
  refine (CG.out w).mono ?_
  rintro e U1 ⟨rfl, hb⟩
  have B : Hid (Below w.heap.size w U1) := hb
  clear hb
  have hg : (U1.alloc (.cells gz 128)).heap[U1.heap.size]? = some (.cells gz 128 (0, 0)) := by
    have h := IHolds.new U1 128 gz.toList
    unfold IHolds at h
    rw [Array.toArray_toList] at h
    exact h
  have J : Hid (IHolds (U1.alloc (.cells G 128)) U1.heap.size 128 G.toList) := by
    have h := IHolds.new U1 128 G.toList
    rw [Array.toArray_toList] at h
    exact h
  replace B := aB B (nB U1 (.cells G 128))
  go_wp2_with (refine wpList_store_row rfl 128 (.tmp 6) (.tmp 12) rfl U1.heap.size G rfl rfl 128 gz hg hi hG h1 ?_; rw [World.setRow_alloc_new]; clear hg)
  go_ret2
  exact ⟨rfl, B.out⟩
set_option maxRecDepth 100000 in
set_option maxHeartbeats 2000000 in
theorem sizes_call {w : World} {z : Int} {s c : Int} (H : Hid (Calls Tryz.prog 86 #[.int .i64 z, .func (.func 87) #[] #[]] w fun e w' => e = .returned (.tuple #[.int .i64 s, .int .i64 c]) ∧ Below w.heap.size w w')) :
    Calls Tryz.prog 60 #[.int .i64 z] w fun e w' => e = .returned (.tuple #[.int .i64 s, .int .i64 s, .int .i64 c]) ∧ Below w.heap.size w w' := by
  go_enter Tryz.func60, Tryz.ntmps60
  go_wp2_with fail
  refine H.out.mono ?_
  rintro e U1 ⟨rfl, hb⟩
  have B : Hid (Below w.heap.size w U1) := hb
  clear hb
  go_wp2_with fail
  exact bodyPost_ret (v := .tuple #[.int .i64 s, .int .i64 s, .int .i64 c]) (by simp [results, Tryz.results60, go_sem]) rfl ⟨rfl, B.out⟩
set_option maxRecDepth 100000 in
set_option maxHeartbeats 2000000 in
theorem on48_52 {w : World} {z : Int} {G : Array Value} {cp : Nat} {ct : TypeId} {cv : Value} {t : ByteArray} {c : Int} (hcp : Hid (IHolds w cp ct [cv])) (hG : gz.size = G.size) (hi : (Tryz.prog.info? 128).map (·.size) = some G.size) (h1 : G.all (·.oneCell') = true)
    (CG : Hid (∀ W, Calls Tryz.prog 95 #[.int .i64 z] W fun e w' => e = .returned (.tuple #[.agg G, .bool true]) ∧ Below W.heap.size W w')) (HF : Hid (∀ W g, IHolds W g 128 G.toList → IHolds W cp ct [cv] → Calls Tryz.prog 101 #[.pointer (some ⟨g, 0, none⟩), .pointer (some ⟨cp, 0, none⟩)] W fun e w' => e = .returned (.tuple #[.string t, .int .i64 c]) ∧ Below W.heap.size W w')) :
    Calls Tryz.prog 100 #[.int .i64 z, .func (.func 101) #[] #[.pointer (some ⟨cp, 0, none⟩)]] w fun e w' => e = .returned (.tuple #[.string t, .int .i64 c]) ∧ Below w.heap.size w w' := by
  go_enter Tryz.func100, Tryz.ntmps100
  go_wp2_with fail
  refine (CG.out w).mono ?_
  rintro e U1 ⟨rfl, hb⟩
  have B : Hid (Below w.heap.size w U1) := hb
  replace hcp := aJ hcp hb
  clear hb
  have hg : (U1.alloc (.cells gz 128)).heap[U1.heap.size]? = some (.cells gz 128 (0, 0)) := by
    have h := IHolds.new U1 128 gz.toList
    unfold IHolds at h
    rw [Array.toArray_toList] at h
    exact h
  have J : Hid (IHolds (U1.alloc (.cells G 128)) U1.heap.size 128 G.toList) := by
    have h := IHolds.new U1 128 G.toList
    rw [Array.toArray_toList] at h
    exact h
  replace B := aB B (nB U1 (.cells G 128))
  replace hcp := aJ hcp (nB U1 (.cells G 128))
  go_wp2_with (refine wpList_store_row rfl 128 (.tmp 6) (.tmp 12) rfl U1.heap.size G rfl rfl 128 gz hg hi hG h1 ?_; rw [World.setRow_alloc_new]; clear hg)
  generalize U1.alloc (.cells G 128) = U2 at *
  refine (HF.out U2 _ J.out hcp.out).mono ?_
  rintro e U3 ⟨rfl, hb⟩
  replace B := aB B hb
  clear hb
  go_wp2_with fail
  go_ret2
  exact ⟨rfl, B.out⟩
set_option maxRecDepth 100000 in
set_option maxHeartbeats 2000000 in
theorem on48c_no {F : Nat} {w : World} {z : Int} {G : Array Value} {cp : Nat} {ct : TypeId} {cv : Value}  (hcp : Hid (IHolds w cp ct [cv])) (hG : gz.size = G.size) (hi : (Tryz.prog.info? 128).map (·.size) = some G.size) (h1 : G.all (·.oneCell') = true)
    (CG : Hid (∀ W, Calls Tryz.prog 95 #[.int .i64 z] W fun e w' => e = .returned (.tuple #[.agg G, .bool false]) ∧ Below W.heap.size W w'))  :
    Calls Tryz.prog 100 #[.int .i64 z, .func (.func F) #[] #[.pointer (some ⟨cp, 0, none⟩)]] w fun e w' => e = .returned (.tuple #[.string ⟨#[]⟩, .int .i64 1]) ∧ Below w.heap.size w w' := by
  go_enter Tryz.func100, Tryz.ntmps100
  go_wp2_with fail
  refine (CG.out w).mono ?_
  rintro e U1 ⟨rfl, hb⟩
  have B : Hid (Below w.heap.size w U1) := hb
  replace hcp := aJ hcp hb
  clear hb
  have hg : (U1.alloc (.cells gz 128)).heap[U1.heap.size]? = some (.cells gz 128 (0, 0)) := by
    have h := IHolds.new U1 128 gz.toList
    unfold IHolds at h
    rw [Array.toArray_toList] at h
    exact h
  have J : Hid (IHolds (U1.alloc (.cells G 128)) U1.heap.size 128 G.toList) := by
    have h := IHolds.new U1 128 G.toList
    rw [Array.toArray_toList] at h
    exact h
  replace B := aB B (nB U1 (.cells G 128))
  replace hcp := aJ hcp (nB U1 (.cells G 128))
  go_wp2_with (refine wpList_store_row rfl 128 (.tmp 6) (.tmp 12) rfl U1.heap.size G rfl rfl 128 gz hg hi hG h1 ?_; rw [World.setRow_alloc_new]; clear hg)
  go_ret2
  exact ⟨rfl, B.out⟩
set_option maxRecDepth 100000 in
set_option maxHeartbeats 2000000 in
theorem on57_58 {w : World} {z : Int} {G : Array Value} {cp : Nat} {ct : TypeId} {cv : Value} {z0 z1 z2 z3 : Nat} {c : Int} (hcp : Hid (IHolds w cp ct [cv])) (hG : gz.size = G.size) (hi : (Tryz.prog.info? 128).map (·.size) = some G.size) (h1 : G.all (·.oneCell') = true)
    (CG : Hid (∀ W, Calls Tryz.prog 95 #[.int .i64 z] W fun e w' => e = .returned (.tuple #[.agg G, .bool true]) ∧ Below W.heap.size W w')) (HF : Hid (∀ W g, IHolds W g 128 G.toList → IHolds W cp ct [cv] → Calls Tryz.prog 73 #[.pointer (some ⟨g, 0, none⟩), .pointer (some ⟨cp, 0, none⟩)] W fun e w' => e = .returned (.tuple #[.agg #[U z0, U z1, U z2, U z3], .int .i64 c]) ∧ Below W.heap.size W w')) :
    Calls Tryz.prog 72 #[.int .i64 z, .func (.func 73) #[] #[.pointer (some ⟨cp, 0, none⟩)]] w fun e w' => e = .returned (.tuple #[.agg #[U z0, U z1, U z2, U z3], .int .i64 c]) ∧ Below w.heap.size w w' := by
  have JR : Hid (IHolds (w.alloc (.cells #[.int .u64 0, .int .u64 0, .int .u64 0, .int .u64 0] 103)) w.heap.size 103 [.int .u64 0, .int .u64 0, .int .u64 0, .int .u64 0]) := IHolds.new w 103 _
  have B : Hid (Below w.heap.size w (w.alloc (.cells #[.int .u64 0, .int .u64 0, .int .u64 0, .int .u64 0] 103))) := nB _ _
  replace hcp := aJ hcp (nB w (.cells #[.int .u64 0, .int .u64 0, .int .u64 0, .int .u64 0] 103))
  go_enter Tryz.func72, Tryz.ntmps72
  go_wp2_with fail
  generalize w.alloc (.cells #[.int .u64 0, .int .u64 0, .int .u64 0, .int .u64 0] 103) = U0 at *
  refine (CG.out U0).mono ?_
  rintro e U1 ⟨rfl, hb⟩
  replace B := aB B hb
  replace JR := aJ JR hb
  replace hcp := aJ hcp hb
  clear hb
  have hg : (U1.alloc (.cells gz 128)).heap[U1.heap.size]? = some (.cells gz 128 (0, 0)) := by
    have h := IHolds.new U1 128 gz.toList
    unfold IHolds at h
    rw [Array.toArray_toList] at h
    exact h
  have J : Hid (IHolds (U1.alloc (.cells G 128)) U1.heap.size 128 G.toList) := by
    have h := IHolds.new U1 128 G.toList
    rw [Array.toArray_toList] at h
    exact h
  replace B := aB B (nB U1 (.cells G 128))
  replace hcp := aJ hcp (nB U1 (.cells G 128))
  replace JR := aJ JR (nB U1 (.cells G 128))
  go_wp2_with (refine wpList_store_row rfl 128 (.tmp 6) (.tmp 12) rfl U1.heap.size G rfl rfl 128 gz hg hi hG h1 ?_; rw [World.setRow_alloc_new]; clear hg)
  generalize U1.alloc (.cells G 128) = U2 at *
  refine (HF.out U2 _ J.out hcp.out).mono ?_
  rintro e U3 ⟨rfl, hb⟩
  replace B := aB B hb
  replace JR := aJ JR hb
  clear hb
  have d0 : U3.cell? ⟨w.heap.size, 0, none⟩ = some (.int .u64 0) := JR.out.cell 0 (by simp)
  have d1 : U3.cell? ⟨w.heap.size, 1, none⟩ = some (.int .u64 0) := JR.out.cell 1 (by simp)
  have d2 : U3.cell? ⟨w.heap.size, 2, none⟩ = some (.int .u64 0) := JR.out.cell 2 (by simp)
  have d3 : U3.cell? ⟨w.heap.size, 3, none⟩ = some (.int .u64 0) := JR.out.cell 3 (by simp)
  have f0 : ∀ i, U3.frozen? ⟨w.heap.size, i, none⟩ = false := fun i => JR.out.frozen i
  obtain ⟨W9, hW9⟩ : ∃ X, X = (((U3.setCell ⟨w.heap.size, 0, none⟩ (U z0)).setCell ⟨w.heap.size, 1, none⟩ (U z1)).setCell ⟨w.heap.size, 2, none⟩ (U z2)).setCell ⟨w.heap.size, 3, none⟩ (U z3) := ⟨_, rfl⟩
  have hZ9 : Hid (IHolds W9 w.heap.size 103 [U z0, U z1, U z2, U z3]) := by
    show IHolds _ _ _ _
    rw [hW9]; exact (((JR.out.set 0 (U z0)).set 1 (U z1)).set 2 (U z2)).set 3 (U z3)
  have hB9 : Hid (Below w.heap.size w W9) := by
    show Below _ _ _
    rw [hW9]; exact (((B.out.setCell (Nat.le_refl _) _).setCell (Nat.le_refl _) _).setCell (Nat.le_refl _) _).setCell (Nat.le_refl _) _
  go_wp2_with fail
  rw [← hW9]
  clear hW9 d0 d1 d2 d3 f0 JR B
  have E0 : W9.cell? ⟨w.heap.size, 0, none⟩ = some (U z0) := hZ9.out.cell 0 (by simp)
  have E1 : W9.cell? ⟨w.heap.size, 1, none⟩ = some (U z1) := hZ9.out.cell 1 (by simp)
  have E2 : W9.cell? ⟨w.heap.size, 2, none⟩ = some (U z2) := hZ9.out.cell 2 (by simp)
  have E3 : W9.cell? ⟨w.heap.size, 3, none⟩ = some (U z3) := hZ9.out.cell 3 (by simp)
  exact bodyPost_ret (v := .tuple #[.agg #[U z0, U z1, U z2, U z3], .int .i64 c]) (by simp [results, Tryz.results72, go_sem, E0, E1, E2, E3]) rfl ⟨rfl, hB9.out⟩
set_option maxRecDepth 100000 in
set_option maxHeartbeats 2000000 in
theorem on57_60 {w : World} {z : Int} {G : Array Value} {cp : Nat} {ct : TypeId} {cv : Value} {z0 z1 z2 z3 : Nat} {c : Int} (hcp : Hid (IHolds w cp ct [cv])) (hG : gz.size = G.size) (hi : (Tryz.prog.info? 128).map (·.size) = some G.size) (h1 : G.all (·.oneCell') = true)
    (CG : Hid (∀ W, Calls Tryz.prog 95 #[.int .i64 z] W fun e w' => e = .returned (.tuple #[.agg G, .bool true]) ∧ Below W.heap.size W w')) (HF : Hid (∀ W g, IHolds W g 128 G.toList → IHolds W cp ct [cv] → Calls Tryz.prog 140 #[.pointer (some ⟨g, 0, none⟩), .pointer (some ⟨cp, 0, none⟩)] W fun e w' => e = .returned (.tuple #[.agg #[U z0, U z1, U z2, U z3], .int .i64 c]) ∧ Below W.heap.size W w')) :
    Calls Tryz.prog 72 #[.int .i64 z, .func (.func 140) #[] #[.pointer (some ⟨cp, 0, none⟩)]] w fun e w' => e = .returned (.tuple #[.agg #[U z0, U z1, U z2, U z3], .int .i64 c]) ∧ Below w.heap.size w w' := by
  have JR : Hid (IHolds (w.alloc (.cells #[.int .u64 0, .int .u64 0, .int .u64 0, .int .u64 0] 103)) w.heap.size 103 [.int .u64 0, .int .u64 0, .int .u64 0, .int .u64 0]) := IHolds.new w 103 _
  have B : Hid (Below w.heap.size w (w.alloc (.cells #[.int .u64 0, .int .u64 0, .int .u64 0, .int .u64 0] 103))) := nB _ _
  replace hcp := aJ hcp (nB w (.cells #[.int .u64 0, .int .u64 0, .int .u64 0, .int .u64 0] 103))
  go_enter Tryz.func72, Tryz.ntmps72
  go_wp2_with fail
  generalize w.alloc (.cells #[.int .u64 0, .int .u64 0, .int .u64 0, .int .u64 0] 103) = U0 at *
  refine (CG.out U0).mono ?_
  rintro e U1 ⟨rfl, hb⟩
  replace B := aB B hb
  replace JR := aJ JR hb
  replace hcp := aJ hcp hb
  clear hb
  have hg : (U1.alloc (.cells gz 128)).heap[U1.heap.size]? = some (.cells gz 128 (0, 0)) := by
    have h := IHolds.new U1 128 gz.toList
    unfold IHolds at h
    rw [Array.toArray_toList] at h
    exact h
  have J : Hid (IHolds (U1.alloc (.cells G 128)) U1.heap.size 128 G.toList) := by
    have h := IHolds.new U1 128 G.toList
    rw [Array.toArray_toList] at h
    exact h
  replace B := aB B (nB U1 (.cells G 128))
  replace hcp := aJ hcp (nB U1 (.cells G 128))
  replace JR := aJ JR (nB U1 (.cells G 128))
  go_wp2_with (refine wpList_store_row rfl 128 (.tmp 6) (.tmp 12) rfl U1.heap.size G rfl rfl 128 gz hg hi hG h1 ?_; rw [World.setRow_alloc_new]; clear hg)
  generalize U1.alloc (.cells G 128) = U2 at *
  refine (HF.out U2 _ J.out hcp.out).mono ?_
  rintro e U3 ⟨rfl, hb⟩
  replace B := aB B hb
  replace JR := aJ JR hb
  clear hb
  have d0 : U3.cell? ⟨w.heap.size, 0, none⟩ = some (.int .u64 0) := JR.out.cell 0 (by simp)
  have d1 : U3.cell? ⟨w.heap.size, 1, none⟩ = some (.int .u64 0) := JR.out.cell 1 (by simp)
  have d2 : U3.cell? ⟨w.heap.size, 2, none⟩ = some (.int .u64 0) := JR.out.cell 2 (by simp)
  have d3 : U3.cell? ⟨w.heap.size, 3, none⟩ = some (.int .u64 0) := JR.out.cell 3 (by simp)
  have f0 : ∀ i, U3.frozen? ⟨w.heap.size, i, none⟩ = false := fun i => JR.out.frozen i
  obtain ⟨W9, hW9⟩ : ∃ X, X = (((U3.setCell ⟨w.heap.size, 0, none⟩ (U z0)).setCell ⟨w.heap.size, 1, none⟩ (U z1)).setCell ⟨w.heap.size, 2, none⟩ (U z2)).setCell ⟨w.heap.size, 3, none⟩ (U z3) := ⟨_, rfl⟩
  have hZ9 : Hid (IHolds W9 w.heap.size 103 [U z0, U z1, U z2, U z3]) := by
    show IHolds _ _ _ _
    rw [hW9]; exact (((JR.out.set 0 (U z0)).set 1 (U z1)).set 2 (U z2)).set 3 (U z3)
  have hB9 : Hid (Below w.heap.size w W9) := by
    show Below _ _ _
    rw [hW9]; exact (((B.out.setCell (Nat.le_refl _) _).setCell (Nat.le_refl _) _).setCell (Nat.le_refl _) _).setCell (Nat.le_refl _) _
  go_wp2_with fail
  rw [← hW9]
  clear hW9 d0 d1 d2 d3 f0 JR B
  have E0 : W9.cell? ⟨w.heap.size, 0, none⟩ = some (U z0) := hZ9.out.cell 0 (by simp)
  have E1 : W9.cell? ⟨w.heap.size, 1, none⟩ = some (U z1) := hZ9.out.cell 1 (by simp)
  have E2 : W9.cell? ⟨w.heap.size, 2, none⟩ = some (U z2) := hZ9.out.cell 2 (by simp)
  have E3 : W9.cell? ⟨w.heap.size, 3, none⟩ = some (U z3) := hZ9.out.cell 3 (by simp)
  exact bodyPost_ret (v := .tuple #[.agg #[U z0, U z1, U z2, U z3], .int .i64 c]) (by simp [results, Tryz.results72, go_sem, E0, E1, E2, E3]) rfl ⟨rfl, hB9.out⟩
set_option maxRecDepth 100000 in
set_option maxHeartbeats 2000000 in
theorem on57_no {F : Nat} {w : World} {z : Int} {G : Array Value} {cp : Nat} {ct : TypeId} {cv : Value}  (hcp : Hid (IHolds w cp ct [cv])) (hG : gz.size = G.size) (hi : (Tryz.prog.info? 128).map (·.size) = some G.size) (h1 : G.all (·.oneCell') = true)
    (CG : Hid (∀ W, Calls Tryz.prog 95 #[.int .i64 z] W fun e w' => e = .returned (.tuple #[.agg G, .bool false]) ∧ Below W.heap.size W w'))  :
    Calls Tryz.prog 72 #[.int .i64 z, .func (.func F) #[] #[.pointer (some ⟨cp, 0, none⟩)]] w fun e w' => e = .returned (.tuple #[.agg #[.int .u64 0, .int .u64 0, .int .u64 0, .int .u64 0], .int .i64 1]) ∧ Below w.heap.size w w' := by
  have JR : Hid (IHolds (w.alloc (.cells #[.int .u64 0, .int .u64 0, .int .u64 0, .int .u64 0] 103)) w.heap.size 103 [.int .u64 0, .int .u64 0, .int .u64 0, .int .u64 0]) := IHolds.new w 103 _
  have B : Hid (Below w.heap.size w (w.alloc (.cells #[.int .u64 0, .int .u64 0, .int .u64 0, .int .u64 0] 103))) := nB _ _
  replace hcp := aJ hcp (nB w (.cells #[.int .u64 0, .int .u64 0, .int .u64 0, .int .u64 0] 103))
  go_enter Tryz.func72, Tryz.ntmps72
  go_wp2_with fail
  generalize w.alloc (.cells #[.int .u64 0, .int .u64 0, .int .u64 0, .int .u64 0] 103) = U0 at *
  refine (CG.out U0).mono ?_
  rintro e U1 ⟨rfl, hb⟩
  replace B := aB B hb
  replace JR := aJ JR hb
  replace hcp := aJ hcp hb
  clear hb
  have hg : (U1.alloc (.cells gz 128)).heap[U1.heap.size]? = some (.cells gz 128 (0, 0)) := by
    have h := IHolds.new U1 128 gz.toList
    unfold IHolds at h
    rw [Array.toArray_toList] at h
    exact h
  have J : Hid (IHolds (U1.alloc (.cells G 128)) U1.heap.size 128 G.toList) := by
    have h := IHolds.new U1 128 G.toList
    rw [Array.toArray_toList] at h
    exact h
  replace B := aB B (nB U1 (.cells G 128))
  replace hcp := aJ hcp (nB U1 (.cells G 128))
  replace JR := aJ JR (nB U1 (.cells G 128))
  obtain ⟨U2, hU2⟩ : ∃ X, X = U1.alloc (.cells G 128) := ⟨_, rfl⟩
  rw [← hU2] at J B hcp JR
  have B2 := aB B (nB U2 (.cells #[.int .u64 0, .int .u64 0, .int .u64 0, .int .u64 0] 103))
  have JR2 := aJ JR (nB U2 (.cells #[.int .u64 0, .int .u64 0, .int .u64 0, .int .u64 0] 103))
  have JN : Hid (IHolds (U2.alloc (.cells #[.int .u64 0, .int .u64 0, .int .u64 0, .int .u64 0] 103)) U2.heap.size 103 [.int .u64 0, .int .u64 0, .int .u64 0, .int .u64 0]) := IHolds.new _ _ _
  obtain ⟨U3, hU3⟩ : ∃ X, X = U2.alloc (.cells #[.int .u64 0, .int .u64 0, .int .u64 0, .int .u64 0] 103) := ⟨_, rfl⟩
  rw [← hU3] at B2 JR2 JN
  have a0 : (U2.alloc (.cells #[.int .u64 0, .int .u64 0, .int .u64 0, .int .u64 0] 103)).cell? ⟨U2.heap.size, 0, none⟩ = some (.int .u64 0) := by rw [← hU3]; exact JN.out.cell 0 (by simp)
  have a1 : (U2.alloc (.cells #[.int .u64 0, .int .u64 0, .int .u64 0, .int .u64 0] 103)).cell? ⟨U2.heap.size, 1, none⟩ = some (.int .u64 0) := by rw [← hU3]; exact JN.out.cell 1 (by simp)
  have a2 : (U2.alloc (.cells #[.int .u64 0, .int .u64 0, .int .u64 0, .int .u64 0] 103)).cell? ⟨U2.heap.size, 2, none⟩ = some (.int .u64 0) := by rw [← hU3]; exact JN.out.cell 2 (by simp)
  have a3 : (U2.alloc (.cells #[.int .u64 0, .int .u64 0, .int .u64 0, .int .u64 0] 103)).cell? ⟨U2.heap.size, 3, none⟩ = some (.int .u64 0) := by rw [← hU3]; exact JN.out.cell 3 (by simp)
  have d0 : (U2.alloc (.cells #[.int .u64 0, .int .u64 0, .int .u64 0, .int .u64 0] 103)).cell? ⟨w.heap.size, 0, none⟩ = some (.int .u64 0) := by rw [← hU3]; exact JR2.out.cell 0 (by simp)
  have d1 : (U2.alloc (.cells #[.int .u64 0, .int .u64 0, .int .u64 0, .int .u64 0] 103)).cell? ⟨w.heap.size, 1, none⟩ = some (.int .u64 0) := by rw [← hU3]; exact JR2.out.cell 1 (by simp)
  have d2 : (U2.alloc (.cells #[.int .u64 0, .int .u64 0, .int .u64 0, .int .u64 0] 103)).cell? ⟨w.heap.size, 2, none⟩ = some (.int .u64 0) := by rw [← hU3]; exact JR2.out.cell 2 (by simp)
  have d3 : (U2.alloc (.cells #[.int .u64 0, .int .u64 0, .int .u64 0, .int .u64 0] 103)).cell? ⟨w.heap.size, 3, none⟩ = some (.int .u64 0) := by rw [← hU3]; exact JR2.out.cell 3 (by simp)
  have f0 : ∀ i, (U2.alloc (.cells #[.int .u64 0, .int .u64 0, .int .u64 0, .int .u64 0] 103)).frozen? ⟨w.heap.size, i, none⟩ = false := by rw [← hU3]; exact fun i => JR2.out.frozen i
  obtain ⟨W9, hW9⟩ : ∃ X, X = ((((U2.alloc (.cells #[.int .u64 0, .int .u64 0, .int .u64 0, .int .u64 0] 103)).setCell ⟨w.heap.size, 0, none⟩ (.int .u64 0)).setCell ⟨w.heap.size, 1, none⟩ (.int .u64 0)).setCell ⟨w.heap.size, 2, none⟩ (.int .u64 0)).setCell ⟨w.heap.size, 3, none⟩ (.int .u64 0) := ⟨_, rfl⟩
  have hZ9 : Hid (IHolds W9 w.heap.size 103 [.int .u64 0, .int .u64 0, .int .u64 0, .int .u64 0]) := by
    show IHolds _ _ _ _
    rw [hW9, ← hU3]; exact (((JR2.out.set 0 (.int .u64 0)).set 1 (.int .u64 0)).set 2 (.int .u64 0)).set 3 (.int .u64 0)
  have hB9 : Hid (Below w.heap.size w W9) := by
    show Below _ _ _
    rw [hW9, ← hU3]; exact (((B2.out.setCell (Nat.le_refl _) _).setCell (Nat.le_refl _) _).setCell (Nat.le_refl _) _).setCell (Nat.le_refl _) _
  clear hU3 B B2 JR JR2 JN J hcp
  go_wp2_with (refine wpList_store_row rfl 128 (.tmp 6) (.tmp 12) rfl U1.heap.size G rfl rfl 128 gz hg hi hG h1 ?_; rw [World.setRow_alloc_new, ← hU2]; clear hg hU2)
  rw [← hW9]
  clear hW9 a0 a1 a2 a3 d0 d1 d2 d3 f0
  have E0 : W9.cell? ⟨w.heap.size, 0, none⟩ = some (.int .u64 0) := hZ9.out.cell 0 (by simp)
  have E1 : W9.cell? ⟨w.heap.size, 1, none⟩ = some (.int .u64 0) := hZ9.out.cell 1 (by simp)
  have E2 : W9.cell? ⟨w.heap.size, 2, none⟩ = some (.int .u64 0) := hZ9.out.cell 2 (by simp)
  have E3 : W9.cell? ⟨w.heap.size, 3, none⟩ = some (.int .u64 0) := hZ9.out.cell 3 (by simp)
  exact bodyPost_ret (v := .tuple #[.agg #[.int .u64 0, .int .u64 0, .int .u64 0, .int .u64 0], .int .i64 1]) (by simp [results, Tryz.results72, go_sem, E0, E1, E2, E3]) rfl ⟨rfl, hB9.out⟩
end Go.Proofs.YtfbceknafmkipaaGreat

/- Numbers of four words: is it nothing? -/
set_option linter.unusedSimpArgs false
set_option linter.unusedVariables false
namespace Go.Proofs.YtfbceknafmkipaaGreat
open Go.RowKit Go.Deep Go.PlainAid

theorem info64some : ∃ i, Tryz.prog.info? 101 = some i := by
  have h : (Tryz.prog.info? 101).isSome = true := by kernel_rfl
  exact Option.isSome_iff_exists.1 h
theorem cells64 : Tryz.prog.cellsOf 101 = 1 := by kernel_rfl
theorem size64 : (Tryz.prog.info? 101).map (·.size) = some 1 := by kernel_rfl
set_option maxRecDepth 100000 in
theorem eq66 (W : World) (z0 z1 z2 z3 : Nat) : (Op.equalIn 10000 103 (.agg #[U z0, U z1, U z2, U z3]) (.agg #[.int .u64 0, .int .u64 0, .int .u64 0, .int .u64 0])).run Tryz.prog W = .ok (decide (z0 = 0 ∧ z1 = 0 ∧ z2 = 0 ∧ z3 = 0)) W := by
  obtain ⟨i, hi⟩ := info64some
  have e := run_equalIn_array (P := Tryz.prog) W 9999 (t := 103) (e := 101) (n := 4) #[U z0, U z1, U z2, U z3] #[.int .u64 0, .int .u64 0, .int .u64 0, .int .u64 0] Tryz.underlying103 hi
  rw [e, cells64]
  have hu := Tryz.underlying101
  have q : ∀ (d : Nat) (a b : Int) (w : World), (Op.equalIn (d + 1) 101 (.int .u64 a) (.int .u64 b)).run Tryz.prog w = .ok (a == b) w := fun d a b w => run_equalIn_int w d 101 .u64 .u64 a b hu
  have q9 : ∀ (a b : Int) (w : World), (Op.equalIn 9999 101 (.int .u64 a) (.int .u64 b)).run Tryz.prog w = .ok (a == b) w := q 9998
  clear q
  have pk : Tryz.prog.plainKey 101 = true := by kernel_rfl
  have pp : ∀ (xs : Array Value) (off : Nat) (v : Value), xs[off]? = some v → (part 101 xs off).run Tryz.prog W = .ok v W := fun xs off v h => run_part_plain W pk h
  have a0 := pp #[U z0, U z1, U z2, U z3] 0 (U z0) rfl
  have a1 := pp #[U z0, U z1, U z2, U z3] 1 (U z1) rfl
  have a2 := pp #[U z0, U z1, U z2, U z3] 2 (U z2) rfl
  have a3 := pp #[U z0, U z1, U z2, U z3] 3 (U z3) rfl
  have b0 := pp #[.int .u64 0, .int .u64 0, .int .u64 0, .int .u64 0] 0 (.int .u64 0) rfl
  have b1 := pp #[.int .u64 0, .int .u64 0, .int .u64 0, .int .u64 0] 1 (.int .u64 0) rfl
  have b2 := pp #[.int .u64 0, .int .u64 0, .int .u64 0, .int .u64 0] 2 (.int .u64 0) rfl
  have b3 := pp #[.int .u64 0, .int .u64 0, .int .u64 0, .int .u64 0] 3 (.int .u64 0) rfl
  clear pp e
  generalize (#[U z0, U z1, U z2, U z3] : Array Value) = xs at *
  generalize (#[.int .u64 0, .int .u64 0, .int .u64 0, .int .u64 0] : Array Value) = ys at *
  simp only [show List.range 4 = [0, 1, 2, 3] from rfl, Op.eqItems, Sem.run_bind, Nat.zero_mul, Nat.one_mul, Nat.mul_one, a0, a1, a2, a3, b0, b1, b2, b3, Result.andThen_ok, q9]
  by_cases h0 : z0 = 0
  · by_cases h1 : z1 = 0
    · by_cases h2 : z2 = 0
      · by_cases h3 : z3 = 0 <;> simp [h0, h1, h2, h3, a0, a1, a2, a3, b0, b1, b2, b3, q9]
      · simp [h0, h1, h2, a0, a1, a2, a3, b0, b1, b2, b3, q9]
    · simp [h0, h1, a0, a1, a2, a3, b0, b1, b2, b3, q9]
  · simp [h0, a0, a1, a2, a3, b0, b1, b2, b3, q9]
end Go.Proofs.YtfbceknafmkipaaGreat

