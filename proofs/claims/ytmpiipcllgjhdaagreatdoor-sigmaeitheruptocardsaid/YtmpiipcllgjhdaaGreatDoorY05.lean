/- The field's numbers, and what is reduced. wrongPair, groundOf, alone. extract. Claims in memory, and what is asked of them where nothing is wrong. -/
import Derived.Test.YtmpiipcllgjhdaaGreatDoorY04
import Derived.Test.YtmpiipcllgjhdaaGreatDoorY03
import Derived.ChangeKeysEq
import Derived.Test.YtmpiipcllgjhdaaGreatDoorY02
set_option linter.unusedSimpArgs false
set_option linter.unusedVariables false
set_option maxRecDepth 100000
namespace Go.Proofs.YtmpiipcllgjhdaaGreatDoor
open Go.RowKit Go.Deep Go.PlainAid

theorem A4_small {k : Nat} (h : k < BB) : Value.agg #[U k, .int .u64 0, .int .u64 0, .int .u64 0] = A4 k := by
  refine A4_of (a := k) (b := 0) (c := 0) (d := 0) ?_ (by simp [vl])
  intro x hx
  simp only [List.mem_cons, List.not_mem_nil, or_false] at hx
  have := BB_pos
  omega
set_option maxRecDepth 100000 in
set_option maxHeartbeats 2000000 in
theorem fnumber_pos {w : World} {g o Wd M low one sq : Nat} (F : Hid (FH w g o Wd M low one sq)) (k : Nat) (v0 v1 v2 v3 : Nat) (hk : k ≤ 9223372036854775807) (C1 : Hid (∀ W, FH W g o Wd M low one sq → Calls Tryz.prog 109 #[.pointer (some ⟨g, o, none⟩), .agg #[U k, .int .u64 0, .int .u64 0, .int .u64 0], .agg #[U (w4 one 0), U (w4 one 1), U (w4 one 2), U (w4 one 3)]] W fun e w' => e = .returned (.agg #[U v0, U v1, U v2, U v3]) ∧ Below W.heap.size W w')) :
    Calls Tryz.prog 130 #[.pointer (some ⟨g, o, none⟩), .int .i64 (k : Int)] w fun e w' => e = .returned (.agg #[U v0, U v1, U v2, U v3]) ∧ Below w.heap.size w w' := by
  have k0 : ¬ (k : Int) < 0 := by omega
  have k1 : IntKind.u64.wrap (k : Int) = (k : Int) := IntWalk.u64_in _ ⟨by omega, by omega⟩
  go_enter Tryz.func130, Tryz.ntmps130
  have hb := nB w (.cells #[.int .u64 0, .int .u64 0, .int .u64 0, .int .u64 0] 73)
  have Jr : Hid (IHolds (w.alloc (.cells #[.int .u64 0, .int .u64 0, .int .u64 0, .int .u64 0] 73)) w.heap.size 73 [.int .u64 0, .int .u64 0, .int .u64 0, .int .u64 0]) := IHolds.new w 73 _
  have B : Hid (Below w.heap.size w (w.alloc (.cells #[.int .u64 0, .int .u64 0, .int .u64 0, .int .u64 0] 73))) := hb
  have neF_r : Hid (g ≠ w.heap.size) := F.out.ne
  replace F := aF F hb
  clear hb
  have fo0 := F.out.o0
  have fo1 := F.out.o1
  have fo2 := F.out.o2
  have fo3 := F.out.o3
  go_wp2_with fail
  clear fo0 fo1 fo2 fo3
  generalize (w.alloc (.cells #[.int .u64 0, .int .u64 0, .int .u64 0, .int .u64 0] 73)) = U0 at *
  refine (C1.out U0 F.out).mono ?_
  rintro e U1 ⟨rfl, hb⟩
  replace F := aF F hb
  replace B := aB B hb
  replace Jr := aJ Jr hb
  clear hb
  have zr_0 : U1.cell? ⟨w.heap.size, 0, none⟩ = some (.int .u64 0) := IHolds.cell (l := [.int .u64 0, .int .u64 0, .int .u64 0, .int .u64 0]) (t := 73) (b := w.heap.size) (w := U1) (Jr.out) 0 (by simp)
  have zr_1 : U1.cell? ⟨w.heap.size, 1, none⟩ = some (.int .u64 0) := IHolds.cell (l := [.int .u64 0, .int .u64 0, .int .u64 0, .int .u64 0]) (t := 73) (b := w.heap.size) (w := U1) (Jr.out) 1 (by simp)
  have zr_2 : U1.cell? ⟨w.heap.size, 2, none⟩ = some (.int .u64 0) := IHolds.cell (l := [.int .u64 0, .int .u64 0, .int .u64 0, .int .u64 0]) (t := 73) (b := w.heap.size) (w := U1) (Jr.out) 2 (by simp)
  have zr_3 : U1.cell? ⟨w.heap.size, 3, none⟩ = some (.int .u64 0) := IHolds.cell (l := [.int .u64 0, .int .u64 0, .int .u64 0, .int .u64 0]) (t := 73) (b := w.heap.size) (w := U1) (Jr.out) 3 (by simp)
  have f0 := fJ Jr
  have hBut : But (w.heap.size) U1 ((((U1.setCell ⟨w.heap.size, 0, none⟩ (U v0)).setCell ⟨w.heap.size, 1, none⟩ (U v1)).setCell ⟨w.heap.size, 2, none⟩ (U v2)).setCell ⟨w.heap.size, 3, none⟩ (U v3)) := (((((But.refl _ U1).setCell 0 (U v0)).setCell 1 (U v1)).setCell 2 (U v2)).setCell 3 (U v3))
  replace F := tF F hBut neF_r.out
  have I4 : Hid (IHolds _ (w.heap.size) 73 [U v0, U v1, U v2, U v3]) := ((((Jr.out.set 0 (U v0)).set 1 (U v1)).set 2 (U v2)).set 3 (U v3))
  replace B : Hid (Below w.heap.size w ((((U1.setCell ⟨w.heap.size, 0, none⟩ (U v0)).setCell ⟨w.heap.size, 1, none⟩ (U v1)).setCell ⟨w.heap.size, 2, none⟩ (U v2)).setCell ⟨w.heap.size, 3, none⟩ (U v3))) := ((((B.out.setCell (by first | exact Nat.le_refl _ | exact ge_r.out | (show w.heap.size ≤ w.heap.size; omega)) _).setCell (by first | exact Nat.le_refl _ | exact ge_r.out | (show w.heap.size ≤ w.heap.size; omega)) _).setCell (by first | exact Nat.le_refl _ | exact ge_r.out | (show w.heap.size ≤ w.heap.size; omega)) _).setCell (by first | exact Nat.le_refl _ | exact ge_r.out | (show w.heap.size ≤ w.heap.size; omega)) _)
  replace Jr := I4
  clear I4 hBut
  go_wp2_with fail
  clear zr_0 zr_1 zr_2 zr_3
  clear f0
  generalize ((((U1.setCell ⟨w.heap.size, 0, none⟩ (U v0)).setCell ⟨w.heap.size, 1, none⟩ (U v1)).setCell ⟨w.heap.size, 2, none⟩ (U v2)).setCell ⟨w.heap.size, 3, none⟩ (U v3)) = U2 at *
  have E0 : Hid (U2.cell? ⟨w.heap.size, 0, none⟩ = some (U v0)) := IHolds.cell (l := [U v0, U v1, U v2, U v3]) (t := 73) (b := w.heap.size) (w := U2) Jr.out 0 (by simp)
  have E1 : Hid (U2.cell? ⟨w.heap.size, 1, none⟩ = some (U v1)) := IHolds.cell (l := [U v0, U v1, U v2, U v3]) (t := 73) (b := w.heap.size) (w := U2) Jr.out 1 (by simp)
  have E2 : Hid (U2.cell? ⟨w.heap.size, 2, none⟩ = some (U v2)) := IHolds.cell (l := [U v0, U v1, U v2, U v3]) (t := 73) (b := w.heap.size) (w := U2) Jr.out 2 (by simp)
  have E3 : Hid (U2.cell? ⟨w.heap.size, 3, none⟩ = some (U v3)) := IHolds.cell (l := [U v0, U v1, U v2, U v3]) (t := 73) (b := w.heap.size) (w := U2) Jr.out 3 (by simp)
  exact bodyPost_ret (v := .agg #[U v0, U v1, U v2, U v3]) (by simp [results, Tryz.results130, go_sem, E0.out, E1.out, E2.out, E3.out]) rfl ⟨rfl, B.out⟩
set_option maxRecDepth 100000 in
set_option maxHeartbeats 2000000 in
theorem fnumber_neg {w : World} {g o Wd M low one sq : Nat} (F : Hid (FH w g o Wd M low one sq)) (z : Int) (k N1 : Nat) (u0 u1 u2 u3 v0 v1 v2 v3 : Nat) (hz : z < 0) (kz : IntKind.u64.wrap z = (N1 : Int)) (kn : IntKind.u64.wrap (-(N1 : Int)) = (k : Int)) (C1 : Hid (∀ W, FH W g o Wd M low one sq → Calls Tryz.prog 109 #[.pointer (some ⟨g, o, none⟩), .agg #[U k, .int .u64 0, .int .u64 0, .int .u64 0], .agg #[U (w4 one 0), U (w4 one 1), U (w4 one 2), U (w4 one 3)]] W fun e w' => e = .returned (.agg #[U u0, U u1, U u2, U u3]) ∧ Below W.heap.size W w')) (C2 : Hid (∀ W, FH W g o Wd M low one sq → Calls Tryz.prog 132 #[.pointer (some ⟨g, o, none⟩), .agg #[.int .u64 0, .int .u64 0, .int .u64 0, .int .u64 0], .agg #[U u0, U u1, U u2, U u3]] W fun e w' => e = .returned (.agg #[U v0, U v1, U v2, U v3]) ∧ Below W.heap.size W w')) :
    Calls Tryz.prog 130 #[.pointer (some ⟨g, o, none⟩), .int .i64 z] w fun e w' => e = .returned (.agg #[U v0, U v1, U v2, U v3]) ∧ Below w.heap.size w w' := by
  go_enter Tryz.func130, Tryz.ntmps130
  have hb := nB w (.cells #[.int .u64 0, .int .u64 0, .int .u64 0, .int .u64 0] 73)
  have Jr : Hid (IHolds (w.alloc (.cells #[.int .u64 0, .int .u64 0, .int .u64 0, .int .u64 0] 73)) w.heap.size 73 [.int .u64 0, .int .u64 0, .int .u64 0, .int .u64 0]) := IHolds.new w 73 _
  have B : Hid (Below w.heap.size w (w.alloc (.cells #[.int .u64 0, .int .u64 0, .int .u64 0, .int .u64 0] 73))) := hb
  have neF_r : Hid (g ≠ w.heap.size) := F.out.ne
  replace F := aF F hb
  clear hb
  have fo0 := F.out.o0
  have fo1 := F.out.o1
  have fo2 := F.out.o2
  have fo3 := F.out.o3
  go_wp2_with fail
  clear fo0 fo1 fo2 fo3
  generalize (w.alloc (.cells #[.int .u64 0, .int .u64 0, .int .u64 0, .int .u64 0] 73)) = U0 at *
  refine (C1.out U0 F.out).mono ?_
  rintro e U1 ⟨rfl, hb⟩
  replace F := aF F hb
  replace B := aB B hb
  replace Jr := aJ Jr hb
  clear hb
  go_wp2_with fail
  refine (C2.out U1 F.out).mono ?_
  rintro e U2 ⟨rfl, hb⟩
  replace F := aF F hb
  replace B := aB B hb
  replace Jr := aJ Jr hb
  clear hb
  have zr_0 : U2.cell? ⟨w.heap.size, 0, none⟩ = some (.int .u64 0) := IHolds.cell (l := [.int .u64 0, .int .u64 0, .int .u64 0, .int .u64 0]) (t := 73) (b := w.heap.size) (w := U2) (Jr.out) 0 (by simp)
  have zr_1 : U2.cell? ⟨w.heap.size, 1, none⟩ = some (.int .u64 0) := IHolds.cell (l := [.int .u64 0, .int .u64 0, .int .u64 0, .int .u64 0]) (t := 73) (b := w.heap.size) (w := U2) (Jr.out) 1 (by simp)
  have zr_2 : U2.cell? ⟨w.heap.size, 2, none⟩ = some (.int .u64 0) := IHolds.cell (l := [.int .u64 0, .int .u64 0, .int .u64 0, .int .u64 0]) (t := 73) (b := w.heap.size) (w := U2) (Jr.out) 2 (by simp)
  have zr_3 : U2.cell? ⟨w.heap.size, 3, none⟩ = some (.int .u64 0) := IHolds.cell (l := [.int .u64 0, .int .u64 0, .int .u64 0, .int .u64 0]) (t := 73) (b := w.heap.size) (w := U2) (Jr.out) 3 (by simp)
  have f0 := fJ Jr
  have hBut : But (w.heap.size) U2 ((((U2.setCell ⟨w.heap.size, 0, none⟩ (U v0)).setCell ⟨w.heap.size, 1, none⟩ (U v1)).setCell ⟨w.heap.size, 2, none⟩ (U v2)).setCell ⟨w.heap.size, 3, none⟩ (U v3)) := (((((But.refl _ U2).setCell 0 (U v0)).setCell 1 (U v1)).setCell 2 (U v2)).setCell 3 (U v3))
  replace F := tF F hBut neF_r.out
  have I4 : Hid (IHolds _ (w.heap.size) 73 [U v0, U v1, U v2, U v3]) := ((((Jr.out.set 0 (U v0)).set 1 (U v1)).set 2 (U v2)).set 3 (U v3))
  replace B : Hid (Below w.heap.size w ((((U2.setCell ⟨w.heap.size, 0, none⟩ (U v0)).setCell ⟨w.heap.size, 1, none⟩ (U v1)).setCell ⟨w.heap.size, 2, none⟩ (U v2)).setCell ⟨w.heap.size, 3, none⟩ (U v3))) := ((((B.out.setCell (by first | exact Nat.le_refl _ | exact ge_r.out | (show w.heap.size ≤ w.heap.size; omega)) _).setCell (by first | exact Nat.le_refl _ | exact ge_r.out | (show w.heap.size ≤ w.heap.size; omega)) _).setCell (by first | exact Nat.le_refl _ | exact ge_r.out | (show w.heap.size ≤ w.heap.size; omega)) _).setCell (by first | exact Nat.le_refl _ | exact ge_r.out | (show w.heap.size ≤ w.heap.size; omega)) _)
  replace Jr := I4
  clear I4 hBut
  go_wp2_with fail
  clear zr_0 zr_1 zr_2 zr_3
  clear f0
  generalize ((((U2.setCell ⟨w.heap.size, 0, none⟩ (U v0)).setCell ⟨w.heap.size, 1, none⟩ (U v1)).setCell ⟨w.heap.size, 2, none⟩ (U v2)).setCell ⟨w.heap.size, 3, none⟩ (U v3)) = U3 at *
  have E0 : Hid (U3.cell? ⟨w.heap.size, 0, none⟩ = some (U v0)) := IHolds.cell (l := [U v0, U v1, U v2, U v3]) (t := 73) (b := w.heap.size) (w := U3) Jr.out 0 (by simp)
  have E1 : Hid (U3.cell? ⟨w.heap.size, 1, none⟩ = some (U v1)) := IHolds.cell (l := [U v0, U v1, U v2, U v3]) (t := 73) (b := w.heap.size) (w := U3) Jr.out 1 (by simp)
  have E2 : Hid (U3.cell? ⟨w.heap.size, 2, none⟩ = some (U v2)) := IHolds.cell (l := [U v0, U v1, U v2, U v3]) (t := 73) (b := w.heap.size) (w := U3) Jr.out 2 (by simp)
  have E3 : Hid (U3.cell? ⟨w.heap.size, 3, none⟩ = some (U v3)) := IHolds.cell (l := [U v0, U v1, U v2, U v3]) (t := 73) (b := w.heap.size) (w := U3) Jr.out 3 (by simp)
  exact bodyPost_ret (v := .agg #[U v0, U v1, U v2, U v3]) (by simp [results, Tryz.results130, go_sem, E0.out, E1.out, E2.out, E3.out]) rfl ⟨rfl, B.out⟩
/-- What comes of joining with one, with the square. -/
theorem joined_one {w : World} {g o Wd M low one sq Ri a : Nat} (F : FH w g o Wd M low one sq) (fl : Fld Wd M low one sq Ri) (ha : a < BB ^ Wd) :
    Calls Tryz.prog 109 #[.pointer (some ⟨g, o, none⟩), A4 a, A4 one] w fun e w' => e = .returned (A4 (a % M)) ∧ Below w.heap.size w w' := by
  have hm := fl.m2
  refine (joined_any F fl ha (by rw [fl.o]; exact Nat.mod_lt _ (by omega))).mono ?_
  rintro e w' ⟨⟨r, rfl, h⟩, hb⟩
  rw [fl.of_one h]
  exact ⟨rfl, hb⟩
theorem joined_sq {w : World} {g o Wd M low one sq Ri a : Nat} (F : FH w g o Wd M low one sq) (fl : Fld Wd M low one sq Ri) (ha : a < BB ^ Wd) :
    Calls Tryz.prog 109 #[.pointer (some ⟨g, o, none⟩), A4 a, A4 sq] w fun e w' => e = .returned (A4 (a * BB ^ Wd % M)) ∧ Below w.heap.size w w' := by
  have hm := fl.m2
  refine (joined_any F fl ha (by rw [fl.s]; exact Nat.mod_lt _ (by omega))).mono ?_
  rintro e w' ⟨⟨r, rfl, h⟩, hb⟩
  rw [fl.of_sq h]
  exact ⟨rfl, hb⟩
/-- A number of the field. -/
def numF (M : Nat) (z : Int) : Nat := if z < 0 then subF M 0 ((-z).toNat % M) else z.toNat % M
theorem Fld.big {Wd M low one sq Ri : Nat} (fl : Fld Wd M low one sq Ri) : 2 * M ≤ BB ^ 4 := Nat.le_trans fl.m9 (Nat.pow_le_pow_right BB_pos fl.w4)
theorem Fld.word {Wd M low one sq Ri k : Nat} (fl : Fld Wd M low one sq Ri) (hk : k < BB) : k < BB ^ Wd := Nat.lt_of_lt_of_le hk (by
  have := Nat.pow_le_pow_right BB_pos fl.w1
  rwa [Nat.pow_one] at this)
theorem fnumberA {w : World} {g o Wd M low one sq Ri : Nat} (F : Hid (FH w g o Wd M low one sq)) (fl : Fld Wd M low one sq Ri) (z : Int) (h1 : -9223372036854775808 ≤ z) (h2 : z ≤ 9223372036854775807) :
    Calls Tryz.prog 130 #[.pointer (some ⟨g, o, none⟩), .int .i64 z] w fun e w' => e = .returned (A4 (numF M z)) ∧ Below w.heap.size w w' := by
  have hm := fl.m2
  have hM := fl.big
  unfold numF
  by_cases hz : z < 0
  · rw [if_pos hz]
    obtain ⟨k, hk⟩ : ∃ k, k = (-z).toNat := ⟨_, rfl⟩
    rw [← hk]
    have k9 : k < BB := by rw [BB_eq]; omega
    refine fnumber_neg F z k (18446744073709551616 - k) (w4 (k % M) 0) (w4 (k % M) 1) (w4 (k % M) 2) (w4 (k % M) 3) _ _ _ _ hz ?_ ?_ (fun W hF => ?_) (fun W hF => ?_)
    · rw [IntKind.wrap_u64]; omega
    · rw [IntKind.wrap_u64]; omega
    · rw [A4_small k9]; exact joined_one hF fl (fl.word k9)
    · have e : Value.agg #[.int .u64 0, .int .u64 0, .int .u64 0, .int .u64 0] = A4 0 := A4_small (k := 0) BB_pos
      rw [e]
      exact fminusA hF (by omega) (Nat.mod_lt _ (by omega)) hM
  · rw [if_neg hz]
    obtain ⟨k, hk⟩ : ∃ k, k = z.toNat := ⟨_, rfl⟩
    rw [← hk]
    have k9 : k < BB := by rw [BB_eq]; omega
    have ez : z = (k : Int) := by omega
    rw [ez]
    refine fnumber_pos F k _ _ _ _ (by omega) (fun W hF => ?_)
    rw [A4_small k9]; exact joined_one hF fl (fl.word k9)
end Go.Proofs.YtmpiipcllgjhdaaGreatDoor

/- What is reduced. -/
namespace Go.Proofs.YtmpiipcllgjhdaaGreatDoor
open Go.RowKit Go.Deep Go.PlainAid

end Go.Proofs.YtmpiipcllgjhdaaGreatDoor

/- What is told of a kind: Sizes, Order, Prime, Base. -/
namespace Go.Proofs.YtmpiipcllgjhdaaGreatDoor
open Go.RowKit Go.Deep Go.PlainAid

set_option maxRecDepth 100000 in
set_option maxHeartbeats 2000000 in
theorem sizes_any {w : World} {g S : Nat} (c0 : w.cell? ⟨g, 0, none⟩ = some (.int .i64 (S : Int))) :
    Calls Tryz.prog 113 #[.pointer (some ⟨g, 0, none⟩)] w fun e w' => e = .returned (.tuple #[.int .i64 (S : Int), .int .i64 0]) ∧ Below w.heap.size w w' := by
  go_enter Tryz.func113, Tryz.ntmps113
  go_wp2_with fail
  go_ret2
  exact ⟨rfl, Below.refl _ _⟩
set_option maxRecDepth 100000 in
set_option maxHeartbeats 2000000 in
theorem on46_ok {s : Int} {w : World} {z : Int} {G : Array Value} (hG : gz.size = G.size) (hi : (Tryz.prog.info? 111).map (·.size) = some G.size) (h1 : G.all (·.oneCell') = true)
    (CG : Hid (∀ W, Calls Tryz.prog 62 #[.int .i64 z] W fun e w' => e = .returned (.tuple #[.agg G, .bool true]) ∧ Below W.heap.size W w')) (HF : Hid (∀ W g, IHolds W g 111 G.toList → Calls Tryz.prog 113 #[.pointer (some ⟨g, 0, none⟩)] W fun e w' => e = .returned (.tuple #[.int .i64 s, .int .i64 0]) ∧ Below W.heap.size W w')) :
    Calls Tryz.prog 112 #[.int .i64 z, .func (.func 113) #[] #[]] w fun e w' => e = .returned (.tuple #[.int .i64 s, .int .i64 0]) ∧ Below w.heap.size w w' := by
  go_enter Tryz.func112, Tryz.ntmps112
  go_wp2_with fail
  refine (CG.out w).mono ?_
  rintro e U1 ⟨rfl, hb⟩
  have B : Hid (Below w.heap.size w U1) := hb
  clear hb
  have hg : (U1.alloc (.cells gz 111)).heap[U1.heap.size]? = some (.cells gz 111 (0, 0)) := by
    have h := IHolds.new U1 111 gz.toList
    unfold IHolds at h
    rw [Array.toArray_toList] at h
    exact h
  have J : Hid (IHolds (U1.alloc (.cells G 111)) U1.heap.size 111 G.toList) := by
    have h := IHolds.new U1 111 G.toList
    rw [Array.toArray_toList] at h
    exact h
  replace B := aB B (nB U1 (.cells G 111))
  go_wp2_with (refine wpList_store_row rfl 111 (.tmp 6) (.tmp 12) rfl U1.heap.size G rfl rfl 111 gz hg hi hG h1 ?_; rw [World.setRow_alloc_new]; clear hg)
  generalize U1.alloc (.cells G 111) = U2 at *
  refine (HF.out U2 _ J.out).mono ?_
  rintro e U3 ⟨rfl, hb⟩
  replace B := aB B hb
  clear hb
  go_wp2_with fail
  go_ret2
  exact ⟨rfl, B.out⟩
set_option maxRecDepth 100000 in
set_option maxHeartbeats 2000000 in
theorem sizes_call {w : World} {z : Int} {s c : Int} (H : Hid (Calls Tryz.prog 112 #[.int .i64 z, .func (.func 113) #[] #[]] w fun e w' => e = .returned (.tuple #[.int .i64 s, .int .i64 c]) ∧ Below w.heap.size w w')) :
    Calls Tryz.prog 70 #[.int .i64 z] w fun e w' => e = .returned (.tuple #[.int .i64 s, .int .i64 s, .int .i64 c]) ∧ Below w.heap.size w w' := by
  go_enter Tryz.func70, Tryz.ntmps70
  go_wp2_with fail
  refine H.out.mono ?_
  rintro e U1 ⟨rfl, hb⟩
  have B : Hid (Below w.heap.size w U1) := hb
  clear hb
  go_wp2_with fail
  exact bodyPost_ret (v := .tuple #[.int .i64 s, .int .i64 s, .int .i64 c]) (by simp [results, Tryz.results70, go_sem]) rfl ⟨rfl, B.out⟩
set_option maxRecDepth 100000 in
set_option maxHeartbeats 2000000 in
theorem on48_52 {w : World} {z : Int} {G : Array Value} {cp : Nat} {ct : TypeId} {cv : Value} {t : ByteArray} {c : Int} (hcp : Hid (IHolds w cp ct [cv])) (hG : gz.size = G.size) (hi : (Tryz.prog.info? 111).map (·.size) = some G.size) (h1 : G.all (·.oneCell') = true)
    (CG : Hid (∀ W, Calls Tryz.prog 62 #[.int .i64 z] W fun e w' => e = .returned (.tuple #[.agg G, .bool true]) ∧ Below W.heap.size W w')) (HF : Hid (∀ W g, IHolds W g 111 G.toList → IHolds W cp ct [cv] → Calls Tryz.prog 129 #[.pointer (some ⟨g, 0, none⟩), .pointer (some ⟨cp, 0, none⟩)] W fun e w' => e = .returned (.tuple #[.string t, .int .i64 c]) ∧ Below W.heap.size W w')) :
    Calls Tryz.prog 33 #[.int .i64 z, .func (.func 129) #[] #[.pointer (some ⟨cp, 0, none⟩)]] w fun e w' => e = .returned (.tuple #[.string t, .int .i64 c]) ∧ Below w.heap.size w w' := by
  go_enter Tryz.func33, Tryz.ntmps33
  go_wp2_with fail
  refine (CG.out w).mono ?_
  rintro e U1 ⟨rfl, hb⟩
  have B : Hid (Below w.heap.size w U1) := hb
  replace hcp := aJ hcp hb
  clear hb
  have hg : (U1.alloc (.cells gz 111)).heap[U1.heap.size]? = some (.cells gz 111 (0, 0)) := by
    have h := IHolds.new U1 111 gz.toList
    unfold IHolds at h
    rw [Array.toArray_toList] at h
    exact h
  have J : Hid (IHolds (U1.alloc (.cells G 111)) U1.heap.size 111 G.toList) := by
    have h := IHolds.new U1 111 G.toList
    rw [Array.toArray_toList] at h
    exact h
  replace B := aB B (nB U1 (.cells G 111))
  replace hcp := aJ hcp (nB U1 (.cells G 111))
  go_wp2_with (refine wpList_store_row rfl 111 (.tmp 6) (.tmp 12) rfl U1.heap.size G rfl rfl 111 gz hg hi hG h1 ?_; rw [World.setRow_alloc_new]; clear hg)
  generalize U1.alloc (.cells G 111) = U2 at *
  refine (HF.out U2 _ J.out hcp.out).mono ?_
  rintro e U3 ⟨rfl, hb⟩
  replace B := aB B hb
  clear hb
  go_wp2_with fail
  go_ret2
  exact ⟨rfl, B.out⟩
set_option maxRecDepth 100000 in
set_option maxHeartbeats 2000000 in
theorem on57_58 {w : World} {z : Int} {G : Array Value} {cp : Nat} {ct : TypeId} {cv : Value} {z0 z1 z2 z3 : Nat} {c : Int} (hcp : Hid (IHolds w cp ct [cv])) (hG : gz.size = G.size) (hi : (Tryz.prog.info? 111).map (·.size) = some G.size) (h1 : G.all (·.oneCell') = true)
    (CG : Hid (∀ W, Calls Tryz.prog 62 #[.int .i64 z] W fun e w' => e = .returned (.tuple #[.agg G, .bool true]) ∧ Below W.heap.size W w')) (HF : Hid (∀ W g, IHolds W g 111 G.toList → IHolds W cp ct [cv] → Calls Tryz.prog 31 #[.pointer (some ⟨g, 0, none⟩), .pointer (some ⟨cp, 0, none⟩)] W fun e w' => e = .returned (.tuple #[.agg #[U z0, U z1, U z2, U z3], .int .i64 c]) ∧ Below W.heap.size W w')) :
    Calls Tryz.prog 30 #[.int .i64 z, .func (.func 31) #[] #[.pointer (some ⟨cp, 0, none⟩)]] w fun e w' => e = .returned (.tuple #[.agg #[U z0, U z1, U z2, U z3], .int .i64 c]) ∧ Below w.heap.size w w' := by
  have JR : Hid (IHolds (w.alloc (.cells #[.int .u64 0, .int .u64 0, .int .u64 0, .int .u64 0] 73)) w.heap.size 73 [.int .u64 0, .int .u64 0, .int .u64 0, .int .u64 0]) := IHolds.new w 73 _
  have B : Hid (Below w.heap.size w (w.alloc (.cells #[.int .u64 0, .int .u64 0, .int .u64 0, .int .u64 0] 73))) := nB _ _
  replace hcp := aJ hcp (nB w (.cells #[.int .u64 0, .int .u64 0, .int .u64 0, .int .u64 0] 73))
  go_enter Tryz.func30, Tryz.ntmps30
  go_wp2_with fail
  generalize w.alloc (.cells #[.int .u64 0, .int .u64 0, .int .u64 0, .int .u64 0] 73) = U0 at *
  refine (CG.out U0).mono ?_
  rintro e U1 ⟨rfl, hb⟩
  replace B := aB B hb
  replace JR := aJ JR hb
  replace hcp := aJ hcp hb
  clear hb
  have hg : (U1.alloc (.cells gz 111)).heap[U1.heap.size]? = some (.cells gz 111 (0, 0)) := by
    have h := IHolds.new U1 111 gz.toList
    unfold IHolds at h
    rw [Array.toArray_toList] at h
    exact h
  have J : Hid (IHolds (U1.alloc (.cells G 111)) U1.heap.size 111 G.toList) := by
    have h := IHolds.new U1 111 G.toList
    rw [Array.toArray_toList] at h
    exact h
  replace B := aB B (nB U1 (.cells G 111))
  replace hcp := aJ hcp (nB U1 (.cells G 111))
  replace JR := aJ JR (nB U1 (.cells G 111))
  go_wp2_with (refine wpList_store_row rfl 111 (.tmp 6) (.tmp 12) rfl U1.heap.size G rfl rfl 111 gz hg hi hG h1 ?_; rw [World.setRow_alloc_new]; clear hg)
  generalize U1.alloc (.cells G 111) = U2 at *
  refine (HF.out U2 _ J.out hcp.out).mono ?_
  rintro e U3 ⟨rfl, hb⟩
  replace B := aB B hb
  replace JR := aJ JR hb
  clear hb
  have d0 : U3.cell? ⟨w.heap.size, 0, none⟩ = some (.int .u64 0) := JR.out.cell 0 (by simp)
  have d1 : U3.cell? ⟨w.heap.size, 1, none⟩ = some (.int .u64 0) := JR.out.cell 1 (by simp)
  have d2 : U3.cell? ⟨w.heap.size, 2, none⟩ = some (.int .u64 0) := JR.out.cell 2 (by simp)
  have d3 : U3.cell? ⟨w.heap.size, 3, none⟩ = some (.int .u64 0) := JR.out.cell 3 (by simp)
  have f0 : ∀ i, U3.frozen? ⟨w.heap.size, i, none⟩ = false := fun i => JR.out.frozen i
  obtain ⟨W9, hW9⟩ : ∃ X, X = (((U3.setCell ⟨w.heap.size, 0, none⟩ (U z0)).setCell ⟨w.heap.size, 1, none⟩ (U z1)).setCell ⟨w.heap.size, 2, none⟩ (U z2)).setCell ⟨w.heap.size, 3, none⟩ (U z3) := ⟨_, rfl⟩
  have hZ9 : Hid (IHolds W9 w.heap.size 73 [U z0, U z1, U z2, U z3]) := by
    show IHolds _ _ _ _
    rw [hW9]; exact (((JR.out.set 0 (U z0)).set 1 (U z1)).set 2 (U z2)).set 3 (U z3)
  have hB9 : Hid (Below w.heap.size w W9) := by
    show Below _ _ _
    rw [hW9]; exact (((B.out.setCell (Nat.le_refl _) _).setCell (Nat.le_refl _) _).setCell (Nat.le_refl _) _).setCell (Nat.le_refl _) _
  go_wp2_with fail
  rw [← hW9]
  clear hW9 d0 d1 d2 d3 f0 JR B
  have E0 : W9.cell? ⟨w.heap.size, 0, none⟩ = some (U z0) := hZ9.out.cell 0 (by simp)
  have E1 : W9.cell? ⟨w.heap.size, 1, none⟩ = some (U z1) := hZ9.out.cell 1 (by simp)
  have E2 : W9.cell? ⟨w.heap.size, 2, none⟩ = some (U z2) := hZ9.out.cell 2 (by simp)
  have E3 : W9.cell? ⟨w.heap.size, 3, none⟩ = some (U z3) := hZ9.out.cell 3 (by simp)
  exact bodyPost_ret (v := .tuple #[.agg #[U z0, U z1, U z2, U z3], .int .i64 c]) (by simp [results, Tryz.results30, go_sem, E0, E1, E2, E3]) rfl ⟨rfl, hB9.out⟩
set_option maxRecDepth 100000 in
set_option maxHeartbeats 2000000 in
theorem on57_60 {w : World} {z : Int} {G : Array Value} {cp : Nat} {ct : TypeId} {cv : Value} {z0 z1 z2 z3 : Nat} {c : Int} (hcp : Hid (IHolds w cp ct [cv])) (hG : gz.size = G.size) (hi : (Tryz.prog.info? 111).map (·.size) = some G.size) (h1 : G.all (·.oneCell') = true)
    (CG : Hid (∀ W, Calls Tryz.prog 62 #[.int .i64 z] W fun e w' => e = .returned (.tuple #[.agg G, .bool true]) ∧ Below W.heap.size W w')) (HF : Hid (∀ W g, IHolds W g 111 G.toList → IHolds W cp ct [cv] → Calls Tryz.prog 35 #[.pointer (some ⟨g, 0, none⟩), .pointer (some ⟨cp, 0, none⟩)] W fun e w' => e = .returned (.tuple #[.agg #[U z0, U z1, U z2, U z3], .int .i64 c]) ∧ Below W.heap.size W w')) :
    Calls Tryz.prog 30 #[.int .i64 z, .func (.func 35) #[] #[.pointer (some ⟨cp, 0, none⟩)]] w fun e w' => e = .returned (.tuple #[.agg #[U z0, U z1, U z2, U z3], .int .i64 c]) ∧ Below w.heap.size w w' := by
  have JR : Hid (IHolds (w.alloc (.cells #[.int .u64 0, .int .u64 0, .int .u64 0, .int .u64 0] 73)) w.heap.size 73 [.int .u64 0, .int .u64 0, .int .u64 0, .int .u64 0]) := IHolds.new w 73 _
  have B : Hid (Below w.heap.size w (w.alloc (.cells #[.int .u64 0, .int .u64 0, .int .u64 0, .int .u64 0] 73))) := nB _ _
  replace hcp := aJ hcp (nB w (.cells #[.int .u64 0, .int .u64 0, .int .u64 0, .int .u64 0] 73))
  go_enter Tryz.func30, Tryz.ntmps30
  go_wp2_with fail
  generalize w.alloc (.cells #[.int .u64 0, .int .u64 0, .int .u64 0, .int .u64 0] 73) = U0 at *
  refine (CG.out U0).mono ?_
  rintro e U1 ⟨rfl, hb⟩
  replace B := aB B hb
  replace JR := aJ JR hb
  replace hcp := aJ hcp hb
  clear hb
  have hg : (U1.alloc (.cells gz 111)).heap[U1.heap.size]? = some (.cells gz 111 (0, 0)) := by
    have h := IHolds.new U1 111 gz.toList
    unfold IHolds at h
    rw [Array.toArray_toList] at h
    exact h
  have J : Hid (IHolds (U1.alloc (.cells G 111)) U1.heap.size 111 G.toList) := by
    have h := IHolds.new U1 111 G.toList
    rw [Array.toArray_toList] at h
    exact h
  replace B := aB B (nB U1 (.cells G 111))
  replace hcp := aJ hcp (nB U1 (.cells G 111))
  replace JR := aJ JR (nB U1 (.cells G 111))
  go_wp2_with (refine wpList_store_row rfl 111 (.tmp 6) (.tmp 12) rfl U1.heap.size G rfl rfl 111 gz hg hi hG h1 ?_; rw [World.setRow_alloc_new]; clear hg)
  generalize U1.alloc (.cells G 111) = U2 at *
  refine (HF.out U2 _ J.out hcp.out).mono ?_
  rintro e U3 ⟨rfl, hb⟩
  replace B := aB B hb
  replace JR := aJ JR hb
  clear hb
  have d0 : U3.cell? ⟨w.heap.size, 0, none⟩ = some (.int .u64 0) := JR.out.cell 0 (by simp)
  have d1 : U3.cell? ⟨w.heap.size, 1, none⟩ = some (.int .u64 0) := JR.out.cell 1 (by simp)
  have d2 : U3.cell? ⟨w.heap.size, 2, none⟩ = some (.int .u64 0) := JR.out.cell 2 (by simp)
  have d3 : U3.cell? ⟨w.heap.size, 3, none⟩ = some (.int .u64 0) := JR.out.cell 3 (by simp)
  have f0 : ∀ i, U3.frozen? ⟨w.heap.size, i, none⟩ = false := fun i => JR.out.frozen i
  obtain ⟨W9, hW9⟩ : ∃ X, X = (((U3.setCell ⟨w.heap.size, 0, none⟩ (U z0)).setCell ⟨w.heap.size, 1, none⟩ (U z1)).setCell ⟨w.heap.size, 2, none⟩ (U z2)).setCell ⟨w.heap.size, 3, none⟩ (U z3) := ⟨_, rfl⟩
  have hZ9 : Hid (IHolds W9 w.heap.size 73 [U z0, U z1, U z2, U z3]) := by
    show IHolds _ _ _ _
    rw [hW9]; exact (((JR.out.set 0 (U z0)).set 1 (U z1)).set 2 (U z2)).set 3 (U z3)
  have hB9 : Hid (Below w.heap.size w W9) := by
    show Below _ _ _
    rw [hW9]; exact (((B.out.setCell (Nat.le_refl _) _).setCell (Nat.le_refl _) _).setCell (Nat.le_refl _) _).setCell (Nat.le_refl _) _
  go_wp2_with fail
  rw [← hW9]
  clear hW9 d0 d1 d2 d3 f0 JR B
  have E0 : W9.cell? ⟨w.heap.size, 0, none⟩ = some (U z0) := hZ9.out.cell 0 (by simp)
  have E1 : W9.cell? ⟨w.heap.size, 1, none⟩ = some (U z1) := hZ9.out.cell 1 (by simp)
  have E2 : W9.cell? ⟨w.heap.size, 2, none⟩ = some (U z2) := hZ9.out.cell 2 (by simp)
  have E3 : W9.cell? ⟨w.heap.size, 3, none⟩ = some (U z3) := hZ9.out.cell 3 (by simp)
  exact bodyPost_ret (v := .tuple #[.agg #[U z0, U z1, U z2, U z3], .int .i64 c]) (by simp [results, Tryz.results30, go_sem, E0, E1, E2, E3]) rfl ⟨rfl, hB9.out⟩
end Go.Proofs.YtmpiipcllgjhdaaGreatDoor

/- Numbers of four words: is it nothing? -/
namespace Go.Proofs.YtmpiipcllgjhdaaGreatDoor
open Go.RowKit Go.Deep Go.PlainAid

theorem info64some : ∃ i, Tryz.prog.info? 71 = some i := by
  have h : (Tryz.prog.info? 71).isSome = true := by kernel_rfl
  exact Option.isSome_iff_exists.1 h
theorem cells64 : Tryz.prog.cellsOf 71 = 1 := by kernel_rfl
set_option maxRecDepth 100000 in
theorem eq66 (W : World) (z0 z1 z2 z3 : Nat) : (Op.equalIn 10000 73 (.agg #[U z0, U z1, U z2, U z3]) (.agg #[.int .u64 0, .int .u64 0, .int .u64 0, .int .u64 0])).run Tryz.prog W = .ok (decide (z0 = 0 ∧ z1 = 0 ∧ z2 = 0 ∧ z3 = 0)) W := by
  obtain ⟨i, hi⟩ := info64some
  have e := run_equalIn_array (P := Tryz.prog) W 9999 (t := 73) (e := 71) (n := 4) #[U z0, U z1, U z2, U z3] #[.int .u64 0, .int .u64 0, .int .u64 0, .int .u64 0] Tryz.underlying73 hi
  rw [e, cells64]
  have hu := Tryz.underlying71
  have q : ∀ (d : Nat) (a b : Int) (w : World), (Op.equalIn (d + 1) 71 (.int .u64 a) (.int .u64 b)).run Tryz.prog w = .ok (a == b) w := fun d a b w => run_equalIn_int w d 71 .u64 .u64 a b hu
  have q9 : ∀ (a b : Int) (w : World), (Op.equalIn 9999 71 (.int .u64 a) (.int .u64 b)).run Tryz.prog w = .ok (a == b) w := q 9998
  clear q
  have pk : Tryz.prog.plainKey 71 = true := by kernel_rfl
  have pp : ∀ (xs : Array Value) (off : Nat) (v : Value), xs[off]? = some v → (part 71 xs off).run Tryz.prog W = .ok v W := fun xs off v h => run_part_plain W pk h
  have a0 := pp #[U z0, U z1, U z2, U z3] 0 (U z0) rfl
  have a1 := pp #[U z0, U z1, U z2, U z3] 1 (U z1) rfl
  have a2 := pp #[U z0, U z1, U z2, U z3] 2 (U z2) rfl
  have a3 := pp #[U z0, U z1, U z2, U z3] 3 (U z3) rfl
  have b0 := pp #[.int .u64 0, .int .u64 0, .int .u64 0, .int .u64 0] 0 (.int .u64 0) rfl
  have b1 := pp #[.int .u64 0, .int .u64 0, .int .u64 0, .int .u64 0] 1 (.int .u64 0) rfl
  have b2 := pp #[.int .u64 0, .int .u64 0, .int .u64 0, .int .u64 0] 2 (.int .u64 0) rfl
  have b3 := pp #[.int .u64 0, .int .u64 0, .int .u64 0, .int .u64 0] 3 (.int .u64 0) rfl
  clear pp e
  generalize (#[U z0, U z1, U z2, U z3] : Array Value) = xs at *
  generalize (#[.int .u64 0, .int .u64 0, .int .u64 0, .int .u64 0] : Array Value) = ys at *
  simp only [show List.range 4 = [0, 1, 2, 3] from rfl, Op.eqItems, Sem.run_bind, Nat.zero_mul, Nat.one_mul, Nat.mul_one, a0, a1, a2, a3, b0, b1, b2, b3, Result.andThen_ok, q9]
  by_cases h0 : z0 = 0
  · by_cases h1 : z1 = 0
    · by_cases h2 : z2 = 0
      · by_cases h3 : z3 = 0 <;> simp [h0, h1, h2, h3, a0, a1, a2, a3, b0, b1, b2, b3, q9]
      · simp [h0, h1, h2, a0, a1, a2, a3, b0, b1, b2, b3, q9]
    · simp [h0, h1, a0, a1, a2, a3, b0, b1, b2, b3, q9]
  · simp [h0, a0, a1, a2, a3, b0, b1, b2, b3, q9]
end Go.Proofs.YtmpiipcllgjhdaaGreatDoor
namespace Go.Proofs.YtmpiipcllgjhdaaGreatDoor
open Go.RowKit Go.Deep Go.PlainAid

theorem groundOf30 {w : World} {z s c : Int} (h : ∀ W, Calls Tryz.prog 70 #[.int .i64 z] W fun e w' => e = .returned (.tuple #[.int .i64 s, .int .i64 s, .int .i64 c]) ∧ Below W.heap.size W w') :
    Calls Tryz.prog 39 #[.int .i64 z] w fun e w' => e = .returned (.tuple #[.agg #[.int .i64 z], .int .i64 c]) ∧ Below w.heap.size w w' := by
  generalize hW : w.alloc (.cells #[.int .i64 0] 51) = W
  have J : Hid (Below w.heap.size w W) := by rw [← hW]; exact (Below.refl _ w).alloc (Nat.le_refl _) _
  have I0 : Hid (IHolds W w.heap.size 51 [.int .i64 0]) := by rw [← hW]; exact IHolds.new' w 51 [.int .i64 0] rfl
  go_enter Tryz.func39, Tryz.ntmps39
  go_wp2_with (go_at_call 70; refine (h _).mono ?_; rintro e w1 ⟨rfl, hB1⟩; have B1 : Hid (Below w.heap.size w w1) := J.out.trans (hB1.mono J.out.size); have I1 : Hid (IHolds w1 w.heap.size 51 [.int .i64 0]) := I0.out.of_below hB1; have f1 : w1.frozen? ⟨w.heap.size, 0, none⟩ = false := I1.out.frozen 0; have g1 := I1.out.cell 0 (by simp); clear hB1)
  have I2 : Hid (IHolds (w1.setCell ⟨w.heap.size, 0, none⟩ (.int .i64 z)) w.heap.size 51 [.int .i64 z]) := I1.out.set 0 (.int .i64 z)
  have B2 : Hid (Below w.heap.size w (w1.setCell ⟨w.heap.size, 0, none⟩ (.int .i64 z))) := Below.setCell B1.out (Nat.le_refl _) _
  generalize w1.setCell ⟨w.heap.size, 0, none⟩ (.int .i64 z) = w2 at *
  have E0 : w2.cell? ⟨w.heap.size, 0, none⟩ = some (.int .i64 z) := I2.out.cell 0 (by simp)
  exact bodyPost_ret (v := .tuple #[.agg #[.int .i64 z], .int .i64 c]) (by simp [results, Tryz.results39, go_sem, E0]) rfl ⟨rfl, B2.out⟩
end Go.Proofs.YtmpiipcllgjhdaaGreatDoor
namespace Go.Proofs.YtmpiipcllgjhdaaGreatDoor
open Go.RowKit Go.Deep Go.PlainAid

/-- The walk's condition. -/
theorem cell_keep {w w' : World} {b o : Nat} {v : Value} (h : w.cell? ⟨b, o, none⟩ = some v) (hb : Below w.heap.size w w') : w'.cell? ⟨b, o, none⟩ = some v := (World.cell?_of_block (a := ⟨b, o, none⟩) (hb.block b (cell_lt h))).trans h
end Go.Proofs.YtmpiipcllgjhdaaGreatDoor
namespace Go.Proofs.YtmpiipcllgjhdaaGreatDoor
open Go.RowKit Go.Deep Go.PlainAid

/-- A claim: its bases and its images. -/
abbrev Cl := List ByteArray × List ByteArray
/-- A list of claims. -/
def CM (w : World) (a : Option Addr) (l : List Cl) : Prop := ∀ i (h : i < l.length), ∃ b o a1 c1 a2 c2, a = some ⟨b, o, none⟩ ∧ w.cell? ⟨b, o + i * 2, none⟩ = some (.slice a1 (l[i]).1.length c1) ∧ w.cell? ⟨b, o + i * 2 + 1, none⟩ = some (.slice a2 (l[i]).2.length c2) ∧ SL w a1 (l[i]).1 ∧ SL w a2 (l[i]).2
theorem CM.of_below {w w' : World} {a : Option Addr} {l : List Cl} (h : CM w a l) (hb : Below w.heap.size w w') : CM w' a l := by
  intro i hi
  obtain ⟨b, o, a1, c1, a2, c2, e, h1, h2, h3, h4⟩ := h i hi
  exact ⟨b, o, a1, c1, a2, c2, e, cell_keep h1 hb, cell_keep h2 hb, h3.of_below hb, h4.of_below hb⟩
theorem noElem133 {w : World} {z : Int} {s : ByteArray} {t : Bool} (h : ∀ W, Calls Tryz.prog 16 #[.int .i64 z, .string s] W fun e w' => e = .returned (.bool t) ∧ Below W.heap.size W w') :
    Calls Tryz.prog 138 #[.agg #[.int .i64 z], .string s] w fun e w' => e = .returned (.bool (!t)) ∧ Below w.heap.size w w' := by
  have J : Hid (Below w.heap.size w (w.alloc (.cells #[.int .i64 z] 51))) := (Below.refl _ w).alloc (Nat.le_refl _) _
  go_enter Tryz.func138, Tryz.ntmps138
  go_wp2_with (go_at_call 16; refine (h _).mono ?_; rintro e w1 ⟨rfl, hB1⟩)
  go_ret
  exact ⟨rfl, J.out.trans (hB1.mono J.out.size)⟩
set_option maxHeartbeats 1000000 in
theorem index128e {w : World} {a : Option Addr} {l : List ByteArray} {c : Nat} {z : Int} (p : ByteArray → Bool) (hl : l.length ≤ 9223372036854775807) (hs : SL w a l)
    (CN : ∀ s W, Calls Tryz.prog 138 #[.agg #[.int .i64 z], .string s] W fun e w' => e = .returned (.bool (p s)) ∧ Below W.heap.size W w') :
    Calls Tryz.prog 133 #[.slice a l.length c, .func (.func 138) #[.agg #[.int .i64 z]] #[]] w fun e w' => (∃ r : Int, e = .returned (.int .i64 r) ∧ (decide (0 ≤ r)) = l.any p) ∧ Below w.heap.size w w' := by
  have HS : Hid (SL w a l) := hs
  have HL : Hid (l.length ≤ 9223372036854775807) := hl
  clear hs
  go_enter Tryz.func133, Tryz.ntmps133
  go_wp2_with fail
  go_loopg [5, 8] l.length (fun gk v5 v8 wr => ∃ i : Nat, i + gk = l.length ∧ v8 = .int .i64 (i : Int) ∧ Below w.heap.size w wr ∧ (l.take i).any p = false)
  case atStart => exact ⟨0, by omega, rfl, Below.refl _ _, by simp⟩
  case round =>
    obtain ⟨i, hig, rfl, hB, hn⟩ := hrel
    have B : Hid (Below w.heap.size w wr) := hB
    have HN : Hid ((l.take i).any p = false) := hn
    clear hB hn
    by_cases hi : i < l.length
    · obtain ⟨b, o, rfl, hc⟩ := HS.out.of_below B.out i hi
      have il : (i : Int) < (l.length : Int) := by omega
      have hcall := CN l[i]
      have HT : Hid _ := any_take p hi
      have HO : Hid _ := any_of p hi
      generalize l[i] = s at *
      cases hp : p s with
      | true =>
        rw [hp] at hcall
        go_wp2_with (go_at_call 138; refine (hcall _).mono ?_; rintro e w3 ⟨rfl, hB3⟩)
        go_ret
        exact ⟨⟨_, rfl, by rw [HO.out hp]; simp⟩, B.out.trans (hB3.mono B.out.size)⟩
      | false =>
        rw [hp] at hcall
        go_wp2_with (go_at_call 138; refine (hcall _).mono ?_; rintro e w3 ⟨rfl, hB3⟩)
        go_roundg (gk - 1)
        case measure => omega
        case rel => exact ⟨i + 1, by omega, by go_num, B.out.trans (hB3.mono B.out.size), by rw [HT.out, HN.out, hp]; rfl⟩
    · have il : ¬ (i : Int) < (l.length : Int) := by omega
      have e : i = l.length := by omega
      have hn := HN.out
      rw [e, List.take_length] at hn
      clear e
      go_wp2_with fail
      go_ret
      exact ⟨⟨_, rfl, by first | (rw [hn]; decide) | decide⟩, B.out⟩
theorem contains115e {w : World} {a : Option Addr} {l : List ByteArray} {c : Nat} {z : Int} (p : ByteArray → Bool) (hl : l.length ≤ 9223372036854775807) (hs : SL w a l)
    (CN : ∀ s W, Calls Tryz.prog 138 #[.agg #[.int .i64 z], .string s] W fun e w' => e = .returned (.bool (p s)) ∧ Below W.heap.size W w') :
    Calls Tryz.prog 101 #[.slice a l.length c, .func (.func 138) #[.agg #[.int .i64 z]] #[]] w fun e w' => e = .returned (.bool (l.any p)) ∧ Below w.heap.size w w' := by
  have h := index128e (c := c) p hl hs CN
  clear hs CN
  generalize l.any p = t at *
  go_enter Tryz.func101, Tryz.ntmps101
  go_wp2_with (go_at_call 133; refine h.mono ?_; rintro e w1 ⟨⟨r, rfl, hr⟩, hB1⟩)
  go_ret
  exact ⟨by rw [← hr]; rfl, hB1⟩
set_option maxHeartbeats 1000000 in
theorem elems127 {w : World} {a : Option Addr} {l : List ByteArray} {c : Nat} {z : Int} (p : ByteArray → Bool) (hl : l.length ≤ 9223372036854775807) (hs : SL w a l)
    (CN : ∀ s W, Calls Tryz.prog 138 #[.agg #[.int .i64 z], .string s] W fun e w' => e = .returned (.bool (!p s)) ∧ Below W.heap.size W w') :
    Calls Tryz.prog 115 #[.agg #[.int .i64 z], .slice a l.length c] w fun e w' => e = .returned (.bool (l.all p)) ∧ Below w.heap.size w w' := by
  have hmf : ∀ (fn : Fn) (first cap : Array Value) (w : World), (Instr.makeFunc fn first cap).run Tryz.prog w = .ok (.func fn first cap) w := fun _ _ _ _ => rfl
  have J : Hid (Below w.heap.size w (w.alloc (.cells #[.int .i64 z] 51))) := (Below.refl _ w).alloc (Nat.le_refl _) _
  have h := contains115e (c := c) (fun s => !p s) hl (hs.of_below J.out) CN
  have e : l.all p = !(l.any fun s => !p s) := by rw [List.not_any_eq_all_not]; simp
  rw [e]
  clear hs CN e
  generalize (l.any fun s => !p s) = t at *
  go_enter Tryz.func115, Tryz.ntmps115
  go_wp2_with (go_at_call 101; refine h.mono ?_; rintro e w1 ⟨rfl, hB1⟩)
  go_ret
  exact ⟨rfl, J.out.trans (hB1.mono J.out.size)⟩
theorem tooLong112 {w : World} {a1 a2 : Option Addr} {n1 n2 c1 c2 : Nat} (h1 : n1 ≤ 8) (h2 : n2 ≤ 8) : Calls Tryz.prog 72 #[.agg #[.slice a1 n1 c1, .slice a2 n2 c2]] w fun e w' => e = .returned (.bool false) ∧ Below w.heap.size w w' := by
  have J : Hid (Below w.heap.size w (w.alloc (.cells #[.slice a1 n1 c1, .slice a2 n2 c2] 36))) := (Below.refl _ w).alloc (Nat.le_refl _) _
  have k1 : ¬ (8 : Int) < (n1 : Int) := by omega
  have k2 : ¬ (8 : Int) < (n2 : Int) := by omega
  go_enter Tryz.func72, Tryz.ntmps72
  go_wp2_with fail
  go_ret
  exact ⟨rfl, J.out⟩
theorem uneven113 {w : World} {a1 a2 : Option Addr} {n c1 c2 : Nat} (h1 : 0 < n) : Calls Tryz.prog 73 #[.agg #[.slice a1 n c1, .slice a2 n c2]] w fun e w' => e = .returned (.bool false) ∧ Below w.heap.size w w' := by
  have J : Hid (Below w.heap.size w (w.alloc (.cells #[.slice a1 n c1, .slice a2 n c2] 36))) := (Below.refl _ w).alloc (Nat.le_refl _) _
  have k1 : ((n : Int) == 0) = false := by simp; omega
  have k2 : ((n : Int) != (n : Int)) = false := by simp
  go_enter Tryz.func73, Tryz.ntmps73
  go_wp2_with fail
  go_ret
  exact ⟨rfl, J.out⟩
theorem strange114 {w : World} {a1 a2 : Option Addr} {n1 n2 c1 c2 : Nat} {z : Int}
    (C1 : ∀ W, Below w.heap.size w W → Calls Tryz.prog 115 #[.agg #[.int .i64 z], .slice a1 n1 c1] W fun e w' => e = .returned (.bool true) ∧ Below W.heap.size W w')
    (C2 : ∀ W, Below w.heap.size w W → Calls Tryz.prog 115 #[.agg #[.int .i64 z], .slice a2 n2 c2] W fun e w' => e = .returned (.bool true) ∧ Below W.heap.size W w') :
    Calls Tryz.prog 74 #[.agg #[.int .i64 z], .agg #[.slice a1 n1 c1, .slice a2 n2 c2]] w fun e w' => e = .returned (.bool false) ∧ Below w.heap.size w w' := by
  have H1 : Hid _ := C1
  have H2 : Hid _ := C2
  clear C1 C2
  generalize hW : (w.alloc (.cells #[.int .i64 z] 51)).alloc (.cells #[.slice a1 n1 c1, .slice a2 n2 c2] 36) = U
  have B : Hid (Below w.heap.size w U) := by rw [← hW]; exact ((Below.refl _ w).alloc (Nat.le_refl _) _).alloc (by simp) _
  have I0 : Hid (IHolds U w.heap.size 51 [.int .i64 z]) := by rw [← hW]; exact (IHolds.new w 51 [.int .i64 z]).alloc _
  have I1 : Hid (IHolds U (w.heap.size + 1) 36 [.slice a1 n1 c1, .slice a2 n2 c2]) := by rw [← hW]; exact IHolds.new' _ 36 [_, _] (by simp)
  go_enter Tryz.func74, Tryz.ntmps74
  have q0 : U.cell? ⟨w.heap.size, 0, none⟩ = some (.int .i64 z) := I0.out.cell 0 (by simp)
  have q1 : U.cell? ⟨w.heap.size + 1, 0, none⟩ = some (.slice a1 n1 c1) := I1.out.cell 0 (by simp)
  go_wp2_with (go_at_call 115; first
    | (refine (H1.out _ B.out).mono ?_; rintro e w1 ⟨rfl, hB1⟩; have B1 : Hid (Below w.heap.size w w1) := B.out.trans (hB1.mono B.out.size); have r0 := cell_keep (I0.out.cell 0 (by simp)) hB1; have r1 := cell_keep (I1.out.cell 1 (by simp)) hB1; clear hB1 B)
    | (refine (H2.out _ B1.out).mono ?_; rintro e w2 ⟨rfl, hB2⟩; have B2 : Hid (Below w.heap.size w w2) := B1.out.trans (hB2.mono B1.out.size); clear hB2 B1))
  go_ret
  exact ⟨rfl, B2.out⟩
set_option maxHeartbeats 1000000 in
theorem index126_112 {w : World} {a : Option Addr} {l : List Cl} {c : Nat} (hl : l.length ≤ 9223372036854775807) (hs : CM w a l)
    (CN : ∀ i (h : i < l.length) a1 c1 a2 c2 W, Below w.heap.size w W → SL W a1 (l[i]).1 → SL W a2 (l[i]).2 → Calls Tryz.prog 72 #[.agg #[.slice a1 (l[i]).1.length c1, .slice a2 (l[i]).2.length c2]] W fun e w' => e = .returned (.bool false) ∧ Below W.heap.size W w') :
    Calls Tryz.prog 114 #[.slice a l.length c, .func (.func 72) #[] #[]] w fun e w' => e = .returned (.int .i64 (-1)) ∧ Below w.heap.size w w' := by
  have HS : Hid (CM w a l) := hs
  have HL : Hid (l.length ≤ 9223372036854775807) := hl
  have HC : Hid _ := CN
  clear hs CN
  go_enter Tryz.func114, Tryz.ntmps114
  go_wp2_with fail
  go_loopg [5, 8] l.length (fun gk v5 v8 wr => ∃ i : Nat, i + gk = l.length ∧ v8 = .int .i64 (i : Int) ∧ Below w.heap.size w wr)
  case atStart => exact ⟨0, by omega, rfl, Below.refl _ _⟩
  case round =>
    obtain ⟨i, hig, rfl, hB⟩ := hrel
    have B : Hid (Below w.heap.size w wr) := hB
    clear hB
    by_cases hi : i < l.length
    · obtain ⟨b, o, a1, c1, a2, c2, rfl, h1, h2, h3, h4⟩ := HS.out.of_below B.out i hi
      have il : (i : Int) < (l.length : Int) := by omega
      have hcall := HC.out i hi a1 c1 a2 c2 wr B.out h3 h4
      clear h3 h4
      generalize (l[i]).1.length = n1 at *
      generalize (l[i]).2.length = n2 at *
      go_wp2_with (go_at_call 72; refine hcall.mono ?_; rintro e w3 ⟨rfl, hB3⟩)
      go_roundg (gk - 1)
      case measure => omega
      case rel => exact ⟨i + 1, by omega, by go_num, B.out.trans (hB3.mono B.out.size)⟩
    · have il : ¬ (i : Int) < (l.length : Int) := by omega
      go_wp2_with fail
      go_ret
      exact ⟨rfl, B.out⟩
theorem contains111_112 {w : World} {a : Option Addr} {l : List Cl} {c : Nat} (hl : l.length ≤ 9223372036854775807) (hs : CM w a l)
    (CN : ∀ i (h : i < l.length) a1 c1 a2 c2 W, Below w.heap.size w W → SL W a1 (l[i]).1 → SL W a2 (l[i]).2 → Calls Tryz.prog 72 #[.agg #[.slice a1 (l[i]).1.length c1, .slice a2 (l[i]).2.length c2]] W fun e w' => e = .returned (.bool false) ∧ Below W.heap.size W w') :
    Calls Tryz.prog 71 #[.slice a l.length c, .func (.func 72) #[] #[]] w fun e w' => e = .returned (.bool false) ∧ Below w.heap.size w w' := by
  have h := index126_112 (c := c) hl hs CN
  clear hs CN
  generalize l.length = n at *
  go_enter Tryz.func71, Tryz.ntmps71
  go_wp2_with (go_at_call 114; refine h.mono ?_; rintro e w1 ⟨rfl, hB1⟩)
  go_ret
  exact ⟨rfl, hB1⟩
set_option maxHeartbeats 1000000 in
theorem index126_113 {w : World} {a : Option Addr} {l : List Cl} {c : Nat} (hl : l.length ≤ 9223372036854775807) (hs : CM w a l)
    (CN : ∀ i (h : i < l.length) a1 c1 a2 c2 W, Below w.heap.size w W → SL W a1 (l[i]).1 → SL W a2 (l[i]).2 → Calls Tryz.prog 73 #[.agg #[.slice a1 (l[i]).1.length c1, .slice a2 (l[i]).2.length c2]] W fun e w' => e = .returned (.bool false) ∧ Below W.heap.size W w') :
    Calls Tryz.prog 114 #[.slice a l.length c, .func (.func 73) #[] #[]] w fun e w' => e = .returned (.int .i64 (-1)) ∧ Below w.heap.size w w' := by
  have HS : Hid (CM w a l) := hs
  have HL : Hid (l.length ≤ 9223372036854775807) := hl
  have HC : Hid _ := CN
  clear hs CN
  go_enter Tryz.func114, Tryz.ntmps114
  go_wp2_with fail
  go_loopg [5, 8] l.length (fun gk v5 v8 wr => ∃ i : Nat, i + gk = l.length ∧ v8 = .int .i64 (i : Int) ∧ Below w.heap.size w wr)
  case atStart => exact ⟨0, by omega, rfl, Below.refl _ _⟩
  case round =>
    obtain ⟨i, hig, rfl, hB⟩ := hrel
    have B : Hid (Below w.heap.size w wr) := hB
    clear hB
    by_cases hi : i < l.length
    · obtain ⟨b, o, a1, c1, a2, c2, rfl, h1, h2, h3, h4⟩ := HS.out.of_below B.out i hi
      have il : (i : Int) < (l.length : Int) := by omega
      have hcall := HC.out i hi a1 c1 a2 c2 wr B.out h3 h4
      clear h3 h4
      generalize (l[i]).1.length = n1 at *
      generalize (l[i]).2.length = n2 at *
      go_wp2_with (go_at_call 73; refine hcall.mono ?_; rintro e w3 ⟨rfl, hB3⟩)
      go_roundg (gk - 1)
      case measure => omega
      case rel => exact ⟨i + 1, by omega, by go_num, B.out.trans (hB3.mono B.out.size)⟩
    · have il : ¬ (i : Int) < (l.length : Int) := by omega
      go_wp2_with fail
      go_ret
      exact ⟨rfl, B.out⟩
theorem contains111_113 {w : World} {a : Option Addr} {l : List Cl} {c : Nat} (hl : l.length ≤ 9223372036854775807) (hs : CM w a l)
    (CN : ∀ i (h : i < l.length) a1 c1 a2 c2 W, Below w.heap.size w W → SL W a1 (l[i]).1 → SL W a2 (l[i]).2 → Calls Tryz.prog 73 #[.agg #[.slice a1 (l[i]).1.length c1, .slice a2 (l[i]).2.length c2]] W fun e w' => e = .returned (.bool false) ∧ Below W.heap.size W w') :
    Calls Tryz.prog 71 #[.slice a l.length c, .func (.func 73) #[] #[]] w fun e w' => e = .returned (.bool false) ∧ Below w.heap.size w w' := by
  have h := index126_113 (c := c) hl hs CN
  clear hs CN
  generalize l.length = n at *
  go_enter Tryz.func71, Tryz.ntmps71
  go_wp2_with (go_at_call 114; refine h.mono ?_; rintro e w1 ⟨rfl, hB1⟩)
  go_ret
  exact ⟨rfl, hB1⟩
set_option maxHeartbeats 1000000 in
theorem index126_114 {w : World} {a : Option Addr} {l : List Cl} {c : Nat} {z : Int} (hl : l.length ≤ 9223372036854775807) (hs : CM w a l)
    (CN : ∀ i (h : i < l.length) a1 c1 a2 c2 W, Below w.heap.size w W → SL W a1 (l[i]).1 → SL W a2 (l[i]).2 → Calls Tryz.prog 74 #[.agg #[.int .i64 z], .agg #[.slice a1 (l[i]).1.length c1, .slice a2 (l[i]).2.length c2]] W fun e w' => e = .returned (.bool false) ∧ Below W.heap.size W w') :
    Calls Tryz.prog 114 #[.slice a l.length c, .func (.func 74) #[.agg #[.int .i64 z]] #[]] w fun e w' => e = .returned (.int .i64 (-1)) ∧ Below w.heap.size w w' := by
  have HS : Hid (CM w a l) := hs
  have HL : Hid (l.length ≤ 9223372036854775807) := hl
  have HC : Hid _ := CN
  clear hs CN
  go_enter Tryz.func114, Tryz.ntmps114
  go_wp2_with fail
  go_loopg [5, 8] l.length (fun gk v5 v8 wr => ∃ i : Nat, i + gk = l.length ∧ v8 = .int .i64 (i : Int) ∧ Below w.heap.size w wr)
  case atStart => exact ⟨0, by omega, rfl, Below.refl _ _⟩
  case round =>
    obtain ⟨i, hig, rfl, hB⟩ := hrel
    have B : Hid (Below w.heap.size w wr) := hB
    clear hB
    by_cases hi : i < l.length
    · obtain ⟨b, o, a1, c1, a2, c2, rfl, h1, h2, h3, h4⟩ := HS.out.of_below B.out i hi
      have il : (i : Int) < (l.length : Int) := by omega
      have hcall := HC.out i hi a1 c1 a2 c2 wr B.out h3 h4
      clear h3 h4
      generalize (l[i]).1.length = n1 at *
      generalize (l[i]).2.length = n2 at *
      go_wp2_with (go_at_call 74; refine hcall.mono ?_; rintro e w3 ⟨rfl, hB3⟩)
      go_roundg (gk - 1)
      case measure => omega
      case rel => exact ⟨i + 1, by omega, by go_num, B.out.trans (hB3.mono B.out.size)⟩
    · have il : ¬ (i : Int) < (l.length : Int) := by omega
      go_wp2_with fail
      go_ret
      exact ⟨rfl, B.out⟩
theorem contains111_114 {w : World} {a : Option Addr} {l : List Cl} {c : Nat} {z : Int} (hl : l.length ≤ 9223372036854775807) (hs : CM w a l)
    (CN : ∀ i (h : i < l.length) a1 c1 a2 c2 W, Below w.heap.size w W → SL W a1 (l[i]).1 → SL W a2 (l[i]).2 → Calls Tryz.prog 74 #[.agg #[.int .i64 z], .agg #[.slice a1 (l[i]).1.length c1, .slice a2 (l[i]).2.length c2]] W fun e w' => e = .returned (.bool false) ∧ Below W.heap.size W w') :
    Calls Tryz.prog 71 #[.slice a l.length c, .func (.func 74) #[.agg #[.int .i64 z]] #[]] w fun e w' => e = .returned (.bool false) ∧ Below w.heap.size w w' := by
  have h := index126_114 (c := c) hl hs CN
  clear hs CN
  generalize l.length = n at *
  go_enter Tryz.func71, Tryz.ntmps71
  go_wp2_with (go_at_call 114; refine h.mono ?_; rintro e w1 ⟨rfl, hB1⟩)
  go_ret
  exact ⟨rfl, hB1⟩
end Go.Proofs.YtmpiipcllgjhdaaGreatDoor
