/- The powers of a number by each digit. -/
import Derived.Test.YtohpbclofcflaaaGreatEnter
import Derived.Test.YtohpbclofcflaaaGreatLen
set_option linter.unusedSimpArgs false
set_option linter.unusedVariables false
namespace Go.Proofs.YtohpbclofcflaaaGreat
open Go.RowKit Go.Deep Go.PlainAid

/-- The cells of a number's first powers, within. -/
def tabC (R M a : Nat) : Nat → List Value
  | 0 => []
  | k + 1 => tabC R M a k ++ us (ws4 (a ^ k * R % M))
theorem tabC_length (R M a k : Nat) : (tabC R M a k).length = k * 4 := by
  induction k with
  | zero => rfl
  | succ k ih => rw [tabC, List.length_append, ih]; simp [us, ws4]; omega
theorem us4_at (x j : Nat) (hj : j < 4) : (us (ws4 x))[j]? = some (U (w4 x j)) := by
  match j, hj with
  | 0, _ => rfl
  | 1, _ => rfl
  | 2, _ => rfl
  | 3, _ => rfl
theorem tabC_at (R M a k d j : Nat) (hd : d < k) (hj : j < 4) : (tabC R M a k)[d * 4 + j]? = some (U (w4 (a ^ d * R % M) j)) := by
  induction k with
  | zero => omega
  | succ k ih =>
    rw [tabC]
    by_cases h : d < k
    · rw [List.getElem?_append_left (by rw [tabC_length]; omega)]
      exact ih h
    · have e : d = k := by omega
      subst e
      rw [List.getElem?_append_right (by rw [tabC_length]; omega), tabC_length, show d * 4 + j - d * 4 = j by omega]
      exact us4_at _ j hj
/-- A row of numbers of the call's own: where it lies. -/
theorem owned_at {w : World} {base : Nat} {v : Value} {k R M a : Nat} (h : w.ownsRow base 81 4 v k (tabC R M a k)) (hk : 0 < k) :
    ∃ gk cap, v = .slice (some ⟨gk, 0, none⟩) k cap ∧ k ≤ cap ∧ cap ≤ 9223372036854775807 ∧ base ≤ gk ∧ ∀ d j, d < k → j < 4 → w.cell? ⟨gk, d * 4 + j, none⟩ = some (U (w4 (a ^ d * R % M) j)) := by
  obtain ⟨_, ⟨rfl, h0⟩ | ⟨gk, cap, cur, rfl, hb, hg, hc, hm, hs, ht⟩⟩ := h
  · omega
  · refine ⟨gk, cap, rfl, hc, hm, hb, ?_⟩
    intro d j hd hj
    have e := tabC_at R M a k d j hd hj
    rw [← ht, List.getElem?_take_of_lt (by omega), Array.getElem?_toList] at e
    simp only [World.cell?, hg]
    simpa using e
theorem addr_add (b j : Nat) : (⟨b, 0, none⟩ : Addr).add j = ⟨b, j, none⟩ := by
  by_cases h : j = 0
  · subst h; simp [Addr.add]
  · simp [Addr.add, h]
theorem own_below {w w' : World} {base : Nat} {e : TypeId} {size : Nat} {v : Value} {n : Nat} {xs : List Value} (h : w.ownsRow base e size v n xs) (hb : Below w.heap.size w w') : w'.ownsRow base e size v n xs := by
  obtain ⟨hl, ⟨rfl, h0⟩ | ⟨g, cap, cur, rfl, h1, hg, h2⟩⟩ := h
  · exact ⟨hl, Or.inl ⟨rfl, h0⟩⟩
  · exact ⟨hl, Or.inr ⟨g, cap, cur, rfl, h1, by rw [hb.block _ (Array.getElem?_eq_some_iff.1 hg).1]; exact hg, h2⟩⟩
/-- No digit ahead of place p is above m. -/
def UpTo (n p m : Nat) : Prop := ∀ q, q < p → dgt n q ≤ m
theorem UpTo.step {n p m : Nat} (h : UpTo n p m) {k : Nat} (h1 : m ≤ k) (h2 : dgt n p ≤ k) : UpTo n (p + 1) k := by
  intro q hq
  by_cases e : q < p
  · exact Nat.le_trans (h q e) h1
  · have : q = p := by omega
    subst this; exact h2
/-- The table of a number's powers that go with the digits of n. -/
def TabV (w : World) (base R M a n : Nat) (v : Value) : Prop :=
  ∃ gk cap k, v = .slice (some ⟨gk, 0, none⟩) k cap ∧ base ≤ gk ∧ k ≤ cap ∧ cap ≤ 9223372036854775807 ∧ (∀ p, p < 64 → dgt n p < k) ∧ ∀ d j, d < k → j < 4 → w.cell? ⟨gk, d * 4 + j, none⟩ = some (U (w4 (a ^ d * R % M) j))
theorem Tryz.info66 : (Tryz.prog.info? 81).map (fun i => (i.zero, i.size, i.bytes)) = some (some (.agg #[.int .u64 0, .int .u64 0, .int .u64 0, .int .u64 0]), 4, 32) := by kernel_rfl
theorem make105x : ∃ TL : List Value, TL.length = 64 ∧ (∀ i, i < 4 → TL[i]? = some (.int .u64 0)) ∧ ∀ w : World, (Instr.makeSlice 104 (.int .i64 1) (.int .i64 16)).run Tryz.prog w = .ok (.slice (some ⟨w.heap.size, 0, none⟩) 1 16) (w.alloc (.cells TL.toArray 81)) := by
  refine ⟨List.replicate 64 (.int .u64 0), by simp, ?_, ?_⟩
  · intro i hi
    rw [List.getElem?_replicate, if_pos (by omega)]
  intro w
  obtain ⟨i0, hi0, hz0, hz1, hz2⟩ := info_parts Tryz.info66
  have := run_make (P := Tryz.prog) w 104 81 i0 _ Tryz.underlying104 hi0 hz0 .i64 .i64 1 16 (by omega) (by omega) (by rw [hz2]; omega) (by omega)
  rw [this, hz1]
  have e : madeCells (Value.agg #[.int .u64 0, .int .u64 0, .int .u64 0, .int .u64 0]).cells (Int.toNat 16 * 4) = (List.replicate 64 (Value.int .u64 0)).toArray := by kernel_rfl
  rw [e]
  rfl
theorem first_row {W : World} {b base : Nat} {TL : List Value} {x0 x1 x2 x3 : Value} (h : IHolds W b 81 ((((TL.set 0 x0).set 1 x1).set 2 x2).set 3 x3)) (hl : TL.length = 64) (hb : base ≤ b) :
    W.ownsRow base 81 4 (.slice (some ⟨b, 0, none⟩) 1 16) 1 [x0, x1, x2, x3] := by
  obtain ⟨y0, y1, y2, y3, r, rfl⟩ : ∃ y0 y1 y2 y3 r, TL = y0 :: y1 :: y2 :: y3 :: r := by
    match TL, hl with
    | y0 :: y1 :: y2 :: y3 :: r, _ => exact ⟨_, _, _, _, _, rfl⟩
  simp only [List.set_cons_zero, List.set_cons_succ] at h
  refine ⟨rfl, Or.inr ⟨b, 16, (x0 :: x1 :: x2 :: x3 :: r).toArray, rfl, hb, h, by omega, by unfold maxLen; omega, ?_, ?_⟩⟩
  · simpa using hl
  · simp
set_option maxRecDepth 100000 in
set_option maxHeartbeats 500000 in
theorem table_any {w : World} {g o Wd M low one sq Ri a n : Nat} (F : Hid (FH w g o Wd M low one sq)) (fl : Fld Wd M low one sq Ri) (hn : n < BB ^ 4) :
    Calls Tryz.prog 91 #[.pointer (some ⟨g, o, none⟩), A4 (a * BB ^ Wd % M), A4 n] w fun e w' => (∃ v, e = .returned v ∧ TabV w' w.heap.size (BB ^ Wd) M a n v) ∧ Below w.heap.size w w' := by
  obtain ⟨X, hX⟩ : ∃ X, X = a * BB ^ Wd % M := ⟨_, rfl⟩
  rw [← hX]
  show Calls Tryz.prog 91 #[.pointer (some ⟨g, o, none⟩), .agg #[U (w4 X 0), U (w4 X 1), U (w4 X 2), U (w4 X 3)], .agg #[U (w4 n 0), U (w4 n 1), U (w4 n 2), U (w4 n 3)]] w _
  have HO : Hid (one = a ^ 0 * BB ^ Wd % M) := by show _ = _; rw [fl.o, Nat.pow_zero, Nat.one_mul]
  have CJ : Hid (∀ W d, FH W g o Wd M low one sq → Calls Tryz.prog 86 #[.pointer (some ⟨g, o, none⟩), A4 (a ^ d * BB ^ Wd % M), A4 X] W fun e w' => e = .returned (A4 (a ^ (d + 1) * BB ^ Wd % M)) ∧ Below W.heap.size W w') := fun W d hF => by
    rw [hX, Nat.pow_succ]; exact joined_both hF fl
  have CD : Hid (∀ W, Calls Tryz.prog 93 #[.agg #[U (w4 n 0), U (w4 n 1), U (w4 n 2), U (w4 n 3)]] W fun e w' => (∃ D : Nat, e = .returned (.int .i64 (D : Int)) ∧ n < 16 ^ D ∧ D ≤ 64) ∧ Below W.heap.size W w') := fun W => digits_any W hn
  have CG : Hid (∀ W (p : Nat), p < 64 → Calls Tryz.prog 94 #[.agg #[U (w4 n 0), U (w4 n 1), U (w4 n 2), U (w4 n 3)], .int .i64 (p : Int)] W fun e w' => e = .returned (.int .i64 (dgt n p : Int)) ∧ Below W.heap.size W w') := fun W p hp => digit_any W hp
  clear fl hX hn
  generalize BB ^ Wd = R at *
  have JX : Hid (IHolds ((w.alloc (.cells #[U (w4 X 0), U (w4 X 1), U (w4 X 2), U (w4 X 3)] 81)).alloc (.cells #[U (w4 n 0), U (w4 n 1), U (w4 n 2), U (w4 n 3)] 81)) w.heap.size 81 [U (w4 X 0), U (w4 X 1), U (w4 X 2), U (w4 X 3)]) := (IHolds.new w 81 [U (w4 X 0), U (w4 X 1), U (w4 X 2), U (w4 X 3)]).alloc _
  have JN : Hid (IHolds ((w.alloc (.cells #[U (w4 X 0), U (w4 X 1), U (w4 X 2), U (w4 X 3)] 81)).alloc (.cells #[U (w4 n 0), U (w4 n 1), U (w4 n 2), U (w4 n 3)] 81)) (w.heap.size + 1) 81 [U (w4 n 0), U (w4 n 1), U (w4 n 2), U (w4 n 3)]) := by
    have q := IHolds.new (w.alloc (.cells #[U (w4 X 0), U (w4 X 1), U (w4 X 2), U (w4 X 3)] 81)) 81 [U (w4 n 0), U (w4 n 1), U (w4 n 2), U (w4 n 3)]
    rw [World.size_alloc] at q
    exact q
  have B : Hid (Below w.heap.size w ((w.alloc (.cells #[U (w4 X 0), U (w4 X 1), U (w4 X 2), U (w4 X 3)] 81)).alloc (.cells #[U (w4 n 0), U (w4 n 1), U (w4 n 2), U (w4 n 3)] 81))) := ((Below.refl _ w).alloc (Nat.le_refl _) _).alloc (by simp only [World.size_alloc]; omega) _
  have hgl : g < w.heap.size := F.out.lt
  replace F := aF F B.out
  go_enter Tryz.func91, Tryz.ntmps91
  have zn0 := IHolds.cell JN.out 0 (by simp)
  have zn1 := IHolds.cell JN.out 1 (by simp)
  have zn2 := IHolds.cell JN.out 2 (by simp)
  have zn3 := IHolds.cell JN.out 3 (by simp)
  simp only [List.getElem_cons_zero, List.getElem_cons_succ] at zn0 zn1 zn2 zn3
  go_wp2_with fail
  clear zn0 zn1 zn2 zn3
  generalize ((w.alloc (.cells #[U (w4 X 0), U (w4 X 1), U (w4 X 2), U (w4 X 3)] 81)).alloc (.cells #[U (w4 n 0), U (w4 n 1), U (w4 n 2), U (w4 n 3)] 81)) = U0 at *
  obtain ⟨b0, hb0⟩ : ∃ b, b = w.heap.size := ⟨_, rfl⟩
  rw [← hb0] at JX JN hgl ⊢
  have Hb0 : Hid (b0 = w.heap.size) := hb0
  clear hb0
  refine (CD.out U0).mono ?_
  rintro e V1 ⟨⟨D, rfl, hD, hD9⟩, hb⟩
  have HD : Hid (n < 16 ^ D) := hD
  have B1 : Hid (Below U0.heap.size U0 V1) := hb
  clear CD hD hb
  go_wp2_with fail
  go_loopg [7, 13] D (fun gk v7 v13 wr => ∃ (p m : Nat), gk + p = D ∧ v7 = .int .i64 (m : Int) ∧ v13 = .int .i64 (p : Int) ∧ m < 16 ∧ UpTo n p m ∧ Below U0.heap.size U0 wr)
  case atStart => exact ⟨0, 0, by omega, rfl, rfl, by omega, fun q h => by omega, B1.out⟩
  case round =>
    clear B1
    obtain ⟨p, m, hk, rfl, rfl, hm, hU, hB⟩ := hrel
    have HU : Hid (UpTo n p m) := hU
    have B1 : Hid (Below U0.heap.size U0 wr) := hB
    clear hU hB
    by_cases hp : p < D
    · have hp1 : (p : Int) < (D : Int) := by omega
      have J1 : Hid (IHolds wr (b0 + 1) 81 [U (w4 n 0), U (w4 n 1), U (w4 n 2), U (w4 n 3)]) := JN.out.of_below B1.out
      have zn0 := IHolds.cell J1.out 0 (by simp)
      have zn1 := IHolds.cell J1.out 1 (by simp)
      have zn2 := IHolds.cell J1.out 2 (by simp)
      have zn3 := IHolds.cell J1.out 3 (by simp)
      simp only [List.getElem_cons_zero, List.getElem_cons_succ] at zn0 zn1 zn2 zn3
      have CG1 := CG.out wr p (by omega)
      have d9 := dgt_lt n p
      obtain ⟨d, hd⟩ : ∃ d, d = dgt n p := ⟨_, rfl⟩
      rw [← hd] at CG1 d9
      have Hd : Hid (dgt n p = d) := hd.symm
      have CG2 : Hid (Calls Tryz.prog 94 #[.agg #[U (w4 n 0), U (w4 n 1), U (w4 n 2), U (w4 n 3)], .int .i64 (p : Int)] wr fun e w' => e = .returned (.int .i64 (d : Int)) ∧ Below wr.heap.size wr w') := CG1
      clear CG1 hd
      go_wp2_with fail
      clear zn0 zn1 zn2 zn3 J1
      refine CG2.out.mono ?_
      rintro e V2 ⟨rfl, hb⟩
      have B2 : Hid (Below U0.heap.size U0 V2) := aB B1 hb
      clear hb CG2 B1
      by_cases hmd : m < d
      · have k1 : (m : Int) < (d : Int) := by omega
        have k2 : max (m : Int) (d : Int) = (d : Int) := by omega
        go_wp2_with fail
        go_roundg (gk - 1)
        case measure => omega
        case rel => exact ⟨p + 1, d, by omega, by first | rfl | go_num, by first | rfl | go_num, by omega, HU.out.step (by omega) (Nat.le_of_eq Hd.out), B2.out⟩
      · have k1 : ¬ (m : Int) < (d : Int) := by omega
        have k2 : max (m : Int) (d : Int) = (m : Int) := by omega
        go_wp2_with fail
        go_roundg (gk - 1)
        case measure => omega
        case rel => exact ⟨p + 1, m, by omega, by first | rfl | go_num, by first | rfl | go_num, by omega, HU.out.step (by omega) (by rw [Hd.out]; omega), B2.out⟩
    · have hp1 : ¬ (p : Int) < (D : Int) := by omega
      have hT : ∀ q, q < 64 → dgt n q < m + 1 := by
        intro q hq
        by_cases h : q < p
        · have := HU.out q h; omega
        · have hz : dgt n q = 0 := by
            unfold dgt
            rw [Nat.div_eq_of_lt (Nat.lt_of_lt_of_le HD.out (Nat.pow_le_pow_right (by omega) (by omega)))]
          omega
      have HT : Hid (∀ q, q < 64 → dgt n q < m + 1) := hT
      clear hT HU HD hD9 hk CG JN
      obtain ⟨TL, hTL, hT0, hmk⟩ := make105x
      have Jt : Hid (IHolds (wr.alloc (.cells TL.toArray 81)) wr.heap.size 81 TL) := IHolds.new wr 81 TL
      have HTL : Hid (TL.length = 64) := hTL
      have ct : Hid (∀ i, i < 4 → (wr.alloc (.cells TL.toArray 81)).cell? ⟨wr.heap.size, i, none⟩ = some (.int .u64 0)) := by
        show ∀ _, _
        intro i hi
        have hl : i < TL.length := by omega
        have h := hT0 i hi
        rw [List.getElem?_eq_getElem hl] at h
        rw [Jt.out.cell i hl]
        exact h
      clear hTL hT0
      have B2 : Hid (Below U0.heap.size U0 (wr.alloc (.cells TL.toArray 81))) := aB B1 (nB _ _)
      have F1 : Hid (FH (wr.alloc (.cells TL.toArray 81)) g o Wd M low one sq) := aF F B2.out
      have gt : Hid (U0.heap.size ≤ wr.heap.size) := B1.out.size
      have fo0 := F1.out.o0
      have fo1 := F1.out.o1
      have fo2 := F1.out.o2
      have fo3 := F1.out.o3
      have ct0 := ct.out 0 (by omega)
      have ct1 := ct.out 1 (by omega)
      have ct2 := ct.out 2 (by omega)
      have ct3 := ct.out 3 (by omega)
      have f0 := fJ Jt
      have hmk1 := hmk wr
      clear B1 ct hmk
      generalize wr.alloc (.cells TL.toArray 81) = W1 at *
      generalize wr.heap.size = bt at *
      have Bx : Hid (Below U0.heap.size U0 ((((W1.setCell ⟨bt, 0, none⟩ (U (w4 one 0))).setCell ⟨bt, 1, none⟩ (U (w4 one 1))).setCell ⟨bt, 2, none⟩ (U (w4 one 2))).setCell ⟨bt, 3, none⟩ (U (w4 one 3)))) := (((B2.out.setCell gt.out _).setCell gt.out _).setCell gt.out _).setCell gt.out _
      have HR : Hid (World.ownsRow ((((W1.setCell ⟨bt, 0, none⟩ (U (w4 one 0))).setCell ⟨bt, 1, none⟩ (U (w4 one 1))).setCell ⟨bt, 2, none⟩ (U (w4 one 2))).setCell ⟨bt, 3, none⟩ (U (w4 one 3))) U0.heap.size 81 4 (.slice (some ⟨bt, 0, none⟩) 1 16) 1 (us (ws4 one))) := first_row ((((Jt.out.set 0 _).set 1 _).set 2 _).set 3 _) HTL.out gt.out
      clear Jt B2 F1
      go_wp2_with fail
      clear fo0 fo1 fo2 fo3 ct0 ct1 ct2 ct3 f0 hmk1
      generalize (((W1.setCell ⟨bt, 0, none⟩ (U (w4 one 0))).setCell ⟨bt, 1, none⟩ (U (w4 one 1))).setCell ⟨bt, 2, none⟩ (U (w4 one 2))).setCell ⟨bt, 3, none⟩ (U (w4 one 3)) = W2 at *
      have Bw : Hid (Below w.heap.size w U0) := B
      clear B HTL hp1 hp
      obtain ⟨i0, hi0, hz0, hz1, hz2⟩ := info_parts Tryz.info66
      have HR0 : Hid (W2.ownsRow U0.heap.size 81 4 (.slice (some ⟨bt, 0, none⟩) 1 16) (0 + 1) (tabC R M a (0 + 1))) := by
        show World.ownsRow _ _ _ _ _ _ _
        have e : tabC R M a (0 + 1) = us (ws4 one) := by rw [HO.out]; rfl
        rw [e]; exact HR.out
      clear HR HO
      go_loopg [9, 30] m (fun gj v9 v30 wq => ∃ (d : Nat) (v : Value), gj + d = m ∧ v = v9 ∧ v30 = .int .i64 (d : Int) ∧ wq.ownsRow U0.heap.size 81 4 v (d + 1) (tabC R M a (d + 1)) ∧ Below U0.heap.size U0 wq)
      case atStart => exact ⟨0, _, by omega, rfl, rfl, HR0.out, Bx.out⟩
      case round =>
        clear HR0 Bx
        obtain ⟨d, v, hd, hv, rfl, hR, hB⟩ := hrel
        subst hv
        have HR : Hid (wr.ownsRow U0.heap.size 81 4 v (d + 1) (tabC R M a (d + 1))) := hR
        have B1 : Hid (Below U0.heap.size U0 wr) := hB
        clear hR hB
        obtain ⟨gq, cap, hv, hc1, hc2, hgq, hcell⟩ := owned_at HR.out (by omega)
        subst hv
        have HC : Hid (∀ e j, e < d + 1 → j < 4 → wr.cell? ⟨gq, e * 4 + j, none⟩ = some (U (w4 (a ^ e * R % M) j))) := hcell
        have Hgq : Hid (U0.heap.size ≤ gq) := hgq
        clear hcell hgq
        by_cases hdm : d < m
        · have k1 : (d : Int) < (m : Int) := by omega
          obtain ⟨Y, hY⟩ : ∃ Y, Y = a ^ d * R % M := ⟨_, rfl⟩
          obtain ⟨Z, hZ⟩ : ∃ Z, Z = a ^ (d + 1) * R % M := ⟨_, rfl⟩
          have CJ1 : Hid (∀ W, FH W g o Wd M low one sq → Calls Tryz.prog 86 #[.pointer (some ⟨g, o, none⟩), .agg #[U (w4 Y 0), U (w4 Y 1), U (w4 Y 2), U (w4 Y 3)], .agg #[U (w4 X 0), U (w4 X 1), U (w4 X 2), U (w4 X 3)]] W fun e w' => e = .returned (.agg #[U (w4 Z 0), U (w4 Z 1), U (w4 Z 2), U (w4 Z 3)]) ∧ Below W.heap.size W w') := fun W hF => by
            have h := CJ.out W d hF
            rw [← hY, ← hZ] at h
            exact h
          have HN : Hid (tabC R M a (d + 1 + 1) = tabC R M a (d + 1) ++ [U (w4 Z 0), U (w4 Z 1), U (w4 Z 2), U (w4 Z 3)]) := by rw [hZ]; rfl
          have cy0 := HC.out d 0 (by omega) (by omega)
          have cy1 := HC.out d 1 (by omega) (by omega)
          have cy2 := HC.out d 2 (by omega) (by omega)
          have cy3 := HC.out d 3 (by omega) (by omega)
          rw [← hY] at cy0 cy1 cy2 cy3
          clear hY hZ
          have JX1 : Hid (IHolds wr b0 81 [U (w4 X 0), U (w4 X 1), U (w4 X 2), U (w4 X 3)]) := JX.out.of_below B1.out
          have F1 : Hid (FH wr g o Wd M low one sq) := aF F B1.out
          clear CJ HC
          obtain ⟨q, hq⟩ : ∃ q, q = d * 4 := ⟨_, rfl⟩
          rw [← hq] at cy0 cy1 cy2 cy3
          have kq : (d : Int) * 4 = (q : Int) := by omega
          have kq2 : ((d : Int) * 4).toNat = q := by omega
          have kq3 : (d : Int).toNat * 4 = q := by omega
          have Hq : Hid (q = d * 4) := hq
          clear hq
          go_wp2_with fail
          have hb := dB wr
          replace B1 := aB B1 hb
          replace JX1 := aJ JX1 hb
          replace F1 := aF F1 hb
          replace HR : Hid (wr.drew.ownsRow U0.heap.size 81 4 (.slice (some ⟨gq, 0, none⟩) (d + 1) cap) (d + 1) (tabC R M a (d + 1))) := HR
          replace cy0 : wr.drew.cell? ⟨gq, q + 0, none⟩ = some (U (w4 Y 0)) := cy0
          replace cy1 : wr.drew.cell? ⟨gq, q + 1, none⟩ = some (U (w4 Y 1)) := cy1
          replace cy2 : wr.drew.cell? ⟨gq, q + 2, none⟩ = some (U (w4 Y 2)) := cy2
          replace cy3 : wr.drew.cell? ⟨gq, q + 3, none⟩ = some (U (w4 Y 3)) := cy3
          clear hb
          refine wp_region_held_drew (S := fun W => IHolds W b0 81 [U (w4 X 0), U (w4 X 1), U (w4 X 2), U (w4 X 3)]) (by kernel_rfl) JX1.out (fun h1 => ?_)
          generalize wr.drew = U1 at *
          refine tk (i := 0) (v := .slice (some ⟨gq, 0, none⟩) (d + 1) cap) rfl (by kernel_rfl) (fun _ _ _ h => h) rfl ?_ h1 ?_
          · intro W hS; go_simp
          simp only [Act.put, y1, y2, y3, y4, y5, y6, y7]
          refine tk (i := 1) (v := .pointer (some ⟨g, o, none⟩)) rfl (by kernel_rfl) (fun _ _ _ h => h) rfl ?_ h1 ?_
          · intro W hS; go_simp
          simp only [Act.put, y1, y2, y3, y4, y5, y6, y7]
          refine tk (i := 2) (v := .slice (some ⟨gq, 0, none⟩) (d + 1) cap) rfl (by kernel_rfl) (fun _ _ _ h => h) rfl ?_ h1 ?_
          · intro W hS; go_simp
          simp only [Act.put, y1, y2, y3, y4, y5, y6, y7]
          refine tk (i := 3) (v := .int .i64 (d : Int)) rfl (by kernel_rfl) (fun _ _ _ h => h) rfl ?_ h1 ?_
          · intro W hS; go_simp
          simp only [Act.put, y1, y2, y3, y4, y5, y6, y7]
          refine tk (i := 4) (v := .pointer (some ⟨gq, q, none⟩)) rfl (by kernel_rfl) (fun _ _ _ h => h) rfl ?_ h1 ?_
          · intro W hS; have hlt : (d : Int) < (d : Int) + 1 := (by omega); go_simp
          simp only [Act.put, y1, y2, y3, y4, y5, y6, y7]
          refine tk (i := 6) (v := .agg #[U (w4 X 0), U (w4 X 1), U (w4 X 2), U (w4 X 3)]) rfl (by kernel_rfl) (fun _ _ _ h => h) rfl ?_ h1 ?_
          · intro W hS; have zx0 := IHolds.cell hS 0 (by simp); have zx1 := IHolds.cell hS 1 (by simp); have zx2 := IHolds.cell hS 2 (by simp); have zx3 := IHolds.cell hS 3 (by simp); simp only [List.getElem_cons_zero, List.getElem_cons_succ] at zx0 zx1 zx2 zx3; go_simp
          simp only [Act.put, y1, y2, y3, y4, y5, y6, y7]
          refine wpAnyH_ready (rs := [5]) (by kernel_rfl) (by simp) ?_
          refine AllReadyH.cons rfl (fun K hK => ?_) AllReadyH.nil
          clear h1
          replace cy0 : U1.cell? ⟨gq, q, none⟩ = some (U (w4 Y 0)) := cy0
          go_simp
          clear cy0 cy1 cy2 cy3
          refine hK.out _ _ JX1.out (fun h1 => ?_)
          clear hK K
          try simp only [Act.put, y1, y2, y3, y4, y5, y6, y7]
          refine wpAnyH_ready (rs := [7]) (by kernel_rfl) (by simp) ?_
          refine AllReadyH.cons rfl (fun K hK => ?_) AllReadyH.nil
          clear h1
          go_simp
          refine (CJ1.out U1 F1.out).mono ?_
          rintro e U2 ⟨rfl, hb⟩
          replace B1 := aB B1 hb
          replace JX1 := aJ JX1 hb
          replace F1 := aF F1 hb
          replace HR : Hid (U2.ownsRow U0.heap.size 81 4 (.slice (some ⟨gq, 0, none⟩) (d + 1) cap) (d + 1) (tabC R M a (d + 1))) := own_below HR.out hb
          clear hb CJ1
          go_wp2_with fail
          refine hK.out _ _ JX1.out (fun h1 => ?_)
          clear hK K
          try simp only [Act.put, y1, y2, y3, y4, y5, y6, y7]
          refine wpAnyH_ready (rs := [8]) (by kernel_rfl) (by simp) ?_
          refine AllReadyH.cons rfl (fun K hK => ?_) AllReadyH.nil
          clear h1
          go_simp
          have hb := nB U2 (.cells #[U (w4 Z 0), U (w4 Z 1), U (w4 Z 2), U (w4 Z 3)] 81)
          have HCN : Hid (∀ j u, [U (w4 Z 0), U (w4 Z 1), U (w4 Z 2), U (w4 Z 3)][j]? = some u → (U2.alloc (.cells #[U (w4 Z 0), U (w4 Z 1), U (w4 Z 2), U (w4 Z 3)] 81)).cell? ((⟨U2.heap.size, 0, none⟩ : Addr).add j) = some u) := by
            show ∀ _, _
            intro j u hu
            have hj : j < [U (w4 Z 0), U (w4 Z 1), U (w4 Z 2), U (w4 Z 3)].length := (List.getElem?_eq_some_iff.1 hu).1
            have q := (IHolds.new U2 81 [U (w4 Z 0), U (w4 Z 1), U (w4 Z 2), U (w4 Z 3)]).cell j hj
            rw [(List.getElem?_eq_some_iff.1 hu).2] at q
            have e : (⟨U2.heap.size, 0, none⟩ : Addr).add j = ⟨U2.heap.size, j, none⟩ := addr_add _ _
            rw [e]; exact q
          replace B1 := aB B1 hb
          replace JX1 := aJ JX1 hb
          replace F1 := aF F1 hb
          replace HR : Hid (World.ownsRow (U2.alloc (.cells #[U (w4 Z 0), U (w4 Z 1), U (w4 Z 2), U (w4 Z 3)] 81)) U0.heap.size 81 4 (.slice (some ⟨gq, 0, none⟩) (d + 1) cap) (d + 1) (tabC R M a (d + 1))) := own_below HR.out hb
          clear hb
          generalize (U2.alloc (.cells #[U (w4 Z 0), U (w4 Z 1), U (w4 Z 2), U (w4 Z 3)] 81)) = U3 at *
          generalize U2.heap.size = bn at *
          refine hK.out _ _ JX1.out (fun h1 => ?_)
          clear hK K
          try simp only [Act.put, y1, y2, y3, y4, y5, y6, y7]
          refine wpAnyH_ready (rs := [9]) (by kernel_rfl) (by simp) ?_
          refine AllReadyH.cons rfl (fun K hK => ?_) AllReadyH.nil
          clear h1
          refine wp_append_own _ (.tmp 33) (.tmp 41) 104 rfl U0.heap.size 81 i0 _ 4 32 Tryz.underlying104 hi0 hz0 hz1 hz2 rfl (by decide) (.slice (some ⟨gq, 0, none⟩) (d + 1) cap) (d + 1) (tabC R M a (d + 1)) rfl HR.out ⟨bn, 0, none⟩ 1 1 [U (w4 Z 0), U (w4 Z 1), U (w4 Z 2), U (w4 Z 3)] rfl rfl HCN.out (fun u hu => by simp at hu; rcases hu with rfl | rfl | rfl | rfl <;> rfl) (by unfold maxLen; omega) (by omega) B1.out.size ?_
          intro v1 U4 hown hgrow hnil
          have hB4 : Below U0.heap.size U0 U4 := B1.out.grown hgrow B1.out.size (fun k hk => (HR.out.lt k hk).1)
          have B4 : Hid (Below U0.heap.size U0 U4) := hB4
          rw [← HN.out] at hown
          have HR4 : Hid (U4.ownsRow U0.heap.size 81 4 v1 (d + 1 + 1) (tabC R M a (d + 1 + 1))) := hown
          replace JX1 : Hid (IHolds U4 b0 81 [U (w4 X 0), U (w4 X 1), U (w4 X 2), U (w4 X 3)]) := JX.out.of_below hB4
          clear hown hgrow hnil hB4 HCN HR B1 F1 HN
          refine hK.out _ _ JX1.out (fun h1 => ?_)
          clear hK K
          try simp only [Act.put, y1, y2, y3, y4, y5, y6, y7]
          refine wpAnyH_ready (rs := [10]) (by kernel_rfl) (by simp) ?_
          refine AllReadyH.cons rfl (fun K hK => ?_) AllReadyH.nil
          clear h1
          go_simp
          refine hK.out _ _ JX1.out (fun h1 => ?_)
          clear hK K
          try simp only [Act.put, y1, y2, y3, y4, y5, y6, y7]
          refine wpAnyH_done (by kernel_rfl) ?_ _
          clear h1
          go_wp2_with fail
          go_roundg (gk - 1)
          case measure => omega
          case rel => exact ⟨d + 1, v1, by omega, rfl, by first | rfl | go_num, HR4.out, B4.out⟩
        · have k1 : ¬ (d : Int) < (m : Int) := by omega
          have e : d = m := by omega
          subst e
          go_wp2_with fail
          go_ret
          refine ⟨⟨_, rfl, gq, cap, d + 1, rfl, ?_, hc1, hc2, HT.out, HC.out⟩, Bw.out.trans (B1.out.mono Bw.out.size)⟩
          exact Nat.le_trans Bw.out.size Hgq.out
end Go.Proofs.YtohpbclofcflaaaGreat
