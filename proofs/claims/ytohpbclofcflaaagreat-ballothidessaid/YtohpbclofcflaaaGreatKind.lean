/- The reference's kinds. -/
import Derived.Test.YtohpbclofcflaaaGreatAid
set_option linter.unusedSimpArgs false
set_option linter.unusedVariables false
namespace Go.Proofs.YtohpbclofcflaaaGreat
open Go.RowKit Go.Deep Go.PlainAid

theorem len_lt {n k : Nat} (h : n < 65536 ^ k) : (dg 65536 n).length ≤ k := dg_len_le b16 k n h
/-- What is written into a block that holds 0 and two numbers of none leaves every number: its highest digit is not 0. -/
theorem NumV.off25 {w w' : World} {b n : Nat} {v : Value} (h : NumV w 65536 n v) (hI : IHolds w b 42 [.int .i64 0, .slice none 0 0, .slice none 0 0]) (hb : But b w w') : NumV w' 65536 n v := by
  obtain ⟨a, cap, rfl, hc, hr⟩ := h
  refine ⟨a, cap, rfl, hc, hr.of_but (fun hne k o e => ?_) hb⟩
  rintro rfl
  have h0 : 0 < (dg 65536 n).length := List.length_pos_iff.2 hne
  obtain ⟨k', o', e', hcell⟩ := hr ((dg 65536 n).length - 1) (by omega)
  rw [e] at e'
  simp only [Option.some.injEq, Addr.mk.injEq, and_true] at e'
  obtain ⟨rfl, rfl⟩ := e'
  have ht := (dg_topped b16 n).resolve_left hne
  rw [List.getD_eq_getElem?_getD, List.getElem?_eq_getElem (by omega)] at ht
  generalize o + ((dg 65536 n).length - 1) = j at *
  generalize (dg 65536 n)[(dg 65536 n).length - 1] = x at *
  match j, hcell with
  | 0, hcell =>
    rw [hI.cell 0 (by simp)] at hcell
    simp at hcell
    exact ht (by show x = 0; omega)
  | 1, hcell => rw [hI.cell 1 (by simp)] at hcell; simp at hcell
  | 2, hcell => rw [hI.cell 2 (by simp)] at hcell; simp at hcell
  | j + 3, hcell =>
    have hI' := hI
    unfold IHolds at hI'
    simp [World.cell?, hI'] at hcell
set_option maxRecDepth 100000 in
set_option maxHeartbeats 4000000 in
theorem kind0 (w : World) (z : Int) (z1 : (z == 1) = false) (z1' : (z != 1) = true) (z2 : (z == 2) = false) (z3 : (z == 3) = false) : Calls Tryz.prog 16 #[.int .i64 z] w fun e w' => e = .returned (.agg #[.int .i64 0, .slice none 0 0, .slice none 0 0]) ∧ Below w.heap.size w w' := by
  have O5 : Hid (∀ W, Calls Tryz.prog 24 #[.int .i64 5] W fun e w' => (∃ v, e = .returned v ∧ NumV w' 65536 5 v) ∧ Below W.heap.size W w') := fun W => of_any W 5 (by omega)
  have J : Hid (IHolds (w.alloc (.cells #[.int .i64 0, .slice none 0 0, .slice none 0 0] 42)) w.heap.size 42 [.int .i64 0, .slice none 0 0, .slice none 0 0]) := IHolds.new w 42 _
  have B : Hid (Below w.heap.size w (w.alloc (.cells #[.int .i64 0, .slice none 0 0, .slice none 0 0] 42))) := nB _ _
  go_enter Tryz.func16, Tryz.ntmps16
  go_wp2_with fail
  generalize w.alloc (.cells #[.int .i64 0, .slice none 0 0, .slice none 0 0] 42) = U0 at *
  refine (O5.out U0).mono ?_
  rintro e U1 ⟨⟨v, rfl, hv⟩, hb⟩
  clear hv
  replace B := aB B hb
  replace J := aJ J hb
  clear hb
  have c0 : U1.cell? ⟨w.heap.size, 0, none⟩ = some (.int .i64 0) := J.out.cell 0 (by simp)
  have c1 : U1.cell? ⟨w.heap.size, 1, none⟩ = some (.slice none 0 0) := J.out.cell 1 (by simp)
  have c2 : U1.cell? ⟨w.heap.size, 2, none⟩ = some (.slice none 0 0) := J.out.cell 2 (by simp)
  have f0 := fJ J
  have I4 : Hid (IHolds (((U1.setCell ⟨w.heap.size, 0, none⟩ (.int .i64 0)).setCell ⟨w.heap.size, 1, none⟩ (.slice none 0 0)).setCell ⟨w.heap.size, 2, none⟩ (.slice none 0 0)) w.heap.size 42 [.int .i64 0, .slice none 0 0, .slice none 0 0]) := ((J.out.set 0 (.int .i64 0)).set 1 (.slice none 0 0)).set 2 (.slice none 0 0)
  have B4 : Hid (Below w.heap.size w (((U1.setCell ⟨w.heap.size, 0, none⟩ (.int .i64 0)).setCell ⟨w.heap.size, 1, none⟩ (.slice none 0 0)).setCell ⟨w.heap.size, 2, none⟩ (.slice none 0 0))) := ((B.out.setCell (Nat.le_refl _) _).setCell (Nat.le_refl _) _).setCell (Nat.le_refl _) _
  clear J B
  go_wp2_with fail
  clear c0 c1 c2 f0
  generalize (((U1.setCell ⟨w.heap.size, 0, none⟩ (.int .i64 0)).setCell ⟨w.heap.size, 1, none⟩ (.slice none 0 0)).setCell ⟨w.heap.size, 2, none⟩ (.slice none 0 0)) = UZ at *
  have E0 : UZ.cell? ⟨w.heap.size, 0, none⟩ = some (.int .i64 0) := I4.out.cell 0 (by simp)
  have E1 : UZ.cell? ⟨w.heap.size, 1, none⟩ = some (.slice none 0 0) := I4.out.cell 1 (by simp)
  have E2 : UZ.cell? ⟨w.heap.size, 2, none⟩ = some (.slice none 0 0) := I4.out.cell 2 (by simp)
  exact bodyPost_ret (v := .agg #[.int .i64 0, .slice none 0 0, .slice none 0 0]) (by simp [results, Tryz.results16, go_sem, E0, E1, E2]) rfl ⟨rfl, B4.out⟩
set_option maxRecDepth 100000 in
set_option maxHeartbeats 4000000 in
theorem kind1 (w : World) : Calls Tryz.prog 16 #[.int .i64 1] w fun e w' => (∃ u1 u2, e = .returned (.agg #[.int .i64 2, u1, u2]) ∧ NumV w' 65536 641 u1 ∧ NumV w' 65536 1283 u2) ∧ Below w.heap.size w w' := by
  have O5 : Hid (∀ W, Calls Tryz.prog 24 #[.int .i64 5] W fun e w' => (∃ v, e = .returned v ∧ NumV w' 65536 5 v) ∧ Below W.heap.size W w') := fun W => of_any W 5 (by omega)
  have O1 : Hid (∀ W, Calls Tryz.prog 24 #[.int .i64 1] W fun e w' => (∃ v, e = .returned v ∧ NumV w' 65536 1 v) ∧ Below W.heap.size W w') := fun W => of_any W 1 (by omega)
  have TK : Hid (∀ W, Calls Tryz.prog 39 #[.int .i64 7] W fun e w' => (∃ v, e = .returned v ∧ NumV w' 65536 128 v) ∧ Below W.heap.size W w') := fun W => two_any W 7 (by omega)
  have TM : Hid (∀ W v v', NumV W 65536 5 v → NumV W 65536 128 v' → Calls Tryz.prog 40 #[v, v'] W fun e w' => (∃ v, e = .returned v ∧ NumV w' 65536 640 v) ∧ Below W.heap.size W w') := fun W v v' g1 g2 => timesV g1 g2 (Nat.le_trans (len_lt (k := 20) (by decide)) (by omega)) (Nat.le_trans (len_lt (k := 20) (by decide)) (by omega))
  have P1 : Hid (∀ W v v', NumV W 65536 640 v → NumV W 65536 1 v' → Calls Tryz.prog 38 #[v, v'] W fun e w' => (∃ v, e = .returned v ∧ NumV w' 65536 641 v) ∧ Below W.heap.size W w') := fun W v v' g1 g2 => plusV g1 g2 (Nat.le_trans (len_lt (k := 20) (by decide)) (by omega)) (Nat.le_trans (len_lt (k := 20) (by decide)) (by omega))
  have P2 : Hid (∀ W v, NumV W 65536 641 v → Calls Tryz.prog 38 #[v, v] W fun e w' => (∃ v, e = .returned v ∧ NumV w' 65536 1282 v) ∧ Below W.heap.size W w') := fun W v g1 => plusV g1 g1 (Nat.le_trans (len_lt (k := 20) (by decide)) (by omega)) (Nat.le_trans (len_lt (k := 20) (by decide)) (by omega))
  have P3 : Hid (∀ W v v', NumV W 65536 1282 v → NumV W 65536 1 v' → Calls Tryz.prog 38 #[v, v'] W fun e w' => (∃ v, e = .returned v ∧ NumV w' 65536 1283 v) ∧ Below W.heap.size W w') := fun W v v' g1 g2 => plusV g1 g2 (Nat.le_trans (len_lt (k := 20) (by decide)) (by omega)) (Nat.le_trans (len_lt (k := 20) (by decide)) (by omega))
  have J : Hid (IHolds (w.alloc (.cells #[.int .i64 0, .slice none 0 0, .slice none 0 0] 42)) w.heap.size 42 [.int .i64 0, .slice none 0 0, .slice none 0 0]) := IHolds.new w 42 _
  have B : Hid (Below w.heap.size w (w.alloc (.cells #[.int .i64 0, .slice none 0 0, .slice none 0 0] 42))) := nB _ _
  go_enter Tryz.func16, Tryz.ntmps16
  go_wp2_with fail
  generalize w.alloc (.cells #[.int .i64 0, .slice none 0 0, .slice none 0 0] 42) = U0 at *
  refine (O5.out U0).mono ?_
  rintro e U1 ⟨⟨h5, rfl, hv⟩, hb⟩
  have Nh5 : Hid (NumV U1 65536 5 h5) := hv
  clear hv
  replace B := aB B hb
  replace J := aJ J hb
  clear hb
  go_wp2_with fail
  refine (TK.out U1).mono ?_
  rintro e U2 ⟨⟨tk1, rfl, hv⟩, hb⟩
  have Ntk1 : Hid (NumV U2 65536 128 tk1) := hv
  clear hv
  replace B := aB B hb
  replace J := aJ J hb
  replace Nh5 := aN Nh5 hb
  clear hb
  go_wp2_with fail
  refine (TM.out U2 h5 tk1 Nh5.out Ntk1.out).mono ?_
  rintro e U3 ⟨⟨tm, rfl, hv⟩, hb⟩
  have Ntm : Hid (NumV U3 65536 640 tm) := hv
  clear hv
  replace B := aB B hb
  replace J := aJ J hb
  replace Nh5 := aN Nh5 hb
  replace Ntk1 := aN Ntk1 hb
  clear hb
  go_wp2_with fail
  refine (O1.out U3).mono ?_
  rintro e U4 ⟨⟨o1, rfl, hv⟩, hb⟩
  have No1 : Hid (NumV U4 65536 1 o1) := hv
  clear hv
  replace B := aB B hb
  replace J := aJ J hb
  replace Nh5 := aN Nh5 hb
  replace Ntk1 := aN Ntk1 hb
  replace Ntm := aN Ntm hb
  clear hb
  go_wp2_with fail
  refine (P1.out U4 tm o1 Ntm.out No1.out).mono ?_
  rintro e U5 ⟨⟨qq, rfl, hv⟩, hb⟩
  have Nqq : Hid (NumV U5 65536 641 qq) := hv
  clear hv
  replace B := aB B hb
  replace J := aJ J hb
  replace Nh5 := aN Nh5 hb
  replace Ntk1 := aN Ntk1 hb
  replace Ntm := aN Ntm hb
  replace No1 := aN No1 hb
  clear hb
  go_wp2_with fail
  refine (P2.out U5 qq Nqq.out).mono ?_
  rintro e U6 ⟨⟨q2, rfl, hv⟩, hb⟩
  have Nq2 : Hid (NumV U6 65536 1282 q2) := hv
  clear hv
  replace B := aB B hb
  replace J := aJ J hb
  replace Nh5 := aN Nh5 hb
  replace Ntk1 := aN Ntk1 hb
  replace Ntm := aN Ntm hb
  replace No1 := aN No1 hb
  replace Nqq := aN Nqq hb
  clear hb
  go_wp2_with fail
  refine (O1.out U6).mono ?_
  rintro e U7 ⟨⟨o2, rfl, hv⟩, hb⟩
  have No2 : Hid (NumV U7 65536 1 o2) := hv
  clear hv
  replace B := aB B hb
  replace J := aJ J hb
  replace Nh5 := aN Nh5 hb
  replace Ntk1 := aN Ntk1 hb
  replace Ntm := aN Ntm hb
  replace No1 := aN No1 hb
  replace Nqq := aN Nqq hb
  replace Nq2 := aN Nq2 hb
  clear hb
  go_wp2_with fail
  refine (P3.out U7 q2 o2 Nq2.out No2.out).mono ?_
  rintro e U8 ⟨⟨pp, rfl, hv⟩, hb⟩
  have Npp : Hid (NumV U8 65536 1283 pp) := hv
  clear hv
  replace B := aB B hb
  replace J := aJ J hb
  replace Nh5 := aN Nh5 hb
  replace Ntk1 := aN Ntk1 hb
  replace Ntm := aN Ntm hb
  replace No1 := aN No1 hb
  replace Nqq := aN Nqq hb
  replace Nq2 := aN Nq2 hb
  replace No2 := aN No2 hb
  clear hb
  obtain ⟨qa, ql, qc, rfl⟩ := sN Nqq
  obtain ⟨pa, pl, pc, rfl⟩ := sN Npp
  have c0 : U8.cell? ⟨w.heap.size, 0, none⟩ = some (.int .i64 0) := J.out.cell 0 (by simp)
  have c1 : U8.cell? ⟨w.heap.size, 1, none⟩ = some (.slice none 0 0) := J.out.cell 1 (by simp)
  have c2 : U8.cell? ⟨w.heap.size, 2, none⟩ = some (.slice none 0 0) := J.out.cell 2 (by simp)
  have f0 := fJ J
  have hBut : But w.heap.size U8 (((U8.setCell ⟨w.heap.size, 0, none⟩ (.int .i64 2)).setCell ⟨w.heap.size, 1, none⟩ (.slice qa ql qc)).setCell ⟨w.heap.size, 2, none⟩ (.slice pa pl pc)) := (((But.refl _ U8).setCell 0 (.int .i64 2)).setCell 1 (.slice qa ql qc)).setCell 2 (.slice pa pl pc)
  have I4 : Hid (IHolds (((U8.setCell ⟨w.heap.size, 0, none⟩ (.int .i64 2)).setCell ⟨w.heap.size, 1, none⟩ (.slice qa ql qc)).setCell ⟨w.heap.size, 2, none⟩ (.slice pa pl pc)) w.heap.size 42 [.int .i64 2, .slice qa ql qc, .slice pa pl pc]) := ((J.out.set 0 (.int .i64 2)).set 1 (.slice qa ql qc)).set 2 (.slice pa pl pc)
  have B4 : Hid (Below w.heap.size w (((U8.setCell ⟨w.heap.size, 0, none⟩ (.int .i64 2)).setCell ⟨w.heap.size, 1, none⟩ (.slice qa ql qc)).setCell ⟨w.heap.size, 2, none⟩ (.slice pa pl pc))) := ((B.out.setCell (Nat.le_refl _) _).setCell (Nat.le_refl _) _).setCell (Nat.le_refl _) _
  have NQ : Hid (NumV (((U8.setCell ⟨w.heap.size, 0, none⟩ (.int .i64 2)).setCell ⟨w.heap.size, 1, none⟩ (.slice qa ql qc)).setCell ⟨w.heap.size, 2, none⟩ (.slice pa pl pc)) 65536 641 (.slice qa ql qc)) := Nqq.out.off25 J.out hBut
  have NP : Hid (NumV (((U8.setCell ⟨w.heap.size, 0, none⟩ (.int .i64 2)).setCell ⟨w.heap.size, 1, none⟩ (.slice qa ql qc)).setCell ⟨w.heap.size, 2, none⟩ (.slice pa pl pc)) 65536 1283 (.slice pa pl pc)) := Npp.out.off25 J.out hBut
  clear hBut J B
  go_wp2_with fail
  clear c0 c1 c2 f0
  generalize (((U8.setCell ⟨w.heap.size, 0, none⟩ (.int .i64 2)).setCell ⟨w.heap.size, 1, none⟩ (.slice qa ql qc)).setCell ⟨w.heap.size, 2, none⟩ (.slice pa pl pc)) = UZ at *
  have E0 : UZ.cell? ⟨w.heap.size, 0, none⟩ = some (.int .i64 2) := I4.out.cell 0 (by simp)
  have E1 : UZ.cell? ⟨w.heap.size, 1, none⟩ = some (.slice qa ql qc) := I4.out.cell 1 (by simp)
  have E2 : UZ.cell? ⟨w.heap.size, 2, none⟩ = some (.slice pa pl pc) := I4.out.cell 2 (by simp)
  exact bodyPost_ret (v := .agg #[.int .i64 2, .slice qa ql qc, .slice pa pl pc]) (by simp [results, Tryz.results16, go_sem, E0, E1, E2]) rfl ⟨⟨_, _, rfl, NQ.out, NP.out⟩, B4.out⟩
set_option maxRecDepth 100000 in
set_option maxHeartbeats 4000000 in
theorem kind2 (w : World) : Calls Tryz.prog 16 #[.int .i64 2] w fun e w' => (∃ u1 u2, e = .returned (.agg #[.int .i64 8, u1, u2]) ∧ NumV w' 65536 576465431670292481 u1 ∧ NumV w' 65536 1152930863340584963 u2) ∧ Below w.heap.size w w' := by
  have O5 : Hid (∀ W, Calls Tryz.prog 24 #[.int .i64 5] W fun e w' => (∃ v, e = .returned v ∧ NumV w' 65536 5 v) ∧ Below W.heap.size W w') := fun W => of_any W 5 (by omega)
  have O1 : Hid (∀ W, Calls Tryz.prog 24 #[.int .i64 1] W fun e w' => (∃ v, e = .returned v ∧ NumV w' 65536 1 v) ∧ Below W.heap.size W w') := fun W => of_any W 1 (by omega)
  have OH : Hid (∀ W, Calls Tryz.prog 24 #[.int .i64 268437635] W fun e w' => (∃ v, e = .returned v ∧ NumV w' 65536 268437635 v) ∧ Below W.heap.size W w') := fun W => of_any W 268437635 (by omega)
  have TK : Hid (∀ W, Calls Tryz.prog 39 #[.int .i64 31] W fun e w' => (∃ v, e = .returned v ∧ NumV w' 65536 2147483648 v) ∧ Below W.heap.size W w') := fun W => two_any W 31 (by omega)
  have TM : Hid (∀ W v v', NumV W 65536 268437635 v → NumV W 65536 2147483648 v' → Calls Tryz.prog 40 #[v, v'] W fun e w' => (∃ v, e = .returned v ∧ NumV w' 65536 576465431670292480 v) ∧ Below W.heap.size W w') := fun W v v' g1 g2 => timesV g1 g2 (Nat.le_trans (len_lt (k := 20) (by decide)) (by omega)) (Nat.le_trans (len_lt (k := 20) (by decide)) (by omega))
  have P1 : Hid (∀ W v v', NumV W 65536 576465431670292480 v → NumV W 65536 1 v' → Calls Tryz.prog 38 #[v, v'] W fun e w' => (∃ v, e = .returned v ∧ NumV w' 65536 576465431670292481 v) ∧ Below W.heap.size W w') := fun W v v' g1 g2 => plusV g1 g2 (Nat.le_trans (len_lt (k := 20) (by decide)) (by omega)) (Nat.le_trans (len_lt (k := 20) (by decide)) (by omega))
  have P2 : Hid (∀ W v, NumV W 65536 576465431670292481 v → Calls Tryz.prog 38 #[v, v] W fun e w' => (∃ v, e = .returned v ∧ NumV w' 65536 1152930863340584962 v) ∧ Below W.heap.size W w') := fun W v g1 => plusV g1 g1 (Nat.le_trans (len_lt (k := 20) (by decide)) (by omega)) (Nat.le_trans (len_lt (k := 20) (by decide)) (by omega))
  have P3 : Hid (∀ W v v', NumV W 65536 1152930863340584962 v → NumV W 65536 1 v' → Calls Tryz.prog 38 #[v, v'] W fun e w' => (∃ v, e = .returned v ∧ NumV w' 65536 1152930863340584963 v) ∧ Below W.heap.size W w') := fun W v v' g1 g2 => plusV g1 g2 (Nat.le_trans (len_lt (k := 20) (by decide)) (by omega)) (Nat.le_trans (len_lt (k := 20) (by decide)) (by omega))
  have J : Hid (IHolds (w.alloc (.cells #[.int .i64 0, .slice none 0 0, .slice none 0 0] 42)) w.heap.size 42 [.int .i64 0, .slice none 0 0, .slice none 0 0]) := IHolds.new w 42 _
  have B : Hid (Below w.heap.size w (w.alloc (.cells #[.int .i64 0, .slice none 0 0, .slice none 0 0] 42))) := nB _ _
  go_enter Tryz.func16, Tryz.ntmps16
  go_wp2_with fail
  generalize w.alloc (.cells #[.int .i64 0, .slice none 0 0, .slice none 0 0] 42) = U0 at *
  refine (O5.out U0).mono ?_
  rintro e U1 ⟨⟨h5, rfl, hv⟩, hb⟩
  have Nh5 : Hid (NumV U1 65536 5 h5) := hv
  clear hv
  replace B := aB B hb
  replace J := aJ J hb
  clear hb
  go_wp2_with fail
  refine (OH.out U1).mono ?_
  rintro e U2 ⟨⟨hh, rfl, hv⟩, hb⟩
  have Nhh : Hid (NumV U2 65536 268437635 hh) := hv
  clear hv
  replace B := aB B hb
  replace J := aJ J hb
  replace Nh5 := aN Nh5 hb
  clear hb
  go_wp2_with fail
  refine (TK.out U2).mono ?_
  rintro e U3 ⟨⟨tk1, rfl, hv⟩, hb⟩
  have Ntk1 : Hid (NumV U3 65536 2147483648 tk1) := hv
  clear hv
  replace B := aB B hb
  replace J := aJ J hb
  replace Nh5 := aN Nh5 hb
  replace Nhh := aN Nhh hb
  clear hb
  go_wp2_with fail
  refine (TM.out U3 hh tk1 Nhh.out Ntk1.out).mono ?_
  rintro e U4 ⟨⟨tm, rfl, hv⟩, hb⟩
  have Ntm : Hid (NumV U4 65536 576465431670292480 tm) := hv
  clear hv
  replace B := aB B hb
  replace J := aJ J hb
  replace Nh5 := aN Nh5 hb
  replace Nhh := aN Nhh hb
  replace Ntk1 := aN Ntk1 hb
  clear hb
  go_wp2_with fail
  refine (O1.out U4).mono ?_
  rintro e U5 ⟨⟨o1, rfl, hv⟩, hb⟩
  have No1 : Hid (NumV U5 65536 1 o1) := hv
  clear hv
  replace B := aB B hb
  replace J := aJ J hb
  replace Nh5 := aN Nh5 hb
  replace Nhh := aN Nhh hb
  replace Ntk1 := aN Ntk1 hb
  replace Ntm := aN Ntm hb
  clear hb
  go_wp2_with fail
  refine (P1.out U5 tm o1 Ntm.out No1.out).mono ?_
  rintro e U6 ⟨⟨qq, rfl, hv⟩, hb⟩
  have Nqq : Hid (NumV U6 65536 576465431670292481 qq) := hv
  clear hv
  replace B := aB B hb
  replace J := aJ J hb
  replace Nh5 := aN Nh5 hb
  replace Nhh := aN Nhh hb
  replace Ntk1 := aN Ntk1 hb
  replace Ntm := aN Ntm hb
  replace No1 := aN No1 hb
  clear hb
  go_wp2_with fail
  refine (P2.out U6 qq Nqq.out).mono ?_
  rintro e U7 ⟨⟨q2, rfl, hv⟩, hb⟩
  have Nq2 : Hid (NumV U7 65536 1152930863340584962 q2) := hv
  clear hv
  replace B := aB B hb
  replace J := aJ J hb
  replace Nh5 := aN Nh5 hb
  replace Nhh := aN Nhh hb
  replace Ntk1 := aN Ntk1 hb
  replace Ntm := aN Ntm hb
  replace No1 := aN No1 hb
  replace Nqq := aN Nqq hb
  clear hb
  go_wp2_with fail
  refine (O1.out U7).mono ?_
  rintro e U8 ⟨⟨o2, rfl, hv⟩, hb⟩
  have No2 : Hid (NumV U8 65536 1 o2) := hv
  clear hv
  replace B := aB B hb
  replace J := aJ J hb
  replace Nh5 := aN Nh5 hb
  replace Nhh := aN Nhh hb
  replace Ntk1 := aN Ntk1 hb
  replace Ntm := aN Ntm hb
  replace No1 := aN No1 hb
  replace Nqq := aN Nqq hb
  replace Nq2 := aN Nq2 hb
  clear hb
  go_wp2_with fail
  refine (P3.out U8 q2 o2 Nq2.out No2.out).mono ?_
  rintro e U9 ⟨⟨pp, rfl, hv⟩, hb⟩
  have Npp : Hid (NumV U9 65536 1152930863340584963 pp) := hv
  clear hv
  replace B := aB B hb
  replace J := aJ J hb
  replace Nh5 := aN Nh5 hb
  replace Nhh := aN Nhh hb
  replace Ntk1 := aN Ntk1 hb
  replace Ntm := aN Ntm hb
  replace No1 := aN No1 hb
  replace Nqq := aN Nqq hb
  replace Nq2 := aN Nq2 hb
  replace No2 := aN No2 hb
  clear hb
  obtain ⟨qa, ql, qc, rfl⟩ := sN Nqq
  obtain ⟨pa, pl, pc, rfl⟩ := sN Npp
  have c0 : U9.cell? ⟨w.heap.size, 0, none⟩ = some (.int .i64 0) := J.out.cell 0 (by simp)
  have c1 : U9.cell? ⟨w.heap.size, 1, none⟩ = some (.slice none 0 0) := J.out.cell 1 (by simp)
  have c2 : U9.cell? ⟨w.heap.size, 2, none⟩ = some (.slice none 0 0) := J.out.cell 2 (by simp)
  have f0 := fJ J
  have hBut : But w.heap.size U9 (((U9.setCell ⟨w.heap.size, 0, none⟩ (.int .i64 8)).setCell ⟨w.heap.size, 1, none⟩ (.slice qa ql qc)).setCell ⟨w.heap.size, 2, none⟩ (.slice pa pl pc)) := (((But.refl _ U9).setCell 0 (.int .i64 8)).setCell 1 (.slice qa ql qc)).setCell 2 (.slice pa pl pc)
  have I4 : Hid (IHolds (((U9.setCell ⟨w.heap.size, 0, none⟩ (.int .i64 8)).setCell ⟨w.heap.size, 1, none⟩ (.slice qa ql qc)).setCell ⟨w.heap.size, 2, none⟩ (.slice pa pl pc)) w.heap.size 42 [.int .i64 8, .slice qa ql qc, .slice pa pl pc]) := ((J.out.set 0 (.int .i64 8)).set 1 (.slice qa ql qc)).set 2 (.slice pa pl pc)
  have B4 : Hid (Below w.heap.size w (((U9.setCell ⟨w.heap.size, 0, none⟩ (.int .i64 8)).setCell ⟨w.heap.size, 1, none⟩ (.slice qa ql qc)).setCell ⟨w.heap.size, 2, none⟩ (.slice pa pl pc))) := ((B.out.setCell (Nat.le_refl _) _).setCell (Nat.le_refl _) _).setCell (Nat.le_refl _) _
  have NQ : Hid (NumV (((U9.setCell ⟨w.heap.size, 0, none⟩ (.int .i64 8)).setCell ⟨w.heap.size, 1, none⟩ (.slice qa ql qc)).setCell ⟨w.heap.size, 2, none⟩ (.slice pa pl pc)) 65536 576465431670292481 (.slice qa ql qc)) := Nqq.out.off25 J.out hBut
  have NP : Hid (NumV (((U9.setCell ⟨w.heap.size, 0, none⟩ (.int .i64 8)).setCell ⟨w.heap.size, 1, none⟩ (.slice qa ql qc)).setCell ⟨w.heap.size, 2, none⟩ (.slice pa pl pc)) 65536 1152930863340584963 (.slice pa pl pc)) := Npp.out.off25 J.out hBut
  clear hBut J B
  go_wp2_with fail
  clear c0 c1 c2 f0
  generalize (((U9.setCell ⟨w.heap.size, 0, none⟩ (.int .i64 8)).setCell ⟨w.heap.size, 1, none⟩ (.slice qa ql qc)).setCell ⟨w.heap.size, 2, none⟩ (.slice pa pl pc)) = UZ at *
  have E0 : UZ.cell? ⟨w.heap.size, 0, none⟩ = some (.int .i64 8) := I4.out.cell 0 (by simp)
  have E1 : UZ.cell? ⟨w.heap.size, 1, none⟩ = some (.slice qa ql qc) := I4.out.cell 1 (by simp)
  have E2 : UZ.cell? ⟨w.heap.size, 2, none⟩ = some (.slice pa pl pc) := I4.out.cell 2 (by simp)
  exact bodyPost_ret (v := .agg #[.int .i64 8, .slice qa ql qc, .slice pa pl pc]) (by simp [results, Tryz.results16, go_sem, E0, E1, E2]) rfl ⟨⟨_, _, rfl, NQ.out, NP.out⟩, B4.out⟩
set_option maxRecDepth 100000 in
set_option maxHeartbeats 4000000 in
theorem kind3 (w : World) : Calls Tryz.prog 16 #[.int .i64 3] w fun e w' => (∃ u1 u2, e = .returned (.agg #[.int .i64 32, u1, u2]) ∧ NumV w' 65536 7237005577332262213973186563042995786902308146886443998308627866733439352833 u1 ∧ NumV w' 65536 14474011154664524427946373126085991573804616293772887996617255733466878705667 u2) ∧ Below w.heap.size w w' := by
  have O5 : Hid (∀ W, Calls Tryz.prog 24 #[.int .i64 5] W fun e w' => (∃ v, e = .returned v ∧ NumV w' 65536 5 v) ∧ Below W.heap.size W w') := fun W => of_any W 5 (by omega)
  have O1 : Hid (∀ W, Calls Tryz.prog 24 #[.int .i64 1] W fun e w' => (∃ v, e = .returned v ∧ NumV w' 65536 1 v) ∧ Below W.heap.size W w') := fun W => of_any W 1 (by omega)
  have T5 : Hid (∀ W, Calls Tryz.prog 39 #[.int .i64 125] W fun e w' => (∃ v, e = .returned v ∧ NumV w' 65536 42535295865117307932921825928971026432 v) ∧ Below W.heap.size W w') := fun W => two_any W 125 (by omega)
  have O9 : Hid (∀ W, Calls Tryz.prog 24 #[.int .i64 9087] W fun e w' => (∃ v, e = .returned v ∧ NumV w' 65536 9087 v) ∧ Below W.heap.size W w') := fun W => of_any W 9087 (by omega)
  have PH : Hid (∀ W v v', NumV W 65536 42535295865117307932921825928971026432 v → NumV W 65536 9087 v' → Calls Tryz.prog 38 #[v, v'] W fun e w' => (∃ v, e = .returned v ∧ NumV w' 65536 42535295865117307932921825928971035519 v) ∧ Below W.heap.size W w') := fun W v v' g1 g2 => plusV g1 g2 (Nat.le_trans (len_lt (k := 20) (by decide)) (by omega)) (Nat.le_trans (len_lt (k := 20) (by decide)) (by omega))
  have TK : Hid (∀ W, Calls Tryz.prog 39 #[.int .i64 127] W fun e w' => (∃ v, e = .returned v ∧ NumV w' 65536 170141183460469231731687303715884105728 v) ∧ Below W.heap.size W w') := fun W => two_any W 127 (by omega)
  have TM : Hid (∀ W v v', NumV W 65536 42535295865117307932921825928971035519 v → NumV W 65536 170141183460469231731687303715884105728 v' → Calls Tryz.prog 40 #[v, v'] W fun e w' => (∃ v, e = .returned v ∧ NumV w' 65536 7237005577332262213973186563042995786902308146886443998308627866733439352832 v) ∧ Below W.heap.size W w') := fun W v v' g1 g2 => timesV g1 g2 (Nat.le_trans (len_lt (k := 20) (by decide)) (by omega)) (Nat.le_trans (len_lt (k := 20) (by decide)) (by omega))
  have P1 : Hid (∀ W v v', NumV W 65536 7237005577332262213973186563042995786902308146886443998308627866733439352832 v → NumV W 65536 1 v' → Calls Tryz.prog 38 #[v, v'] W fun e w' => (∃ v, e = .returned v ∧ NumV w' 65536 7237005577332262213973186563042995786902308146886443998308627866733439352833 v) ∧ Below W.heap.size W w') := fun W v v' g1 g2 => plusV g1 g2 (Nat.le_trans (len_lt (k := 20) (by decide)) (by omega)) (Nat.le_trans (len_lt (k := 20) (by decide)) (by omega))
  have P2 : Hid (∀ W v, NumV W 65536 7237005577332262213973186563042995786902308146886443998308627866733439352833 v → Calls Tryz.prog 38 #[v, v] W fun e w' => (∃ v, e = .returned v ∧ NumV w' 65536 14474011154664524427946373126085991573804616293772887996617255733466878705666 v) ∧ Below W.heap.size W w') := fun W v g1 => plusV g1 g1 (Nat.le_trans (len_lt (k := 20) (by decide)) (by omega)) (Nat.le_trans (len_lt (k := 20) (by decide)) (by omega))
  have P3 : Hid (∀ W v v', NumV W 65536 14474011154664524427946373126085991573804616293772887996617255733466878705666 v → NumV W 65536 1 v' → Calls Tryz.prog 38 #[v, v'] W fun e w' => (∃ v, e = .returned v ∧ NumV w' 65536 14474011154664524427946373126085991573804616293772887996617255733466878705667 v) ∧ Below W.heap.size W w') := fun W v v' g1 g2 => plusV g1 g2 (Nat.le_trans (len_lt (k := 20) (by decide)) (by omega)) (Nat.le_trans (len_lt (k := 20) (by decide)) (by omega))
  have J : Hid (IHolds (w.alloc (.cells #[.int .i64 0, .slice none 0 0, .slice none 0 0] 42)) w.heap.size 42 [.int .i64 0, .slice none 0 0, .slice none 0 0]) := IHolds.new w 42 _
  have B : Hid (Below w.heap.size w (w.alloc (.cells #[.int .i64 0, .slice none 0 0, .slice none 0 0] 42))) := nB _ _
  go_enter Tryz.func16, Tryz.ntmps16
  go_wp2_with fail
  generalize w.alloc (.cells #[.int .i64 0, .slice none 0 0, .slice none 0 0] 42) = U0 at *
  refine (O5.out U0).mono ?_
  rintro e U1 ⟨⟨h5, rfl, hv⟩, hb⟩
  have Nh5 : Hid (NumV U1 65536 5 h5) := hv
  clear hv
  replace B := aB B hb
  replace J := aJ J hb
  clear hb
  go_wp2_with fail
  refine (T5.out U1).mono ?_
  rintro e U2 ⟨⟨t5, rfl, hv⟩, hb⟩
  have Nt5 : Hid (NumV U2 65536 42535295865117307932921825928971026432 t5) := hv
  clear hv
  replace B := aB B hb
  replace J := aJ J hb
  replace Nh5 := aN Nh5 hb
  clear hb
  go_wp2_with fail
  refine (O9.out U2).mono ?_
  rintro e U3 ⟨⟨o9, rfl, hv⟩, hb⟩
  have No9 : Hid (NumV U3 65536 9087 o9) := hv
  clear hv
  replace B := aB B hb
  replace J := aJ J hb
  replace Nh5 := aN Nh5 hb
  replace Nt5 := aN Nt5 hb
  clear hb
  go_wp2_with fail
  refine (PH.out U3 t5 o9 Nt5.out No9.out).mono ?_
  rintro e U4 ⟨⟨hh, rfl, hv⟩, hb⟩
  have Nhh : Hid (NumV U4 65536 42535295865117307932921825928971035519 hh) := hv
  clear hv
  replace B := aB B hb
  replace J := aJ J hb
  replace Nh5 := aN Nh5 hb
  replace Nt5 := aN Nt5 hb
  replace No9 := aN No9 hb
  clear hb
  go_wp2_with fail
  refine (TK.out U4).mono ?_
  rintro e U5 ⟨⟨tk1, rfl, hv⟩, hb⟩
  have Ntk1 : Hid (NumV U5 65536 170141183460469231731687303715884105728 tk1) := hv
  clear hv
  replace B := aB B hb
  replace J := aJ J hb
  replace Nh5 := aN Nh5 hb
  replace Nt5 := aN Nt5 hb
  replace No9 := aN No9 hb
  replace Nhh := aN Nhh hb
  clear hb
  go_wp2_with fail
  refine (TM.out U5 hh tk1 Nhh.out Ntk1.out).mono ?_
  rintro e U6 ⟨⟨tm, rfl, hv⟩, hb⟩
  have Ntm : Hid (NumV U6 65536 7237005577332262213973186563042995786902308146886443998308627866733439352832 tm) := hv
  clear hv
  replace B := aB B hb
  replace J := aJ J hb
  replace Nh5 := aN Nh5 hb
  replace Nt5 := aN Nt5 hb
  replace No9 := aN No9 hb
  replace Nhh := aN Nhh hb
  replace Ntk1 := aN Ntk1 hb
  clear hb
  go_wp2_with fail
  refine (O1.out U6).mono ?_
  rintro e U7 ⟨⟨o1, rfl, hv⟩, hb⟩
  have No1 : Hid (NumV U7 65536 1 o1) := hv
  clear hv
  replace B := aB B hb
  replace J := aJ J hb
  replace Nh5 := aN Nh5 hb
  replace Nt5 := aN Nt5 hb
  replace No9 := aN No9 hb
  replace Nhh := aN Nhh hb
  replace Ntk1 := aN Ntk1 hb
  replace Ntm := aN Ntm hb
  clear hb
  go_wp2_with fail
  refine (P1.out U7 tm o1 Ntm.out No1.out).mono ?_
  rintro e U8 ⟨⟨qq, rfl, hv⟩, hb⟩
  have Nqq : Hid (NumV U8 65536 7237005577332262213973186563042995786902308146886443998308627866733439352833 qq) := hv
  clear hv
  replace B := aB B hb
  replace J := aJ J hb
  replace Nh5 := aN Nh5 hb
  replace Nt5 := aN Nt5 hb
  replace No9 := aN No9 hb
  replace Nhh := aN Nhh hb
  replace Ntk1 := aN Ntk1 hb
  replace Ntm := aN Ntm hb
  replace No1 := aN No1 hb
  clear hb
  go_wp2_with fail
  refine (P2.out U8 qq Nqq.out).mono ?_
  rintro e U9 ⟨⟨q2, rfl, hv⟩, hb⟩
  have Nq2 : Hid (NumV U9 65536 14474011154664524427946373126085991573804616293772887996617255733466878705666 q2) := hv
  clear hv
  replace B := aB B hb
  replace J := aJ J hb
  replace Nh5 := aN Nh5 hb
  replace Nt5 := aN Nt5 hb
  replace No9 := aN No9 hb
  replace Nhh := aN Nhh hb
  replace Ntk1 := aN Ntk1 hb
  replace Ntm := aN Ntm hb
  replace No1 := aN No1 hb
  replace Nqq := aN Nqq hb
  clear hb
  go_wp2_with fail
  refine (O1.out U9).mono ?_
  rintro e U10 ⟨⟨o2, rfl, hv⟩, hb⟩
  have No2 : Hid (NumV U10 65536 1 o2) := hv
  clear hv
  replace B := aB B hb
  replace J := aJ J hb
  replace Nh5 := aN Nh5 hb
  replace Nt5 := aN Nt5 hb
  replace No9 := aN No9 hb
  replace Nhh := aN Nhh hb
  replace Ntk1 := aN Ntk1 hb
  replace Ntm := aN Ntm hb
  replace No1 := aN No1 hb
  replace Nqq := aN Nqq hb
  replace Nq2 := aN Nq2 hb
  clear hb
  go_wp2_with fail
  refine (P3.out U10 q2 o2 Nq2.out No2.out).mono ?_
  rintro e U11 ⟨⟨pp, rfl, hv⟩, hb⟩
  have Npp : Hid (NumV U11 65536 14474011154664524427946373126085991573804616293772887996617255733466878705667 pp) := hv
  clear hv
  replace B := aB B hb
  replace J := aJ J hb
  replace Nh5 := aN Nh5 hb
  replace Nt5 := aN Nt5 hb
  replace No9 := aN No9 hb
  replace Nhh := aN Nhh hb
  replace Ntk1 := aN Ntk1 hb
  replace Ntm := aN Ntm hb
  replace No1 := aN No1 hb
  replace Nqq := aN Nqq hb
  replace Nq2 := aN Nq2 hb
  replace No2 := aN No2 hb
  clear hb
  obtain ⟨qa, ql, qc, rfl⟩ := sN Nqq
  obtain ⟨pa, pl, pc, rfl⟩ := sN Npp
  have c0 : U11.cell? ⟨w.heap.size, 0, none⟩ = some (.int .i64 0) := J.out.cell 0 (by simp)
  have c1 : U11.cell? ⟨w.heap.size, 1, none⟩ = some (.slice none 0 0) := J.out.cell 1 (by simp)
  have c2 : U11.cell? ⟨w.heap.size, 2, none⟩ = some (.slice none 0 0) := J.out.cell 2 (by simp)
  have f0 := fJ J
  have hBut : But w.heap.size U11 (((U11.setCell ⟨w.heap.size, 0, none⟩ (.int .i64 32)).setCell ⟨w.heap.size, 1, none⟩ (.slice qa ql qc)).setCell ⟨w.heap.size, 2, none⟩ (.slice pa pl pc)) := (((But.refl _ U11).setCell 0 (.int .i64 32)).setCell 1 (.slice qa ql qc)).setCell 2 (.slice pa pl pc)
  have I4 : Hid (IHolds (((U11.setCell ⟨w.heap.size, 0, none⟩ (.int .i64 32)).setCell ⟨w.heap.size, 1, none⟩ (.slice qa ql qc)).setCell ⟨w.heap.size, 2, none⟩ (.slice pa pl pc)) w.heap.size 42 [.int .i64 32, .slice qa ql qc, .slice pa pl pc]) := ((J.out.set 0 (.int .i64 32)).set 1 (.slice qa ql qc)).set 2 (.slice pa pl pc)
  have B4 : Hid (Below w.heap.size w (((U11.setCell ⟨w.heap.size, 0, none⟩ (.int .i64 32)).setCell ⟨w.heap.size, 1, none⟩ (.slice qa ql qc)).setCell ⟨w.heap.size, 2, none⟩ (.slice pa pl pc))) := ((B.out.setCell (Nat.le_refl _) _).setCell (Nat.le_refl _) _).setCell (Nat.le_refl _) _
  have NQ : Hid (NumV (((U11.setCell ⟨w.heap.size, 0, none⟩ (.int .i64 32)).setCell ⟨w.heap.size, 1, none⟩ (.slice qa ql qc)).setCell ⟨w.heap.size, 2, none⟩ (.slice pa pl pc)) 65536 7237005577332262213973186563042995786902308146886443998308627866733439352833 (.slice qa ql qc)) := Nqq.out.off25 J.out hBut
  have NP : Hid (NumV (((U11.setCell ⟨w.heap.size, 0, none⟩ (.int .i64 32)).setCell ⟨w.heap.size, 1, none⟩ (.slice qa ql qc)).setCell ⟨w.heap.size, 2, none⟩ (.slice pa pl pc)) 65536 14474011154664524427946373126085991573804616293772887996617255733466878705667 (.slice pa pl pc)) := Npp.out.off25 J.out hBut
  clear hBut J B
  go_wp2_with fail
  clear c0 c1 c2 f0
  generalize (((U11.setCell ⟨w.heap.size, 0, none⟩ (.int .i64 32)).setCell ⟨w.heap.size, 1, none⟩ (.slice qa ql qc)).setCell ⟨w.heap.size, 2, none⟩ (.slice pa pl pc)) = UZ at *
  have E0 : UZ.cell? ⟨w.heap.size, 0, none⟩ = some (.int .i64 32) := I4.out.cell 0 (by simp)
  have E1 : UZ.cell? ⟨w.heap.size, 1, none⟩ = some (.slice qa ql qc) := I4.out.cell 1 (by simp)
  have E2 : UZ.cell? ⟨w.heap.size, 2, none⟩ = some (.slice pa pl pc) := I4.out.cell 2 (by simp)
  exact bodyPost_ret (v := .agg #[.int .i64 32, .slice qa ql qc, .slice pa pl pc]) (by simp [results, Tryz.results16, go_sem, E0, E1, E2]) rfl ⟨⟨_, _, rfl, NQ.out, NP.out⟩, B4.out⟩
end Go.Proofs.YtohpbclofcflaaaGreat
