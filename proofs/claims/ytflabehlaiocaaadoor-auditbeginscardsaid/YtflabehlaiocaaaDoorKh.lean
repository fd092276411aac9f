/- The reference's Of and Whole. The reference's Whole. The reference's fractions reckoned with: regions that draw their order. -/
import Derived.Test.YtflabehlaiocaaaDoorBaseE
import Derived.Test.YtflabehlaiocaaaDoorKc
set_option linter.unusedSimpArgs false
set_option linter.unusedVariables false
namespace Go.Proofs.YtflabehlaiocaaaDoor
open Go.RowKit Go.Deep Go.PlainAid

set_option maxRecDepth 100000 in
set_option maxHeartbeats 1000000 in
theorem refOf_any (w : World) (n : Nat) (hn : n ≤ 1000000) :
    Calls Tryd.prog 35 #[.int .i64 (n : Int)] w fun e w' => (∃ v, e = .returned v ∧ NumV w' 10 n v) ∧ Below w.heap.size w w' := by
  obtain ⟨i0, hi0, hz0, hz1, hz2⟩ := info_parts Tryd.info3
  have LN : (dg 10 n).length ≤ 7 := dg_len_le ten 7 n (by omega)
  go_enter Tryd.func35, Tryd.ntmps35
  go_wp2_with fail
  go_loopg [0, 3] n (fun gk v0 v3 wr => ∃ (D : List Nat) (v : Value), v0 = .int .i64 (gk : Int) ∧ v = v3 ∧ gk ≤ 1000000 ∧ D ++ dg 10 gk = dg 10 n ∧ wr.ownsRow w.heap.size 3 1 v D.length (zs D) ∧ Below w.heap.size w wr)
  case atStart => exact ⟨[], _, rfl, rfl, hn, rfl, World.ownsRow_nil _ _ _ _, Below.refl _ _⟩
  case round =>
    obtain ⟨D, v, rfl, rfl, hk, hD, ho, hB⟩ := hrel
    have HDD : Hid (D ++ dg 10 gk = dg 10 n) := hD
    have HO : Hid (wr.ownsRow w.heap.size 3 1 v D.length (zs D)) := ho
    have HB : Hid (Below w.heap.size w wr) := hB
    have HL : D.length ≤ 7 := by
      have := congrArg List.length hD
      rw [List.length_append] at this
      omega
    clear hD ho hB
    generalize gk = x at *
    by_cases h0 : x = 0
    · subst h0
      have hDe : D = dg 10 n := by
        have := HDD.out
        rw [dg_zero, List.append_nil] at this
        exact this
      have HR : Hid (NumV wr 10 n v) := by
        obtain ⟨a, cap, e1, g1, g2, g3⟩ := Row.of_owned HO.out
        rw [hDe] at e1 g1 g3
        exact ⟨a, cap, e1, g1, g3⟩
      clear HDD HO hDe
      go_wp2_with fail
      go_ret
      exact ⟨⟨_, rfl, HR.out⟩, HB.out⟩
    · have hx0 : (0 : Int) < (x : Int) := by omega
      have HE : Hid (D ++ [x % 10] ++ dg 10 (x / 10) = dg 10 n) := by
        show _ = _
        rw [← HDD.out, dg_pos ten h0, List.append_assoc]; rfl
      have HM : Hid (x / 10 < x) := Nat.div_lt_self (by omega) (by omega)
      have HK : Hid (x / 10 ≤ 1000000) := by show _ ≤ _; omega
      have kr : (x : Int).tmod 10 = ((x % 10 : Nat) : Int) := by rw [Int.tmod_eq_emod_of_nonneg (by omega)]; omega
      have kr2 : (x : Int) % 10 = ((x % 10 : Nat) : Int) := by omega
      have kq : (x : Int) / 10 = ((x / 10 : Nat) : Int) := by omega
      have kq2 : (x : Int).tdiv 10 = ((x / 10 : Nat) : Int) := by rw [Int.tdiv_eq_ediv_of_nonneg (by omega)]; omega
      have y10 : x % 10 < 10 := by omega
      have q10 : x / 10 ≤ 1000000 := by omega
      generalize x % 10 = y at *
      generalize x / 10 = q at *
      have HO2 : Hid ((wr.alloc (.cells #[.int .i64 (y : Int)] 3)).ownsRow w.heap.size 3 1 v D.length (zs D)) := HO.out.alloc _
      have HC2 : Hid (∀ jj u, [I y][jj]? = some u → (wr.alloc (.cells #[.int .i64 (y : Int)] 3)).cell? ((⟨wr.heap.size, 0, none⟩ : Addr).add jj) = some u) := fun jj u hu => by
        match jj, hu with
        | 0, hu => simp at hu; subst hu; simp [Addr.add]
      have HB2 : Hid (Below w.heap.size w (wr.alloc (.cells #[.int .i64 (y : Int)] 3))) := HB.out.alloc HB.out.size _
      clear HDD
      go_wp2_with (at_builtin; refine wpList_append_own _ rfl (.tmp 6) (.tmp 9) 44 rfl w.heap.size 3 i0 (.int .i64 0) 1 8 Tryd.underlying44 hi0 hz0 hz1 hz2 rfl (by decide) v D.length (zs D) rfl HO2.out ⟨wr.heap.size, 0, none⟩ 1 1 [I y] rfl rfl HC2.out (fun u hu => by simp at hu; subst hu; rfl) (by unfold maxLen; omega) (by omega) HB2.out.size ?_; intro v1 w1 hown1 hgrow1 hn1; have HO3 : Hid (w1.ownsRow w.heap.size 3 1 v1 (D.length + 1) (zs D ++ [I y])) := hown1; have HG3 : Hid (Below w.heap.size w w1) := HB2.out.grown hgrow1 HB2.out.size (fun k hk => (HO2.out.lt k hk).1); clear hown1 hgrow1 hn1)
      go_roundg q
      case measure => exact HM.out
      case rel => exact ⟨D ++ [y], _, by go_num, rfl, HK.out, HE.out, by rw [zs_append, List.length_append]; exact HO3.out, HG3.out⟩
end Go.Proofs.YtflabehlaiocaaaDoor
namespace Go.Proofs.YtflabehlaiocaaaDoor
open Go.RowKit Go.Deep Go.PlainAid

set_option maxRecDepth 100000 in
set_option maxHeartbeats 1000000 in
theorem refWhole_any (w : World) (n : Nat) (hn : n ≤ 1000000) :
    Calls Tryd.prog 17 #[.int .i64 (n : Int)] w fun e w' => (∃ u1 u2, e = .returned (.agg #[u1, u2]) ∧ NumV w' 10 n u1 ∧ NumV w' 10 1 u2) ∧ Below w.heap.size w w' := by
  have C1 : Hid (∀ W, Calls Tryd.prog 35 #[.int .i64 (n : Int)] W fun e w' => (∃ v, e = .returned v ∧ NumV w' 10 n v) ∧ Below W.heap.size W w') := fun W => refOf_any W n hn
  have C2 : Hid (∀ W, Calls Tryd.prog 35 #[.int .i64 1] W fun e w' => (∃ v, e = .returned v ∧ NumV w' 10 1 v) ∧ Below W.heap.size W w') := fun W => refOf_any W 1 (by omega)
  have B0 : Hid (Below w.heap.size w (w.alloc (.cells #[.slice none 0 0, .slice none 0 0] 46))) := (Below.refl _ w).alloc (Nat.le_refl _) _
  have I0 : Hid (IHolds (w.alloc (.cells #[.slice none 0 0, .slice none 0 0] 46)) w.heap.size 46 [.slice none 0 0, .slice none 0 0]) := IHolds.new w 46 _
  go_enter Tryd.func17, Tryd.ntmps17
  go_wp2_with fail
  generalize w.alloc (.cells #[.slice none 0 0, .slice none 0 0] 46) = W0 at *
  refine (C1.out W0).mono ?_
  rintro e W1 ⟨⟨u1, rfl, hv⟩, hb⟩
  have B1 : Hid (Below w.heap.size w W1) := B0.out.trans (hb.mono B0.out.size)
  have I1 : Hid (IHolds W1 w.heap.size 46 [.slice none 0 0, .slice none 0 0]) := I0.out.of_below hb
  have N1 : Hid (NumV W1 10 n u1) := hv
  clear hv hb B0 I0
  go_wp2_with fail
  refine (C2.out W1).mono ?_
  rintro e W2 ⟨⟨u2, rfl, hv⟩, hb⟩
  have B2 : Hid (Below w.heap.size w W2) := B1.out.trans (hb.mono B1.out.size)
  have I2 := I1.out.of_below hb
  have U3 : Hid (NumV W2 10 n u1) := N1.out.of_below hb
  have X3 : Hid (NumV W2 10 1 u2) := hv
  clear hv hb B1 I1 N1
  obtain ⟨x1, L1, k1, rfl⟩ : ∃ a L c, u1 = .slice a L c := by obtain ⟨a, cap, h, _⟩ := U3.out; exact ⟨_, _, _, h⟩
  obtain ⟨x2, L2, k2, rfl⟩ : ∃ a L c, u2 = .slice a L c := by obtain ⟨a, cap, h, _⟩ := X3.out; exact ⟨_, _, _, h⟩
  have c0 : W2.cell? ⟨w.heap.size, 0, none⟩ = some (.slice none 0 0) := I2.cell 0 (by simp)
  have c1 : W2.cell? ⟨w.heap.size, 1, none⟩ = some (.slice none 0 0) := I2.cell 1 (by simp)
  have f0 : ∀ i, W2.frozen? ⟨w.heap.size, i, none⟩ = false := fun i => I2.frozen i
  have I4 := (I2.set 0 (.slice x1 L1 k1)).set 1 (.slice x2 L2 k2)
  have hBut : But w.heap.size W2 ((W2.setCell ⟨w.heap.size, 0, none⟩ (.slice x1 L1 k1)).setCell ⟨w.heap.size, 1, none⟩ (.slice x2 L2 k2)) := ((But.refl _ W2).setCell 0 _).setCell 1 _
  have U4 : Hid (NumV ((W2.setCell ⟨w.heap.size, 0, none⟩ (.slice x1 L1 k1)).setCell ⟨w.heap.size, 1, none⟩ (.slice x2 L2 k2)) 10 n (.slice x1 L1 k1)) := U3.out.apart I2 (by simp) hBut
  have X4 : Hid (NumV ((W2.setCell ⟨w.heap.size, 0, none⟩ (.slice x1 L1 k1)).setCell ⟨w.heap.size, 1, none⟩ (.slice x2 L2 k2)) 10 1 (.slice x2 L2 k2)) := X3.out.apart I2 (by simp) hBut
  have B4 : Hid (Below w.heap.size w ((W2.setCell ⟨w.heap.size, 0, none⟩ (.slice x1 L1 k1)).setCell ⟨w.heap.size, 1, none⟩ (.slice x2 L2 k2))) := (B2.out.setCell (Nat.le_refl _) _).setCell (Nat.le_refl _) _
  have E0 : Hid (((W2.setCell ⟨w.heap.size, 0, none⟩ (.slice x1 L1 k1)).setCell ⟨w.heap.size, 1, none⟩ (.slice x2 L2 k2)).cell? ⟨w.heap.size, 0, none⟩ = some (.slice x1 L1 k1)) := I4.cell 0 (by simp)
  have E1 : Hid (((W2.setCell ⟨w.heap.size, 0, none⟩ (.slice x1 L1 k1)).setCell ⟨w.heap.size, 1, none⟩ (.slice x2 L2 k2)).cell? ⟨w.heap.size, 1, none⟩ = some (.slice x2 L2 k2)) := I4.cell 1 (by simp)
  clear I2 I4 hBut U3 X3 B2
  go_wp2_with fail
  clear c0 c1 f0
  generalize ((W2.setCell ⟨w.heap.size, 0, none⟩ (.slice x1 L1 k1)).setCell ⟨w.heap.size, 1, none⟩ (.slice x2 L2 k2)) = W5 at *
  exact bodyPost_ret (v := .agg #[.slice x1 L1 k1, .slice x2 L2 k2]) (by simp [results, Tryd.results17, go_sem, E0.out, E1.out]) rfl ⟨⟨_, _, rfl, U4.out, X4.out⟩, B4.out⟩
end Go.Proofs.YtflabehlaiocaaaDoor
namespace Go.Proofs.YtflabehlaiocaaaDoor
open Go.RowKit Go.Deep Go.PlainAid


set_option maxRecDepth 100000 in
set_option maxHeartbeats 2000000 in
theorem refOrderV {w : World} {n1 d1 n2 d2 : Nat} {p1 p2 p3 p4 : Value} (hN : NumV w 10 n1 p1 ∧ NumV w 10 d1 p2 ∧ NumV w 10 n2 p3 ∧ NumV w 10 d2 p4)
    (l1 : (dg 10 n1).length ≤ 400000) (l2 : (dg 10 d1).length ≤ 400000) (l3 : (dg 10 n2).length ≤ 400000) (l4 : (dg 10 d2).length ≤ 400000) :
    Calls Tryd.prog 32 #[.agg #[p1, p2], .agg #[p3, p4]] w fun e w' => e = .returned (.int .i64 (cmp3 ((n1 * d2 : Nat) : Int) ((n2 * d1 : Nat) : Int))) ∧ Below w.heap.size w w' := by
  obtain ⟨q1, q2, q3, q4⟩ := hN
  have Q1 : Hid (∀ W, Below w.heap.size w W → NumV W 10 n1 p1) := fun W hW => q1.of_below hW
  have Q2 : Hid (∀ W, Below w.heap.size w W → NumV W 10 d1 p2) := fun W hW => q2.of_below hW
  have Q3 : Hid (∀ W, Below w.heap.size w W → NumV W 10 n2 p3) := fun W hW => q3.of_below hW
  have Q4 : Hid (∀ W, Below w.heap.size w W → NumV W 10 d2 p4) := fun W hW => q4.of_below hW
  clear q1 q2 q3 q4
  have LA := dg_len_mul ten n1 d2
  have LB := dg_len_mul ten n2 d1
  have C1 : Hid (∀ W, Below w.heap.size w W → Calls Tryd.prog 47 #[p1, p4] W fun e w' => (∃ v, e = .returned v ∧ NumV w' 10 (n1 * d2) v) ∧ Below W.heap.size W w') := fun W hW => refMulV (Q1.out W hW) (Q4.out W hW) (by omega) (by omega)
  have C2 : Hid (∀ W, Below w.heap.size w W → Calls Tryd.prog 47 #[p3, p2] W fun e w' => (∃ v, e = .returned v ∧ NumV w' 10 (n2 * d1) v) ∧ Below W.heap.size W w') := fun W hW => refMulV (Q3.out W hW) (Q2.out W hW) (by omega) (by omega)
  have C3 : Hid (∀ W v v', NumV W 10 (n1 * d2) v → NumV W 10 (n2 * d1) v' → Calls Tryd.prog 46 #[v, v'] W fun e w' => e = .returned (.int .i64 (cmp3 ((n1 * d2 : Nat) : Int) ((n2 * d1 : Nat) : Int))) ∧ Below W.heap.size W w') := fun W v v' g1 g2 => refCompareV g1 g2 (by omega) (by omega)
  clear LA LB l1 l2 l3 l4
  generalize cmp3 ((n1 * d2 : Nat) : Int) ((n2 * d1 : Nat) : Int) = Z at *
  generalize n1 * d2 = X1 at *
  generalize n2 * d1 = X2 at *
  go_enter Tryd.func32, Tryd.ntmps32
  go_wp2_with fail
  obtain ⟨W3, hW3⟩ : ∃ W3, W3 = (w.alloc (.cells #[p1, p2] 46)).alloc (.cells #[p3, p4] 46) := ⟨_, rfl⟩
  have q1 : IHolds W3 w.heap.size 46 [p1, p2] := by rw [hW3]; exact ((IHolds.new w 46 [p1, p2]).alloc _)
  have q2 : IHolds W3 (w.heap.size + 1) 46 [p3, p4] := by
    have := (IHolds.new (w.alloc (.cells #[p1, p2] 46)) 46 [p3, p4])
    rw [World.size_alloc] at this
    rw [hW3]
    exact this
  have B0 : Hid (Below w.heap.size w W3.drew) := by
    have b : Below w.heap.size w W3 := by rw [hW3]; exact ((Below.refl _ w).alloc (Nat.le_refl _) _).alloc (by simp) _
    exact b.drew
  rw [← hW3]
  clear hW3
  have S0 : Hid (IHolds W3.drew w.heap.size 46 [p1, p2] ∧ IHolds W3.drew (w.heap.size + 1) 46 [p3, p4]) := ⟨q1.drew, q2.drew⟩
  clear q1 q2
  refine wp_region_held_drew (S := fun W => IHolds W w.heap.size 46 [p1, p2] ∧ IHolds W (w.heap.size + 1) 46 [p3, p4]) (by kernel_rfl) S0.out (fun hHeld0 => ?_)
  generalize W3.drew = W0 at *
  refine wpAnyH_take (i := 0) (v := .pointer (some ⟨w.heap.size, 0, none⟩)) rfl (by kernel_rfl) (by kernel_rfl) (by kernel_rfl) (fun _ _ _ h => h) (Or.inl ⟨by rfl, ?_⟩) hHeld0 ?_
  · intro W hS
    have z0 := hS.1.two0
    have z1 := hS.1.two1
    have z2 := hS.2.two0
    have z3 := hS.2.two1
    go_simp
  simp only [Act.put, List.getElem_toArray, List.getElem_cons_succ, List.getElem_cons_zero, List.setIfInBounds_toArray, List.set_cons_zero, List.set_cons_succ, Array.toArray_toList]
  refine wpAnyH_take (i := 1) (v := p1) rfl (by kernel_rfl) (by kernel_rfl) (by kernel_rfl) (fun _ _ _ h => h) (Or.inl ⟨by rfl, ?_⟩) hHeld0 ?_
  · intro W hS
    have z0 := hS.1.two0
    have z1 := hS.1.two1
    have z2 := hS.2.two0
    have z3 := hS.2.two1
    go_simp
  simp only [Act.put, List.getElem_toArray, List.getElem_cons_succ, List.getElem_cons_zero, List.setIfInBounds_toArray, List.set_cons_zero, List.set_cons_succ, Array.toArray_toList]
  refine wpAnyH_take (i := 2) (v := .pointer (some ⟨w.heap.size + 1, 1, none⟩)) rfl (by kernel_rfl) (by kernel_rfl) (by kernel_rfl) (fun _ _ _ h => h) (Or.inl ⟨by rfl, ?_⟩) hHeld0 ?_
  · intro W hS
    have z0 := hS.1.two0
    have z1 := hS.1.two1
    have z2 := hS.2.two0
    have z3 := hS.2.two1
    go_simp
  simp only [Act.put, List.getElem_toArray, List.getElem_cons_succ, List.getElem_cons_zero, List.setIfInBounds_toArray, List.set_cons_zero, List.set_cons_succ, Array.toArray_toList]
  refine wpAnyH_take (i := 3) (v := p4) rfl (by kernel_rfl) (by kernel_rfl) (by kernel_rfl) (fun _ _ _ h => h) (Or.inl ⟨by rfl, ?_⟩) hHeld0 ?_
  · intro W hS
    have z0 := hS.1.two0
    have z1 := hS.1.two1
    have z2 := hS.2.two0
    have z3 := hS.2.two1
    go_simp
  simp only [Act.put, List.getElem_toArray, List.getElem_cons_succ, List.getElem_cons_zero, List.setIfInBounds_toArray, List.set_cons_zero, List.set_cons_succ, Array.toArray_toList]
  refine wpAnyH_take (i := 5) (v := .pointer (some ⟨w.heap.size + 1, 0, none⟩)) rfl (by kernel_rfl) (by kernel_rfl) (by kernel_rfl) (fun _ _ _ h => h) (Or.inl ⟨by rfl, ?_⟩) hHeld0 ?_
  · intro W hS
    have z0 := hS.1.two0
    have z1 := hS.1.two1
    have z2 := hS.2.two0
    have z3 := hS.2.two1
    go_simp
  simp only [Act.put, List.getElem_toArray, List.getElem_cons_succ, List.getElem_cons_zero, List.setIfInBounds_toArray, List.set_cons_zero, List.set_cons_succ, Array.toArray_toList]
  refine wpAnyH_take (i := 6) (v := p3) rfl (by kernel_rfl) (by kernel_rfl) (by kernel_rfl) (fun _ _ _ h => h) (Or.inl ⟨by rfl, ?_⟩) hHeld0 ?_
  · intro W hS
    have z0 := hS.1.two0
    have z1 := hS.1.two1
    have z2 := hS.2.two0
    have z3 := hS.2.two1
    go_simp
  simp only [Act.put, List.getElem_toArray, List.getElem_cons_succ, List.getElem_cons_zero, List.setIfInBounds_toArray, List.set_cons_zero, List.set_cons_succ, Array.toArray_toList]
  refine wpAnyH_take (i := 7) (v := .pointer (some ⟨w.heap.size, 1, none⟩)) rfl (by kernel_rfl) (by kernel_rfl) (by kernel_rfl) (fun _ _ _ h => h) (Or.inl ⟨by rfl, ?_⟩) hHeld0 ?_
  · intro W hS
    have z0 := hS.1.two0
    have z1 := hS.1.two1
    have z2 := hS.2.two0
    have z3 := hS.2.two1
    go_simp
  simp only [Act.put, List.getElem_toArray, List.getElem_cons_succ, List.getElem_cons_zero, List.setIfInBounds_toArray, List.set_cons_zero, List.set_cons_succ, Array.toArray_toList]
  refine wpAnyH_take (i := 8) (v := p2) rfl (by kernel_rfl) (by kernel_rfl) (by kernel_rfl) (fun _ _ _ h => h) (Or.inl ⟨by rfl, ?_⟩) hHeld0 ?_
  · intro W hS
    have z0 := hS.1.two0
    have z1 := hS.1.two1
    have z2 := hS.2.two0
    have z3 := hS.2.two1
    go_simp
  simp only [Act.put, List.getElem_toArray, List.getElem_cons_succ, List.getElem_cons_zero, List.setIfInBounds_toArray, List.set_cons_zero, List.set_cons_succ, Array.toArray_toList]
  refine wpAnyH_ready (rs := [4]) (by kernel_rfl) (by simp) ?_
  refine AllReadyH.cons rfl (fun K hK => ?_) AllReadyH.nil
  go_simp
  refine (C1.out W0 B0.out).mono ?_
  rintro e W1 ⟨⟨y1, rfl, hv⟩, hb⟩
  have B1 : Hid (Below w.heap.size w W1) := B0.out.trans (hb.mono B0.out.size)
  have S1 : Hid (IHolds W1 w.heap.size 46 [p1, p2] ∧ IHolds W1 (w.heap.size + 1) 46 [p3, p4]) := ⟨S0.out.1.of_below hb, S0.out.2.of_below hb⟩
  have Ny1 : Hid (NumV W1 10 X1 y1) := hv
  clear hv
  clear hb B0 S0
  go_wp2_with fail
  refine hK.out _ _ S1.out (fun hHeld1 => ?_)
  clear hK K
  try simp only [Act.put, List.getElem_toArray, List.getElem_cons_succ, List.getElem_cons_zero, List.setIfInBounds_toArray, List.set_cons_zero, List.set_cons_succ, Array.toArray_toList]
  refine wpAnyH_ready (rs := [9]) (by kernel_rfl) (by simp) ?_
  refine AllReadyH.cons rfl (fun K hK => ?_) AllReadyH.nil
  go_simp
  refine (C2.out W1 B1.out).mono ?_
  rintro e W2 ⟨⟨y2, rfl, hv⟩, hb⟩
  have B2 : Hid (Below w.heap.size w W2) := B1.out.trans (hb.mono B1.out.size)
  have S2 : Hid (IHolds W2 w.heap.size 46 [p1, p2] ∧ IHolds W2 (w.heap.size + 1) 46 [p3, p4]) := ⟨S1.out.1.of_below hb, S1.out.2.of_below hb⟩
  have Ny1 : Hid (NumV W2 10 X1 y1) := Ny1.out.of_below hb
  have Ny2 : Hid (NumV W2 10 X2 y2) := hv
  clear hv
  clear hb B1 S1
  go_wp2_with fail
  refine hK.out _ _ S2.out (fun hHeld2 => ?_)
  clear hK K
  try simp only [Act.put, List.getElem_toArray, List.getElem_cons_succ, List.getElem_cons_zero, List.setIfInBounds_toArray, List.set_cons_zero, List.set_cons_succ, Array.toArray_toList]
  refine wpAnyH_ready (rs := [10]) (by kernel_rfl) (by simp) ?_
  refine AllReadyH.cons rfl (fun K hK => ?_) AllReadyH.nil
  go_simp
  refine (C3.out W2 y1 y2 Ny1.out Ny2.out).mono ?_
  rintro e W3 ⟨rfl, hb⟩
  have B3 : Hid (Below w.heap.size w W3) := B2.out.trans (hb.mono B2.out.size)
  have S3 : Hid (IHolds W3 w.heap.size 46 [p1, p2] ∧ IHolds W3 (w.heap.size + 1) 46 [p3, p4]) := ⟨S2.out.1.of_below hb, S2.out.2.of_below hb⟩
  have Ny1 : Hid (NumV W3 10 X1 y1) := Ny1.out.of_below hb
  have Ny2 : Hid (NumV W3 10 X2 y2) := Ny2.out.of_below hb
  clear hb B2 S2
  go_wp2_with fail
  refine hK.out _ _ S3.out (fun hHeld3 => ?_)
  clear hK K
  try simp only [Act.put, List.getElem_toArray, List.getElem_cons_succ, List.getElem_cons_zero, List.setIfInBounds_toArray, List.set_cons_zero, List.set_cons_succ, Array.toArray_toList]
  refine wpAnyH_take (i := 11) (v := .int .i64 Z) rfl (by kernel_rfl) (by kernel_rfl) (by kernel_rfl) (fun _ _ _ h => h) (Or.inl ⟨by rfl, ?_⟩) hHeld3 ?_
  · intro W hS
    have z0 := hS.1.two0
    have z1 := hS.1.two1
    have z2 := hS.2.two0
    have z3 := hS.2.two1
    go_simp
  simp only [Act.put, List.getElem_toArray, List.getElem_cons_succ, List.getElem_cons_zero, List.setIfInBounds_toArray, List.set_cons_zero, List.set_cons_succ, Array.toArray_toList]
  refine wpAnyH_done (by kernel_rfl) ?_ _
  clear hHeld0 hHeld1 hHeld2 hHeld3
  go_wp2_with fail
  go_ret
  exact ⟨rfl, B3.out⟩
end Go.Proofs.YtflabehlaiocaaaDoor
