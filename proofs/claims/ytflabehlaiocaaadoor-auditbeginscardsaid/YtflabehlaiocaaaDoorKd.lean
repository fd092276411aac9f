/- The walk of gcd. The walk of gcd where the second number is the greater one; gcd of any numbers. The walks of Gcd and Div. The walk of Div. -/
import Derived.Test.YtflabehlaiocaaaDoorSure
import Derived.Test.YtflabehlaiocaaaDoorBaseC
import Derived.Deep.RegionHeld3
set_option linter.unusedSimpArgs false
set_option linter.unusedVariables false
namespace Go.Proofs.YtflabehlaiocaaaDoor
open Go.RowKit Go.Deep

theorem compareV {W : World} {n m : Nat} {v1 v2 : Value} (h1 : NumV W 1000000000 n v1) (h2 : NumV W 1000000000 m v2) (b1 : (dg 1000000000 n).length ≤ 1000000) (b2 : (dg 1000000000 m).length ≤ 1000000) :
    Calls Tryd.prog 39 #[v1, v2] W fun e w' => e = .returned (.int .i64 (cmp3 (n : Int) (m : Int))) ∧ Below W.heap.size W w' := by
  obtain ⟨a1, c1, rfl, k1, r1⟩ := h1
  obtain ⟨a2, c2, rfl, k2, r2⟩ := h2
  refine (compare_any W a1 a2 c1 c2 n m r1 r2 b1 b2).mono ?_
  rintro e w' ⟨he, k, rfl⟩
  exact ⟨he, below_drawn W k⟩
theorem ofV {W : World} {n o R : Nat} {h x y : Int} {v1 v2 : Value} (h1 : NumV W 1000000000 n v1) (h2 : NumV W 1000000000 o v2) (b1 : (dg 1000000000 n).length ≤ 1000000) (hon : o ≤ n) (hRn : R ≤ n)
    (hx : -1000000000 ≤ x ∧ x ≤ 1000000000) (hy : -1000000000 ≤ y ∧ y ≤ 1000000000) (hR : (R : Int) = x * (n : Int) + y * (o : Int)) :
    Calls Tryd.prog 57 #[rowV h x y, v1, v2] W fun e w' => (∃ v, e = .returned v ∧ NumV w' 1000000000 R v) ∧ Below W.heap.size W w' := by
  obtain ⟨a1, c1, rfl, k1, r1⟩ := h1
  obtain ⟨a2, c2, rfl, k2, r2⟩ := h2
  exact of_any W a1 a2 c1 c2 n o R h x y r1 r2 b1 hon hRn hx hy hR
theorem sureV {W : World} {n o : Nat} {v1 v2 : Value} (h1 : NumV W 1000000000 n v1) (h2 : NumV W 1000000000 o v2) (b1 : (dg 1000000000 n).length ≤ 1000000) (hon : o ≤ n) (hlen : 3 ≤ (dg 1000000000 n).length) (ho : 0 < o) :
    Calls Tryd.prog 55 #[v1, v2] W fun e w' => (∃ (a b : Nat) (sg : Bool) (hx hy lx ly h l rh rl : Nat), e = .returned (.tuple #[rowV (h : Int) (sI sg hx) (-(sI sg hy)), rowV (l : Int) (-(sI sg lx)) (sI sg ly)]) ∧ Leh n o a b sg hx hy lx ly h l rh rl) ∧ Below W.heap.size W w' := by
  obtain ⟨a1, c1, rfl, k1, r1⟩ := h1
  obtain ⟨a2, c2, rfl, k2, r2⟩ := h2
  exact sure_any W a1 a2 c1 c2 n o ((dg 1000000000 n).length - 3) r1 r2 (by omega) (by omega) hon ho
theorem shortV {W : World} {n o : Nat} {v1 v2 : Value} (h1 : NumV W 1000000000 n v1) (h2 : NumV W 1000000000 o v2) (b1 : (dg 1000000000 n).length ≤ 2) (b2 : (dg 1000000000 o).length ≤ 2) :
    Calls Tryd.prog 58 #[v1, v2] W fun e w' => (∃ v, e = .returned v ∧ NumV w' 1000000000 (Nat.gcd n o) v) ∧ Below W.heap.size W w' := by
  obtain ⟨a1, c1, rfl, k1, r1⟩ := h1
  obtain ⟨a2, c2, rfl, k2, r2⟩ := h2
  exact gcdOfShort_any W a1 a2 c1 c2 n o r1 r2 b1 b2
theorem isZeroV {W : World} {n : Nat} {v : Value} (h : NumV W 1000000000 n v) : Calls Tryd.prog 24 #[v] W fun e w' => e = .returned (.bool (n == 0)) ∧ w' = W := by
  obtain ⟨a1, c1, rfl, k1, r1⟩ := h
  exact isZero_any W a1 n c1
theorem NumV.len {W : World} {B n : Nat} {v : Value} (h : NumV W B n v) : ∃ a cap, v = .slice a (dg B n).length cap := by
  obtain ⟨a, c, h1, _, _⟩ := h
  exact ⟨a, c, h1⟩

set_option maxRecDepth 100000 in
set_option maxHeartbeats 4000000 in
theorem gcd_top (w : World) (n o M : Nat) (v1 v2 : Value) (h1 : NumV w 1000000000 n v1) (h2 : NumV w 1000000000 o v2) (hnM : n ≤ M) (hoM : o ≤ M) (hM : (dg 1000000000 M).length ≤ 1000000) (hon : o ≤ n) :
    Calls Tryd.prog 40 #[v1, v2] w fun e w' => (∃ v, e = .returned v ∧ NumV w' 1000000000 (Nat.gcd n o) v) ∧ Below w.heap.size w w' := by
  have HMM : Hid (∀ k, k ≤ M → (dg 1000000000 k).length ≤ 1000000) := fun k hk => Nat.le_trans (dg_len_mono bigBase hk) hM
  have HC : Hid (Calls Tryd.prog 39 #[v1, v2] w fun e w' => e = .returned (.int .i64 (cmp3 (n : Int) (o : Int))) ∧ Below w.heap.size w w') := compareV h1 h2 (HMM.out n hnM) (HMM.out o hoM)
  have hc : ¬ cmp3 (n : Int) (o : Int) < 0 := by unfold cmp3; split <;> (try split) <;> omega
  generalize cmp3 (n : Int) (o : Int) = c at *
  generalize hg : Nat.gcd n o = g
  have HG : Hid (Nat.gcd n o = g) := hg
  have N1 : Hid (NumV w 1000000000 n v1) := h1
  have N2 : Hid (NumV w 1000000000 o v2) := h2
  clear hg h1 h2 hM
  go_enter Tryd.func40, Tryd.ntmps40
  go_wp2_with fail
  refine HC.out.mono ?_
  rintro e w1 ⟨rfl, hb⟩
  have N1' : Hid (NumV w1 1000000000 n v1) := N1.out.of_below hb
  have N2' : Hid (NumV w1 1000000000 o v2) := N2.out.of_below hb
  have B1 : Hid (Below w.heap.size w w1) := hb
  clear hb HC N1 N2
  go_wp2_with fail
  go_loopg [0, 1] (n + o) (fun gk u0 u1 wr => ∃ (N O : Nat) (x0 x1 : Value), x0 = u0 ∧ x1 = u1 ∧ N + O = gk ∧ O ≤ N ∧ N ≤ M ∧ Nat.gcd N O = g ∧ NumV wr 1000000000 N x0 ∧ NumV wr 1000000000 O x1 ∧ Below w.heap.size w wr)
  case atStart => exact ⟨n, o, v1, v2, rfl, rfl, rfl, hon, hnM, HG.out, N1'.out, N2'.out, B1.out⟩
  case round =>
    obtain ⟨N, O, x0, x1, rfl, rfl, hgk, hON, hNM, hgc, n0, n1, hB⟩ := hrel
    have HGK : Hid (N + O = gk) := hgk
    have HGC : Hid (Nat.gcd N O = g) := hgc
    have M0 : Hid (NumV wr 1000000000 N x0) := n0
    have M1 : Hid (NumV wr 1000000000 O x1) := n1
    have HB : Hid (Below w.heap.size w wr) := hB
    have hNl := HMM.out N hNM
    have hOl := HMM.out O (by omega)
    obtain ⟨ao, co, hxo⟩ := n1.len
    clear hgk hgc hB N1' N2' B1 HG
    by_cases hl2 : 2 < (dg 1000000000 O).length
    · have hl2' : (2 : Int) < ((dg 1000000000 O).length : Int) := by omega
      have hO0 : 0 < O := by
        rcases Nat.eq_zero_or_pos O with h0 | h0
        · rw [h0, dg_zero] at hl2; simp at hl2
        · exact h0
      have hN3 : 3 ≤ (dg 1000000000 N).length := Nat.le_trans hl2 (dg_len_mono bigBase hON)
      have HSU := sureV n0 n1 hNl hON hN3 hO0
      have HOV : Hid (∀ W, Below wr.heap.size wr W → Calls Tryd.prog 56 #[x0, x1] W fun e w' => (∃ u1 u2, e = .returned (.tuple #[u1, u2]) ∧ NumV w' 1000000000 (N / O) u1 ∧ NumV w' 1000000000 (N % O) u2) ∧ Below W.heap.size W w') := fun W hW => overV (n0.of_below hW) (n1.of_below hW) (by omega) hNl hOl
      have HOF : Hid (∀ (W : World) (h x y : Int) (R : Nat), Below wr.heap.size wr W → R ≤ N → (-1000000000 ≤ x ∧ x ≤ 1000000000) → (-1000000000 ≤ y ∧ y ≤ 1000000000) → (R : Int) = x * (N : Int) + y * (O : Int) → Calls Tryd.prog 57 #[rowV h x y, x0, x1] W fun e w' => (∃ v, e = .returned v ∧ NumV w' 1000000000 R v) ∧ Below W.heap.size W w') := fun W h x y R hW g1 g2 g3 g4 => ofV (n0.of_below hW) (n1.of_below hW) hNl hON g1 g2 g3 g4
      clear n0 n1
      rw [hxo] at HSU HOV HOF M1 ⊢
      generalize (dg 1000000000 O).length = ko at *
      go_wp2_with fail
      refine HSU.mono ?_
      rintro e w2 ⟨⟨a, b, sg, hx, hy, lx, ly, h, l, rh, rl, rfl, hLeh⟩, hb⟩
      have B2 : Hid (Below wr.heap.size wr w2) := hb
      have hbx := hLeh.bx
      have xb := sI_bd sg hx 1000000000 (by omega)
      have yb := sI_bd sg hy 1000000000 (by omega)
      have ub := sI_bd sg lx 1000000000 (by omega)
      have vb := sI_bd sg ly 1000000000 (by omega)
      clear hb HSU
      rcases hLeh.st with ⟨s1, s2, s3, s4, s5, s6⟩ | ⟨s1, s2, s3⟩
      · subst s1 s2 s3 s4
        have hy0 : (-(sI sg 0) : Int) = 0 := by cases sg <;> simp [sI]
        have HG2 : Hid (Nat.gcd O (N % O) = g) := by show _ = _; rw [← HGC.out, Nat.gcd_comm N O, Nat.gcd_rec O N, Nat.gcd_comm]
        have hmO : N % O < O := Nat.mod_lt _ hO0
        rw [hy0]
        clear hLeh s5 s6 hbx yb ub vb HOF hy0
        generalize sI sg 1 = X at *
        generalize N % O = nm at *
        generalize N / O = nd at *
        go_wp2_with fail
        obtain ⟨W3, hW3⟩ : ∃ W3, W3 = (w2.alloc (.cells #[.int .i64 (h : Int), .int .i64 X, .int .i64 0] 86)).alloc (.cells #[.int .i64 (l : Int), .int .i64 0, .int .i64 X] 86) := ⟨_, rfl⟩
        have B3 : Hid (Below wr.heap.size wr W3) := by rw [hW3]; exact (B2.out.alloc B2.out.size _).alloc (by have := B2.out.size; simp; omega) _
        rw [← hW3]
        clear hW3
        refine (HOV.out W3 B3.out).mono ?_
        rintro e w5 ⟨⟨u1, u2, rfl, hu1, hu2⟩, hb5⟩
        have BB : Hid (Below wr.heap.size wr w5) := B3.out.trans (hb5.mono B3.out.size)
        have P1 : Hid (NumV w5 1000000000 O (.slice ao ko co)) := M1.out.of_below BB.out
        have P2 : Hid (NumV w5 1000000000 nm u2) := hu2
        have B5 : Hid (Below w.heap.size w w5) := HB.out.trans (BB.out.mono HB.out.size)
        clear hu1 hu2 hb5
        go_wp2_with fail
        go_roundg (O + nm)
        case measure => have := HGK.out; omega
        case rel => exact ⟨O, nm, _, u2, rfl, rfl, rfl, by omega, by omega, HG2.out, P1.out, P2.out, B5.out⟩
      · have hyn : -(sI sg hy) ≠ 0 := by
          cases sg <;> simp only [sI, Bool.false_eq_true, if_false, if_true] <;> omega
        have hyb : (-(sI sg hy) == 0) = false := beq_eq_false_iff_ne.2 hyn
        have hge := hLeh.ge
        have eh := hLeh.erh
        have el := hLeh.erl
        have HG2 : Hid (Nat.gcd rh rl = g) := by show _ = _; rw [hLeh.gcd]; exact HGC.out
        have C1 : Hid (∀ W, Below wr.heap.size wr W → Calls Tryd.prog 57 #[rowV (h : Int) (sI sg hx) (-(sI sg hy)), x0, .slice ao ko co] W fun e w' => (∃ v, e = .returned v ∧ NumV w' 1000000000 rh v) ∧ Below W.heap.size W w') := fun W hW => HOF.out W _ _ _ rh hW (by omega) (by omega) (by omega) (by rw [eh]; grind)
        have C2 : Hid (∀ W, Below wr.heap.size wr W → Calls Tryd.prog 57 #[rowV (l : Int) (-(sI sg lx)) (sI sg ly), x0, .slice ao ko co] W fun e w' => (∃ v, e = .returned v ∧ NumV w' 1000000000 rl v) ∧ Below W.heap.size W w') := fun W hW => HOF.out W _ _ _ rl hW (by omega) (by omega) (by omega) (by rw [el])
        clear hLeh eh el HOF HOV hbx
        generalize sI sg hx = X at *
        generalize -(sI sg hy) = Y at *
        generalize -(sI sg lx) = U at *
        generalize sI sg ly = V at *
        go_wp2_with fail
        obtain ⟨W3, hW3⟩ : ∃ W3, W3 = ((w2.alloc (.cells #[.int .i64 (h : Int), .int .i64 X, .int .i64 Y] 86)).alloc (.cells #[.int .i64 (l : Int), .int .i64 U, .int .i64 V] 86)) := ⟨_, rfl⟩
        have q1 : IHolds W3 w2.heap.size 86 (rc (h : Int) X Y) := by rw [hW3]; exact (IHolds.new w2 86 (rc (h : Int) X Y)).alloc _
        have q2 : IHolds W3 (w2.heap.size + 1) 86 (rc (l : Int) U V) := by
          rw [hW3]
          have := IHolds.new (w2.alloc (.cells #[.int .i64 (h : Int), .int .i64 X, .int .i64 Y] 86)) 86 (rc (l : Int) U V)
          rw [World.size_alloc] at this
          exact this
        have B3 : Hid (Below wr.heap.size wr W3.drew) := by
          have b : Below wr.heap.size wr W3 := by rw [hW3]; exact (B2.out.alloc B2.out.size _).alloc (by have := B2.out.size; simp; omega) _
          exact b.drew
        rw [← hW3]
        clear hW3
        have HS0 : Hid (IHolds W3.drew w2.heap.size 86 (rc (h : Int) X Y) ∧ IHolds W3.drew (w2.heap.size + 1) 86 (rc (l : Int) U V)) := ⟨q1.drew, q2.drew⟩
        clear q1 q2
        refine wp_region_held_drew (S := fun W => IHolds W w2.heap.size 86 (rc (h : Int) X Y) ∧ IHolds W (w2.heap.size + 1) 86 (rc (l : Int) U V)) (by kernel_rfl) HS0.out (fun hHeld => ?_)
        generalize W3.drew = wd at *
        refine wpAnyH_take (i := 0) (v := rowV (h : Int) X Y) rfl (by kernel_rfl) (by kernel_rfl) (by kernel_rfl) (fun _ _ _ h => h) (Or.inl ⟨by rfl, ?_⟩) hHeld ?_
        · intro w hS
          have z0 := hS.1.rc0
          have z1 := hS.1.rc1
          have z2 := hS.1.rc2
          have z3 := hS.2.rc0
          have z4 := hS.2.rc1
          have z5 := hS.2.rc2
          go_simp
        simp only [Act.put, List.getElem_toArray, List.getElem_cons_succ, List.getElem_cons_zero, List.setIfInBounds_toArray, List.set_cons_zero, List.set_cons_succ, Array.toArray_toList]
        refine wpAnyH_take (i := 1) (v := x0) rfl (by kernel_rfl) (by kernel_rfl) (by kernel_rfl) (fun _ _ _ h => h) (Or.inl ⟨by rfl, ?_⟩) hHeld ?_
        · intro w hS
          have z0 := hS.1.rc0
          have z1 := hS.1.rc1
          have z2 := hS.1.rc2
          have z3 := hS.2.rc0
          have z4 := hS.2.rc1
          have z5 := hS.2.rc2
          go_simp
        simp only [Act.put, List.getElem_toArray, List.getElem_cons_succ, List.getElem_cons_zero, List.setIfInBounds_toArray, List.set_cons_zero, List.set_cons_succ, Array.toArray_toList]
        refine wpAnyH_take (i := 2) (v := .slice ao ko co) rfl (by kernel_rfl) (by kernel_rfl) (by kernel_rfl) (fun _ _ _ h => h) (Or.inl ⟨by rfl, ?_⟩) hHeld ?_
        · intro w hS
          have z0 := hS.1.rc0
          have z1 := hS.1.rc1
          have z2 := hS.1.rc2
          have z3 := hS.2.rc0
          have z4 := hS.2.rc1
          have z5 := hS.2.rc2
          go_simp
        simp only [Act.put, List.getElem_toArray, List.getElem_cons_succ, List.getElem_cons_zero, List.setIfInBounds_toArray, List.set_cons_zero, List.set_cons_succ, Array.toArray_toList]
        refine wpAnyH_take (i := 4) (v := rowV (l : Int) U V) rfl (by kernel_rfl) (by kernel_rfl) (by kernel_rfl) (fun _ _ _ h => h) (Or.inl ⟨by rfl, ?_⟩) hHeld ?_
        · intro w hS
          have z0 := hS.1.rc0
          have z1 := hS.1.rc1
          have z2 := hS.1.rc2
          have z3 := hS.2.rc0
          have z4 := hS.2.rc1
          have z5 := hS.2.rc2
          go_simp
        simp only [Act.put, List.getElem_toArray, List.getElem_cons_succ, List.getElem_cons_zero, List.setIfInBounds_toArray, List.set_cons_zero, List.set_cons_succ, Array.toArray_toList]
        refine wpAnyH_take (i := 5) (v := x0) rfl (by kernel_rfl) (by kernel_rfl) (by kernel_rfl) (fun _ _ _ h => h) (Or.inl ⟨by rfl, ?_⟩) hHeld ?_
        · intro w hS
          have z0 := hS.1.rc0
          have z1 := hS.1.rc1
          have z2 := hS.1.rc2
          have z3 := hS.2.rc0
          have z4 := hS.2.rc1
          have z5 := hS.2.rc2
          go_simp
        simp only [Act.put, List.getElem_toArray, List.getElem_cons_succ, List.getElem_cons_zero, List.setIfInBounds_toArray, List.set_cons_zero, List.set_cons_succ, Array.toArray_toList]
        refine wpAnyH_take (i := 6) (v := .slice ao ko co) rfl (by kernel_rfl) (by kernel_rfl) (by kernel_rfl) (fun _ _ _ h => h) (Or.inl ⟨by rfl, ?_⟩) hHeld ?_
        · intro w hS
          have z0 := hS.1.rc0
          have z1 := hS.1.rc1
          have z2 := hS.1.rc2
          have z3 := hS.2.rc0
          have z4 := hS.2.rc1
          have z5 := hS.2.rc2
          go_simp
        simp only [Act.put, List.getElem_toArray, List.getElem_cons_succ, List.getElem_cons_zero, List.setIfInBounds_toArray, List.set_cons_zero, List.set_cons_succ, Array.toArray_toList]
        refine wpAnyH_ready (rs := [3]) (by kernel_rfl) (by simp) ?_
        refine AllReadyH.cons rfl (fun K hK => ?_) AllReadyH.nil
        go_simp
        refine (C1.out wd B3.out).mono ?_
        rintro e wa ⟨⟨y0, rfl, hv0⟩, hba⟩
        have SA : Hid (IHolds wa w2.heap.size 86 (rc (h : Int) X Y) ∧ IHolds wa (w2.heap.size + 1) 86 (rc (l : Int) U V)) := ⟨HS0.out.1.of_below hba, HS0.out.2.of_below hba⟩
        have BA : Hid (Below wr.heap.size wr wa) := B3.out.trans (hba.mono B3.out.size)
        have HV0 : Hid (NumV wa 1000000000 rh y0) := hv0
        clear hba hv0
        go_wp2_with fail
        refine hK.out _ _ SA.out (fun hHeld2 => ?_)
        clear hK K
        try simp only [Act.put, List.getElem_toArray, List.getElem_cons_succ, List.getElem_cons_zero, List.setIfInBounds_toArray, List.set_cons_zero, List.set_cons_succ, Array.toArray_toList]
        refine wpAnyH_ready (rs := [7]) (by kernel_rfl) (by simp) ?_
        refine AllReadyH.cons rfl (fun K hK => ?_) AllReadyH.nil
        go_simp
        refine (C2.out wa BA.out).mono ?_
        rintro e wb ⟨⟨y1, rfl, hv1⟩, hbb⟩
        have SB : Hid (IHolds wb w2.heap.size 86 (rc (h : Int) X Y) ∧ IHolds wb (w2.heap.size + 1) 86 (rc (l : Int) U V)) := ⟨SA.out.1.of_below hbb, SA.out.2.of_below hbb⟩
        have BB : Hid (Below w.heap.size w wb) := HB.out.trans ((BA.out.trans (hbb.mono BA.out.size)).mono HB.out.size)
        have HV1 : Hid (NumV wb 1000000000 rl y1) := hv1
        have HV2 : Hid (NumV wb 1000000000 rh y0) := HV0.out.of_below hbb
        clear hbb hv1 HV0
        go_wp2_with fail
        refine hK.out _ _ SB.out (fun hHeld3 => ?_)
        clear hK K
        try simp only [Act.put, List.getElem_toArray, List.getElem_cons_succ, List.getElem_cons_zero, List.setIfInBounds_toArray, List.set_cons_zero, List.set_cons_succ, Array.toArray_toList]
        refine wpAnyH_take (i := 8) (v := y0) rfl (by kernel_rfl) (by kernel_rfl) (by kernel_rfl) (fun _ _ _ h => h) (Or.inl ⟨by rfl, ?_⟩) hHeld3 ?_
        · intro w hS
          have z0 := hS.1.rc0
          have z1 := hS.1.rc1
          have z2 := hS.1.rc2
          have z3 := hS.2.rc0
          have z4 := hS.2.rc1
          have z5 := hS.2.rc2
          go_simp
        simp only [Act.put, List.getElem_toArray, List.getElem_cons_succ, List.getElem_cons_zero, List.setIfInBounds_toArray, List.set_cons_zero, List.set_cons_succ, Array.toArray_toList]
        refine wpAnyH_take (i := 9) (v := y1) rfl (by kernel_rfl) (by kernel_rfl) (by kernel_rfl) (fun _ _ _ h => h) (Or.inl ⟨by rfl, ?_⟩) hHeld3 ?_
        · intro w hS
          have z0 := hS.1.rc0
          have z1 := hS.1.rc1
          have z2 := hS.1.rc2
          have z3 := hS.2.rc0
          have z4 := hS.2.rc1
          have z5 := hS.2.rc2
          go_simp
        simp only [Act.put, List.getElem_toArray, List.getElem_cons_succ, List.getElem_cons_zero, List.setIfInBounds_toArray, List.set_cons_zero, List.set_cons_succ, Array.toArray_toList]
        refine wpAnyH_done (by kernel_rfl) ?_ _
        clear hHeld hHeld2 hHeld3
        go_wp2_with fail
        go_roundg (rh + rl)
        case measure => have := HGK.out; omega
        case rel => exact ⟨rh, rl, y0, y1, rfl, rfl, rfl, hge, by omega, HG2.out, HV2.out, HV1.out, BB.out⟩
    · have hnz : Hid (∀ W, Below wr.heap.size wr W → Calls Tryd.prog 24 #[x1] W fun e w' => e = .returned (.bool (O == 0)) ∧ w' = W) := fun W hW => isZeroV (n1.of_below hW)
      have hl2' : ¬ (2 : Int) < ((dg 1000000000 O).length : Int) := by omega
      have HOV : Hid (O ≠ 0 → ∀ W, Below wr.heap.size wr W → Calls Tryd.prog 56 #[x0, x1] W fun e w' => (∃ u1 u2, e = .returned (.tuple #[u1, u2]) ∧ NumV w' 1000000000 (N / O) u1 ∧ NumV w' 1000000000 (N % O) u2) ∧ Below W.heap.size W w') := fun h0 W hW => overV (n0.of_below hW) (n1.of_below hW) h0 hNl hOl
      have HSH : Hid (O ≠ 0 → ∀ W u, NumV W 1000000000 O x1 → NumV W 1000000000 (N % O) u → Calls Tryd.prog 58 #[x1, u] W fun e w' => (∃ v, e = .returned v ∧ NumV w' 1000000000 (Nat.gcd O (N % O)) v) ∧ Below W.heap.size W w') := fun h0 W u g1 g2 => shortV g1 g2 (by omega) (Nat.le_trans (dg_len_mono bigBase (Nat.le_of_lt (Nat.mod_lt N (by omega)))) (by omega))
      have HGR : Hid (Nat.gcd O (N % O) = g) := by show _ = _; rw [← HGC.out, Nat.gcd_comm N O, Nat.gcd_rec O N, Nat.gcd_comm]
      have hNl0 : Hid (O = 0 → N = g) := fun h0 => by have := HGC.out; rw [h0] at this; simpa using this
      clear n0 n1
      have M1k := M1
      rw [hxo] at hnz HOV HSH M1 ⊢
      generalize (dg 1000000000 O).length = ko at *
      by_cases hO : O = 0
      · subst hO
        have hNg := hNl0.out rfl
        subst hNg
        go_wp2_with fail
        refine (hnz.out wr (Below.refl _ _)).mono ?_
        rintro e wr ⟨rfl, rfl⟩
        go_wp2_with fail
        go_ret
        exact ⟨⟨x0, rfl, M0.out⟩, HB.out⟩
      · have hOb : (O == 0) = false := beq_eq_false_iff_ne.2 hO
        rw [hOb] at hnz
        have HO := HOV.out hO
        have HO2 : Hid (∀ W, Below wr.heap.size wr W → Calls Tryd.prog 56 #[x0, .slice ao ko co] W fun e w' => (∃ u1 u2, e = .returned (.tuple #[u1, u2]) ∧ NumV w' 1000000000 (N / O) u1 ∧ NumV w' 1000000000 (N % O) u2) ∧ Below W.heap.size W w') := HO
        have HSH2 := HSH.out hO
        have HSH3 : Hid (∀ W u, NumV W 1000000000 O (.slice ao ko co) → NumV W 1000000000 (N % O) u → Calls Tryd.prog 58 #[.slice ao ko co, u] W fun e w' => (∃ v, e = .returned v ∧ NumV w' 1000000000 (Nat.gcd O (N % O)) v) ∧ Below W.heap.size W w') := HSH2
        clear HO HSH2 HOV HSH hNl0
        rw [HGR.out] at HSH3
        generalize N % O = nm at *
        generalize N / O = nd at *
        go_wp2_with fail
        refine (hnz.out wr (Below.refl _ _)).mono ?_
        rintro e wr ⟨rfl, rfl⟩
        go_wp2_with fail
        refine (HO2.out wr (Below.refl _ _)).mono ?_
        rintro e w5 ⟨⟨u1, u2, rfl, hu1, hu2⟩, hb5⟩
        have P1 : Hid (NumV w5 1000000000 O (.slice ao ko co)) := M1.out.of_below hb5
        have P2 : Hid (NumV w5 1000000000 nm u2) := hu2
        have B5 : Hid (Below w.heap.size w w5) := HB.out.trans (hb5.mono HB.out.size)
        clear hu1 hu2 hb5
        go_wp2_with fail
        refine (HSH3.out w5 u2 P1.out P2.out).mono ?_
        rintro e w6 ⟨⟨v, rfl, hv⟩, hb6⟩
        have P3 : Hid (NumV w6 1000000000 g v) := hv
        have B6 : Hid (Below w.heap.size w w6) := B5.out.trans (hb6.mono B5.out.size)
        clear hv hb6
        go_wp2_with fail
        go_ret
        exact ⟨⟨v, rfl, P3.out⟩, B6.out⟩
end Go.Proofs.YtflabehlaiocaaaDoor
namespace Go.Proofs.YtflabehlaiocaaaDoor
open Go.RowKit Go.Deep

set_option maxRecDepth 100000 in
set_option maxHeartbeats 4000000 in
theorem gcd_low (w : World) (n o M : Nat) (v1 v2 : Value) (h1 : NumV w 1000000000 n v1) (h2 : NumV w 1000000000 o v2) (hnM : n ≤ M) (hoM : o ≤ M) (hM : (dg 1000000000 M).length ≤ 1000000) (hon : n < o) :
    Calls Tryd.prog 40 #[v1, v2] w fun e w' => (∃ v, e = .returned v ∧ NumV w' 1000000000 (Nat.gcd n o) v) ∧ Below w.heap.size w w' := by
  have HMM : Hid (∀ k, k ≤ M → (dg 1000000000 k).length ≤ 1000000) := fun k hk => Nat.le_trans (dg_len_mono bigBase hk) hM
  have HC : Hid (Calls Tryd.prog 39 #[v1, v2] w fun e w' => e = .returned (.int .i64 (cmp3 (n : Int) (o : Int))) ∧ Below w.heap.size w w') := compareV h1 h2 (HMM.out n hnM) (HMM.out o hoM)
  have hc : cmp3 (n : Int) (o : Int) < 0 := by rw [cmp3_lt (by omega)]; omega
  generalize cmp3 (n : Int) (o : Int) = c at *
  generalize hg : Nat.gcd n o = g
  have HG : Hid (Nat.gcd n o = g) := hg
  have N1 : Hid (NumV w 1000000000 n v1) := h1
  have N2 : Hid (NumV w 1000000000 o v2) := h2
  clear hg h1 h2 hM
  go_enter Tryd.func40, Tryd.ntmps40
  go_wp2_with fail
  refine HC.out.mono ?_
  rintro e w1 ⟨rfl, hb⟩
  have N1' : Hid (NumV w1 1000000000 n v1) := N1.out.of_below hb
  have N2' : Hid (NumV w1 1000000000 o v2) := N2.out.of_below hb
  have B1 : Hid (Below w.heap.size w w1) := hb
  clear hb HC N1 N2
  go_wp2_with fail
  go_loopg [0, 1] (n + o) (fun gk u0 u1 wr => ∃ (N O : Nat) (x0 x1 : Value), x0 = u0 ∧ x1 = u1 ∧ N + O = gk ∧ O ≤ N ∧ N ≤ M ∧ Nat.gcd N O = g ∧ NumV wr 1000000000 N x0 ∧ NumV wr 1000000000 O x1 ∧ Below w.heap.size w wr)
  case atStart => exact ⟨o, n, v2, v1, rfl, rfl, by omega, by omega, hoM, by rw [Nat.gcd_comm]; exact HG.out, N2'.out, N1'.out, B1.out⟩
  case round =>
    obtain ⟨N, O, x0, x1, rfl, rfl, hgk, hON, hNM, hgc, n0, n1, hB⟩ := hrel
    have HGK : Hid (N + O = gk) := hgk
    have HGC : Hid (Nat.gcd N O = g) := hgc
    have M0 : Hid (NumV wr 1000000000 N x0) := n0
    have M1 : Hid (NumV wr 1000000000 O x1) := n1
    have HB : Hid (Below w.heap.size w wr) := hB
    have hNl := HMM.out N hNM
    have hOl := HMM.out O (by omega)
    obtain ⟨ao, co, hxo⟩ := n1.len
    clear hgk hgc hB N1' N2' B1 HG
    by_cases hl2 : 2 < (dg 1000000000 O).length
    · have hl2' : (2 : Int) < ((dg 1000000000 O).length : Int) := by omega
      have hO0 : 0 < O := by
        rcases Nat.eq_zero_or_pos O with h0 | h0
        · rw [h0, dg_zero] at hl2; simp at hl2
        · exact h0
      have hN3 : 3 ≤ (dg 1000000000 N).length := Nat.le_trans hl2 (dg_len_mono bigBase hON)
      have HSU := sureV n0 n1 hNl hON hN3 hO0
      have HOV : Hid (∀ W, Below wr.heap.size wr W → Calls Tryd.prog 56 #[x0, x1] W fun e w' => (∃ u1 u2, e = .returned (.tuple #[u1, u2]) ∧ NumV w' 1000000000 (N / O) u1 ∧ NumV w' 1000000000 (N % O) u2) ∧ Below W.heap.size W w') := fun W hW => overV (n0.of_below hW) (n1.of_below hW) (by omega) hNl hOl
      have HOF : Hid (∀ (W : World) (h x y : Int) (R : Nat), Below wr.heap.size wr W → R ≤ N → (-1000000000 ≤ x ∧ x ≤ 1000000000) → (-1000000000 ≤ y ∧ y ≤ 1000000000) → (R : Int) = x * (N : Int) + y * (O : Int) → Calls Tryd.prog 57 #[rowV h x y, x0, x1] W fun e w' => (∃ v, e = .returned v ∧ NumV w' 1000000000 R v) ∧ Below W.heap.size W w') := fun W h x y R hW g1 g2 g3 g4 => ofV (n0.of_below hW) (n1.of_below hW) hNl hON g1 g2 g3 g4
      clear n0 n1
      rw [hxo] at HSU HOV HOF M1 ⊢
      generalize (dg 1000000000 O).length = ko at *
      go_wp2_with fail
      refine HSU.mono ?_
      rintro e w2 ⟨⟨a, b, sg, hx, hy, lx, ly, h, l, rh, rl, rfl, hLeh⟩, hb⟩
      have B2 : Hid (Below wr.heap.size wr w2) := hb
      have hbx := hLeh.bx
      have xb := sI_bd sg hx 1000000000 (by omega)
      have yb := sI_bd sg hy 1000000000 (by omega)
      have ub := sI_bd sg lx 1000000000 (by omega)
      have vb := sI_bd sg ly 1000000000 (by omega)
      clear hb HSU
      rcases hLeh.st with ⟨s1, s2, s3, s4, s5, s6⟩ | ⟨s1, s2, s3⟩
      · subst s1 s2 s3 s4
        have hy0 : (-(sI sg 0) : Int) = 0 := by cases sg <;> simp [sI]
        have HG2 : Hid (Nat.gcd O (N % O) = g) := by show _ = _; rw [← HGC.out, Nat.gcd_comm N O, Nat.gcd_rec O N, Nat.gcd_comm]
        have hmO : N % O < O := Nat.mod_lt _ hO0
        rw [hy0]
        clear hLeh s5 s6 hbx yb ub vb HOF hy0
        generalize sI sg 1 = X at *
        generalize N % O = nm at *
        generalize N / O = nd at *
        go_wp2_with fail
        obtain ⟨W3, hW3⟩ : ∃ W3, W3 = (w2.alloc (.cells #[.int .i64 (h : Int), .int .i64 X, .int .i64 0] 86)).alloc (.cells #[.int .i64 (l : Int), .int .i64 0, .int .i64 X] 86) := ⟨_, rfl⟩
        have B3 : Hid (Below wr.heap.size wr W3) := by rw [hW3]; exact (B2.out.alloc B2.out.size _).alloc (by have := B2.out.size; simp; omega) _
        rw [← hW3]
        clear hW3
        refine (HOV.out W3 B3.out).mono ?_
        rintro e w5 ⟨⟨u1, u2, rfl, hu1, hu2⟩, hb5⟩
        have BB : Hid (Below wr.heap.size wr w5) := B3.out.trans (hb5.mono B3.out.size)
        have P1 : Hid (NumV w5 1000000000 O (.slice ao ko co)) := M1.out.of_below BB.out
        have P2 : Hid (NumV w5 1000000000 nm u2) := hu2
        have B5 : Hid (Below w.heap.size w w5) := HB.out.trans (BB.out.mono HB.out.size)
        clear hu1 hu2 hb5
        go_wp2_with fail
        go_roundg (O + nm)
        case measure => have := HGK.out; omega
        case rel => exact ⟨O, nm, _, u2, rfl, rfl, rfl, by omega, by omega, HG2.out, P1.out, P2.out, B5.out⟩
      · have hyn : -(sI sg hy) ≠ 0 := by
          cases sg <;> simp only [sI, Bool.false_eq_true, if_false, if_true] <;> omega
        have hyb : (-(sI sg hy) == 0) = false := beq_eq_false_iff_ne.2 hyn
        have hge := hLeh.ge
        have eh := hLeh.erh
        have el := hLeh.erl
        have HG2 : Hid (Nat.gcd rh rl = g) := by show _ = _; rw [hLeh.gcd]; exact HGC.out
        have C1 : Hid (∀ W, Below wr.heap.size wr W → Calls Tryd.prog 57 #[rowV (h : Int) (sI sg hx) (-(sI sg hy)), x0, .slice ao ko co] W fun e w' => (∃ v, e = .returned v ∧ NumV w' 1000000000 rh v) ∧ Below W.heap.size W w') := fun W hW => HOF.out W _ _ _ rh hW (by omega) (by omega) (by omega) (by rw [eh]; grind)
        have C2 : Hid (∀ W, Below wr.heap.size wr W → Calls Tryd.prog 57 #[rowV (l : Int) (-(sI sg lx)) (sI sg ly), x0, .slice ao ko co] W fun e w' => (∃ v, e = .returned v ∧ NumV w' 1000000000 rl v) ∧ Below W.heap.size W w') := fun W hW => HOF.out W _ _ _ rl hW (by omega) (by omega) (by omega) (by rw [el])
        clear hLeh eh el HOF HOV hbx
        generalize sI sg hx = X at *
        generalize -(sI sg hy) = Y at *
        generalize -(sI sg lx) = U at *
        generalize sI sg ly = V at *
        go_wp2_with fail
        obtain ⟨W3, hW3⟩ : ∃ W3, W3 = ((w2.alloc (.cells #[.int .i64 (h : Int), .int .i64 X, .int .i64 Y] 86)).alloc (.cells #[.int .i64 (l : Int), .int .i64 U, .int .i64 V] 86)) := ⟨_, rfl⟩
        have q1 : IHolds W3 w2.heap.size 86 (rc (h : Int) X Y) := by rw [hW3]; exact (IHolds.new w2 86 (rc (h : Int) X Y)).alloc _
        have q2 : IHolds W3 (w2.heap.size + 1) 86 (rc (l : Int) U V) := by
          rw [hW3]
          have := IHolds.new (w2.alloc (.cells #[.int .i64 (h : Int), .int .i64 X, .int .i64 Y] 86)) 86 (rc (l : Int) U V)
          rw [World.size_alloc] at this
          exact this
        have B3 : Hid (Below wr.heap.size wr W3.drew) := by
          have b : Below wr.heap.size wr W3 := by rw [hW3]; exact (B2.out.alloc B2.out.size _).alloc (by have := B2.out.size; simp; omega) _
          exact b.drew
        rw [← hW3]
        clear hW3
        have HS0 : Hid (IHolds W3.drew w2.heap.size 86 (rc (h : Int) X Y) ∧ IHolds W3.drew (w2.heap.size + 1) 86 (rc (l : Int) U V)) := ⟨q1.drew, q2.drew⟩
        clear q1 q2
        refine wp_region_held_drew (S := fun W => IHolds W w2.heap.size 86 (rc (h : Int) X Y) ∧ IHolds W (w2.heap.size + 1) 86 (rc (l : Int) U V)) (by kernel_rfl) HS0.out (fun hHeld => ?_)
        generalize W3.drew = wd at *
        refine wpAnyH_take (i := 0) (v := rowV (h : Int) X Y) rfl (by kernel_rfl) (by kernel_rfl) (by kernel_rfl) (fun _ _ _ h => h) (Or.inl ⟨by rfl, ?_⟩) hHeld ?_
        · intro w hS
          have z0 := hS.1.rc0
          have z1 := hS.1.rc1
          have z2 := hS.1.rc2
          have z3 := hS.2.rc0
          have z4 := hS.2.rc1
          have z5 := hS.2.rc2
          go_simp
        simp only [Act.put, List.getElem_toArray, List.getElem_cons_succ, List.getElem_cons_zero, List.setIfInBounds_toArray, List.set_cons_zero, List.set_cons_succ, Array.toArray_toList]
        refine wpAnyH_take (i := 1) (v := x0) rfl (by kernel_rfl) (by kernel_rfl) (by kernel_rfl) (fun _ _ _ h => h) (Or.inl ⟨by rfl, ?_⟩) hHeld ?_
        · intro w hS
          have z0 := hS.1.rc0
          have z1 := hS.1.rc1
          have z2 := hS.1.rc2
          have z3 := hS.2.rc0
          have z4 := hS.2.rc1
          have z5 := hS.2.rc2
          go_simp
        simp only [Act.put, List.getElem_toArray, List.getElem_cons_succ, List.getElem_cons_zero, List.setIfInBounds_toArray, List.set_cons_zero, List.set_cons_succ, Array.toArray_toList]
        refine wpAnyH_take (i := 2) (v := .slice ao ko co) rfl (by kernel_rfl) (by kernel_rfl) (by kernel_rfl) (fun _ _ _ h => h) (Or.inl ⟨by rfl, ?_⟩) hHeld ?_
        · intro w hS
          have z0 := hS.1.rc0
          have z1 := hS.1.rc1
          have z2 := hS.1.rc2
          have z3 := hS.2.rc0
          have z4 := hS.2.rc1
          have z5 := hS.2.rc2
          go_simp
        simp only [Act.put, List.getElem_toArray, List.getElem_cons_succ, List.getElem_cons_zero, List.setIfInBounds_toArray, List.set_cons_zero, List.set_cons_succ, Array.toArray_toList]
        refine wpAnyH_take (i := 4) (v := rowV (l : Int) U V) rfl (by kernel_rfl) (by kernel_rfl) (by kernel_rfl) (fun _ _ _ h => h) (Or.inl ⟨by rfl, ?_⟩) hHeld ?_
        · intro w hS
          have z0 := hS.1.rc0
          have z1 := hS.1.rc1
          have z2 := hS.1.rc2
          have z3 := hS.2.rc0
          have z4 := hS.2.rc1
          have z5 := hS.2.rc2
          go_simp
        simp only [Act.put, List.getElem_toArray, List.getElem_cons_succ, List.getElem_cons_zero, List.setIfInBounds_toArray, List.set_cons_zero, List.set_cons_succ, Array.toArray_toList]
        refine wpAnyH_take (i := 5) (v := x0) rfl (by kernel_rfl) (by kernel_rfl) (by kernel_rfl) (fun _ _ _ h => h) (Or.inl ⟨by rfl, ?_⟩) hHeld ?_
        · intro w hS
          have z0 := hS.1.rc0
          have z1 := hS.1.rc1
          have z2 := hS.1.rc2
          have z3 := hS.2.rc0
          have z4 := hS.2.rc1
          have z5 := hS.2.rc2
          go_simp
        simp only [Act.put, List.getElem_toArray, List.getElem_cons_succ, List.getElem_cons_zero, List.setIfInBounds_toArray, List.set_cons_zero, List.set_cons_succ, Array.toArray_toList]
        refine wpAnyH_take (i := 6) (v := .slice ao ko co) rfl (by kernel_rfl) (by kernel_rfl) (by kernel_rfl) (fun _ _ _ h => h) (Or.inl ⟨by rfl, ?_⟩) hHeld ?_
        · intro w hS
          have z0 := hS.1.rc0
          have z1 := hS.1.rc1
          have z2 := hS.1.rc2
          have z3 := hS.2.rc0
          have z4 := hS.2.rc1
          have z5 := hS.2.rc2
          go_simp
        simp only [Act.put, List.getElem_toArray, List.getElem_cons_succ, List.getElem_cons_zero, List.setIfInBounds_toArray, List.set_cons_zero, List.set_cons_succ, Array.toArray_toList]
        refine wpAnyH_ready (rs := [3]) (by kernel_rfl) (by simp) ?_
        refine AllReadyH.cons rfl (fun K hK => ?_) AllReadyH.nil
        go_simp
        refine (C1.out wd B3.out).mono ?_
        rintro e wa ⟨⟨y0, rfl, hv0⟩, hba⟩
        have SA : Hid (IHolds wa w2.heap.size 86 (rc (h : Int) X Y) ∧ IHolds wa (w2.heap.size + 1) 86 (rc (l : Int) U V)) := ⟨HS0.out.1.of_below hba, HS0.out.2.of_below hba⟩
        have BA : Hid (Below wr.heap.size wr wa) := B3.out.trans (hba.mono B3.out.size)
        have HV0 : Hid (NumV wa 1000000000 rh y0) := hv0
        clear hba hv0
        go_wp2_with fail
        refine hK.out _ _ SA.out (fun hHeld2 => ?_)
        clear hK K
        try simp only [Act.put, List.getElem_toArray, List.getElem_cons_succ, List.getElem_cons_zero, List.setIfInBounds_toArray, List.set_cons_zero, List.set_cons_succ, Array.toArray_toList]
        refine wpAnyH_ready (rs := [7]) (by kernel_rfl) (by simp) ?_
        refine AllReadyH.cons rfl (fun K hK => ?_) AllReadyH.nil
        go_simp
        refine (C2.out wa BA.out).mono ?_
        rintro e wb ⟨⟨y1, rfl, hv1⟩, hbb⟩
        have SB : Hid (IHolds wb w2.heap.size 86 (rc (h : Int) X Y) ∧ IHolds wb (w2.heap.size + 1) 86 (rc (l : Int) U V)) := ⟨SA.out.1.of_below hbb, SA.out.2.of_below hbb⟩
        have BB : Hid (Below w.heap.size w wb) := HB.out.trans ((BA.out.trans (hbb.mono BA.out.size)).mono HB.out.size)
        have HV1 : Hid (NumV wb 1000000000 rl y1) := hv1
        have HV2 : Hid (NumV wb 1000000000 rh y0) := HV0.out.of_below hbb
        clear hbb hv1 HV0
        go_wp2_with fail
        refine hK.out _ _ SB.out (fun hHeld3 => ?_)
        clear hK K
        try simp only [Act.put, List.getElem_toArray, List.getElem_cons_succ, List.getElem_cons_zero, List.setIfInBounds_toArray, List.set_cons_zero, List.set_cons_succ, Array.toArray_toList]
        refine wpAnyH_take (i := 8) (v := y0) rfl (by kernel_rfl) (by kernel_rfl) (by kernel_rfl) (fun _ _ _ h => h) (Or.inl ⟨by rfl, ?_⟩) hHeld3 ?_
        · intro w hS
          have z0 := hS.1.rc0
          have z1 := hS.1.rc1
          have z2 := hS.1.rc2
          have z3 := hS.2.rc0
          have z4 := hS.2.rc1
          have z5 := hS.2.rc2
          go_simp
        simp only [Act.put, List.getElem_toArray, List.getElem_cons_succ, List.getElem_cons_zero, List.setIfInBounds_toArray, List.set_cons_zero, List.set_cons_succ, Array.toArray_toList]
        refine wpAnyH_take (i := 9) (v := y1) rfl (by kernel_rfl) (by kernel_rfl) (by kernel_rfl) (fun _ _ _ h => h) (Or.inl ⟨by rfl, ?_⟩) hHeld3 ?_
        · intro w hS
          have z0 := hS.1.rc0
          have z1 := hS.1.rc1
          have z2 := hS.1.rc2
          have z3 := hS.2.rc0
          have z4 := hS.2.rc1
          have z5 := hS.2.rc2
          go_simp
        simp only [Act.put, List.getElem_toArray, List.getElem_cons_succ, List.getElem_cons_zero, List.setIfInBounds_toArray, List.set_cons_zero, List.set_cons_succ, Array.toArray_toList]
        refine wpAnyH_done (by kernel_rfl) ?_ _
        clear hHeld hHeld2 hHeld3
        go_wp2_with fail
        go_roundg (rh + rl)
        case measure => have := HGK.out; omega
        case rel => exact ⟨rh, rl, y0, y1, rfl, rfl, rfl, hge, by omega, HG2.out, HV2.out, HV1.out, BB.out⟩
    · have hnz : Hid (∀ W, Below wr.heap.size wr W → Calls Tryd.prog 24 #[x1] W fun e w' => e = .returned (.bool (O == 0)) ∧ w' = W) := fun W hW => isZeroV (n1.of_below hW)
      have hl2' : ¬ (2 : Int) < ((dg 1000000000 O).length : Int) := by omega
      have HOV : Hid (O ≠ 0 → ∀ W, Below wr.heap.size wr W → Calls Tryd.prog 56 #[x0, x1] W fun e w' => (∃ u1 u2, e = .returned (.tuple #[u1, u2]) ∧ NumV w' 1000000000 (N / O) u1 ∧ NumV w' 1000000000 (N % O) u2) ∧ Below W.heap.size W w') := fun h0 W hW => overV (n0.of_below hW) (n1.of_below hW) h0 hNl hOl
      have HSH : Hid (O ≠ 0 → ∀ W u, NumV W 1000000000 O x1 → NumV W 1000000000 (N % O) u → Calls Tryd.prog 58 #[x1, u] W fun e w' => (∃ v, e = .returned v ∧ NumV w' 1000000000 (Nat.gcd O (N % O)) v) ∧ Below W.heap.size W w') := fun h0 W u g1 g2 => shortV g1 g2 (by omega) (Nat.le_trans (dg_len_mono bigBase (Nat.le_of_lt (Nat.mod_lt N (by omega)))) (by omega))
      have HGR : Hid (Nat.gcd O (N % O) = g) := by show _ = _; rw [← HGC.out, Nat.gcd_comm N O, Nat.gcd_rec O N, Nat.gcd_comm]
      have hNl0 : Hid (O = 0 → N = g) := fun h0 => by have := HGC.out; rw [h0] at this; simpa using this
      clear n0 n1
      have M1k := M1
      rw [hxo] at hnz HOV HSH M1 ⊢
      generalize (dg 1000000000 O).length = ko at *
      by_cases hO : O = 0
      · subst hO
        have hNg := hNl0.out rfl
        subst hNg
        go_wp2_with fail
        refine (hnz.out wr (Below.refl _ _)).mono ?_
        rintro e wr ⟨rfl, rfl⟩
        go_wp2_with fail
        go_ret
        exact ⟨⟨x0, rfl, M0.out⟩, HB.out⟩
      · have hOb : (O == 0) = false := beq_eq_false_iff_ne.2 hO
        rw [hOb] at hnz
        have HO := HOV.out hO
        have HO2 : Hid (∀ W, Below wr.heap.size wr W → Calls Tryd.prog 56 #[x0, .slice ao ko co] W fun e w' => (∃ u1 u2, e = .returned (.tuple #[u1, u2]) ∧ NumV w' 1000000000 (N / O) u1 ∧ NumV w' 1000000000 (N % O) u2) ∧ Below W.heap.size W w') := HO
        have HSH2 := HSH.out hO
        have HSH3 : Hid (∀ W u, NumV W 1000000000 O (.slice ao ko co) → NumV W 1000000000 (N % O) u → Calls Tryd.prog 58 #[.slice ao ko co, u] W fun e w' => (∃ v, e = .returned v ∧ NumV w' 1000000000 (Nat.gcd O (N % O)) v) ∧ Below W.heap.size W w') := HSH2
        clear HO HSH2 HOV HSH hNl0
        rw [HGR.out] at HSH3
        generalize N % O = nm at *
        generalize N / O = nd at *
        go_wp2_with fail
        refine (hnz.out wr (Below.refl _ _)).mono ?_
        rintro e wr ⟨rfl, rfl⟩
        go_wp2_with fail
        refine (HO2.out wr (Below.refl _ _)).mono ?_
        rintro e w5 ⟨⟨u1, u2, rfl, hu1, hu2⟩, hb5⟩
        have P1 : Hid (NumV w5 1000000000 O (.slice ao ko co)) := M1.out.of_below hb5
        have P2 : Hid (NumV w5 1000000000 nm u2) := hu2
        have B5 : Hid (Below w.heap.size w w5) := HB.out.trans (hb5.mono HB.out.size)
        clear hu1 hu2 hb5
        go_wp2_with fail
        refine (HSH3.out w5 u2 P1.out P2.out).mono ?_
        rintro e w6 ⟨⟨v, rfl, hv⟩, hb6⟩
        have P3 : Hid (NumV w6 1000000000 g v) := hv
        have B6 : Hid (Below w.heap.size w w6) := B5.out.trans (hb6.mono B5.out.size)
        clear hv hb6
        go_wp2_with fail
        go_ret
        exact ⟨⟨v, rfl, P3.out⟩, B6.out⟩

/-- The greatest common divisor, of values that are numbers. -/
theorem gcdV {W : World} {n o : Nat} {v1 v2 : Value} (h1 : NumV W 1000000000 n v1) (h2 : NumV W 1000000000 o v2) (b1 : (dg 1000000000 n).length ≤ 1000000) (b2 : (dg 1000000000 o).length ≤ 1000000) :
    Calls Tryd.prog 40 #[v1, v2] W fun e w' => (∃ v, e = .returned v ∧ NumV w' 1000000000 (Nat.gcd n o) v) ∧ Below W.heap.size W w' := by
  by_cases hon : o ≤ n
  · exact gcd_top W n o n v1 v2 h1 h2 (Nat.le_refl _) hon b1 hon
  · exact gcd_low W n o o v1 v2 h1 h2 (by omega) (Nat.le_refl _) b2 (by omega)
end Go.Proofs.YtflabehlaiocaaaDoor
namespace Go.Proofs.YtflabehlaiocaaaDoor
open Go.RowKit Go.Deep Go.PlainAid

theorem textV {W : World} {n : Nat} {v : Value} (h : NumV W 1000000000 n v) (b : (dg 1000000000 n).length ≤ 1000000) :
    Calls Tryd.prog 43 #[v] W fun e w' => e = .returned (.string ⟨(txt n).toArray⟩) ∧ Below W.heap.size W w' := by
  obtain ⟨a1, c1, rfl, k1, r1⟩ := h
  exact text_any W a1 c1 n r1 b

end Go.Proofs.YtflabehlaiocaaaDoor
namespace Go.Proofs.YtflabehlaiocaaaDoor
open Go.RowKit Go.Deep Go.PlainAid

end Go.Proofs.YtflabehlaiocaaaDoor
