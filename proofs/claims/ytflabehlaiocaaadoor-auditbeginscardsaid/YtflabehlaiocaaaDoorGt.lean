/- The document's Frac of anything; Risk. -/
import Derived.Test.YtflabehlaiocaaaDoorGs
import Derived.Test.YtflabehlaiocaaaDoorGsa
import Derived.Test.YtflabehlaiocaaaDoorGsb
import Derived.Test.YtflabehlaiocaaaDoorGh
import Derived.Test.YtflabehlaiocaaaDoorKh
set_option linter.unusedSimpArgs false
set_option linter.unusedVariables false
namespace Go.Proofs.YtflabehlaiocaaaDoor
open Go.RowKit Go.Deep Go.PlainAid

theorem ten_short {n : ByteArray} (a : isNum n.data.toList = true) (h : n.size ≤ 100) : (dg 10 (bv n.data.toList)).length ≤ 4000 := dg_len_bv10 n (wrT_ok a (by omega))
theorem ten_div {n : ByteArray} (a : isNum n.data.toList = true) (h : n.size ≤ 100) (g : Nat) : (dg 10 (bv n.data.toList / g)).length ≤ 4000 :=
  Nat.le_trans (dg_len_mono ten (Nat.div_le_self _ _)) (ten_short a h)
theorem frac31_yes (n d : ByteArray) (w : World) (h : rsB n d = true) :
    Calls Tryd.prog 31 #[.agg #[.string n, .string d], .int .i64 100] w fun e w' => (∃ u1 u2, e = .returned (.tuple #[.agg #[u1, u2], .bool true]) ∧ NumV w' 10 (bv n.data.toList) u1 ∧ NumV w' 10 (bv d.data.toList) u2) ∧ Below w.heap.size w w' := by
  unfold rsB at h
  simp only [Bool.and_eq_true, decide_eq_true_eq] at h
  obtain ⟨h1, h2, a1, a2, h0, hg⟩ := h
  refine frac31_ok n d w (T1 := T (bv n.data.toList)) (T2 := T (bv d.data.toList)) (by omega) (by omega) (fun W => by have := is_any n W (by omega); rw [a1] at this; exact this) (fun W => by have := is_any d W (by omega); rw [a2] at this; exact this) (toList_no d [48] (fun h => h0 (by rw [h]; exact T_bv 0)))
    (fun W => refRead_any n W (isNum_all a1) (by omega)) (fun W => refRead_any d W (isNum_all a2) (by omega)) (fun W v1 v2 g1 g2 => by
      have q := refLowestV g1 g2 h0 (by have := ten_short a1 h1; omega) (by have := ten_short a2 h2; omega)
      rw [hg, Nat.div_one, Nat.div_one] at q
      exact q) (fun W v1 v2 g1 g2 => say15 g1 g2 (by have := ten_short a1 h1; omega) (by have := ten_short a2 h2; omega)) ?_ ?_
  · rw [← T_of n a1]
  · rw [← T_of d a2]
theorem frac31_not (n d : ByteArray) (w : World) (h : rsB n d = false) :
    Calls Tryd.prog 31 #[.agg #[.string n, .string d], .int .i64 100] w fun e w' => (∃ a1 k1 c1 a2 k2 c2, e = .returned (.tuple #[.agg #[.slice a1 k1 c1, .slice a2 k2 c2], .bool false])) ∧ Below w.heap.size w w' := by
  by_cases h1 : 100 < n.size
  · exact frac31_long1 n d w h1
  by_cases h2 : 100 < d.size
  · exact frac31_long2 n d w h1 h2
  cases a1 : isNum n.data.toList with
  | false => exact frac31_n n d w h1 h2 (fun W => by have := is_any n W (by omega); rw [a1] at this; exact this)
  | true =>
    have I1 : ∀ W, Calls Tryd.prog 44 #[.string n] W fun e w' => e = .returned (.bool true) ∧ w' = W := fun W => by have := is_any n W (by omega); rw [a1] at this; exact this
    cases a2 : isNum d.data.toList with
    | false => exact frac31_d n d w h1 h2 I1 (fun W => by have := is_any d W (by omega); rw [a2] at this; exact this)
    | true =>
      have I2 : ∀ W, Calls Tryd.prog 44 #[.string d] W fun e w' => e = .returned (.bool true) ∧ w' = W := fun W => by have := is_any d W (by omega); rw [a2] at this; exact this
      by_cases h0 : bv d.data.toList = 0
      · have hd0 : d = ⟨#[48]⟩ := by rw [zeroT, ← h0]; exact T_of d a2
        exact frac31_zero n d w h1 h2 I1 I2 (toList_yes d [48] hd0)
      · have hd := toList_no d [48] (fun h => h0 (by rw [h]; exact T_bv 0))
        have K1 := fun W => refRead_any n W (isNum_all a1) (by omega)
        have K2 := fun W => refRead_any d W (isNum_all a2) (by omega)
        have K3 : ∀ W v1 v2, NumV W 10 (bv n.data.toList) v1 → NumV W 10 (bv d.data.toList) v2 → _ := fun W v1 v2 g1 g2 => refLowestV g1 g2 h0 (by have := ten_short a1 (by omega); omega) (by have := ten_short a2 (by omega); omega)
        have K4 : ∀ W v1 v2, NumV W 10 (bv n.data.toList / Nat.gcd (bv n.data.toList) (bv d.data.toList)) v1 → NumV W 10 (bv d.data.toList / Nat.gcd (bv n.data.toList) (bv d.data.toList)) v2 → _ := fun W v1 v2 g1 g2 => say15 g1 g2 (by have := ten_div a1 (by omega) (Nat.gcd (bv n.data.toList) (bv d.data.toList)); omega) (by have := ten_div a2 (by omega) (Nat.gcd (bv n.data.toList) (bv d.data.toList)); omega)
        by_cases e1 : (T (bv n.data.toList / Nat.gcd (bv n.data.toList) (bv d.data.toList))).toList = n.toList
        · refine frac31_ne2 n d w h1 h2 I1 I2 hd K1 K2 K3 K4 e1 (fun e2 => ?_)
          rw [ByteArray.toList_eq, ByteArray.toList_eq] at e2
          have e3 : bv d.data.toList / Nat.gcd (bv n.data.toList) (bv d.data.toList) = bv d.data.toList := by
            have e4 := congrArg bv e2
            rw [T_bv] at e4
            exact e4
          have g0 : 0 < Nat.gcd (bv n.data.toList) (bv d.data.toList) := Nat.gcd_pos_of_pos_right _ (Nat.pos_of_ne_zero h0)
          have g1 : Nat.gcd (bv n.data.toList) (bv d.data.toList) = 1 := by
            rcases Nat.lt_or_ge 1 (Nat.gcd (bv n.data.toList) (bv d.data.toList)) with q | q
            · have := Nat.div_lt_self (Nat.pos_of_ne_zero h0) q
              omega
            · omega
          unfold rsB at h
          rw [a1, a2] at h
          simp [h0, g1] at h
          omega
        · exact frac31_ne1 n d w h1 h2 I1 I2 hd K1 K2 K3 K4 e1
set_option maxRecDepth 100000 in
set_option maxHeartbeats 4000000 in
theorem risk14_no (n d : ByteArray) (w : World) (C0 : Hid (∀ W, Calls Tryd.prog 31 #[.agg #[.string n, .string d], .int .i64 100] W fun e w' => (∃ a1 k1 c1 a2 k2 c2, e = .returned (.tuple #[.agg #[.slice a1 k1 c1, .slice a2 k2 c2], .bool false])) ∧ Below W.heap.size W w'))  :
    Calls Tryd.prog 14 #[.agg #[.string n, .string d]] w fun e w' => (∃ a1 k1 c1 a2 k2 c2, e = .returned (.tuple #[.agg #[.slice a1 k1 c1, .slice a2 k2 c2], .int .i64 2])) ∧ Below w.heap.size w w' := by
  go_enter Tryd.func14, Tryd.ntmps14
  go_wp2_with fail
  obtain ⟨U1, hU1⟩ : ∃ X, X = ((w.alloc (.cells #[(.string n), (.string d)] 24)).alloc (.cells #[(.slice none 0 0), (.slice none 0 0)] 46)) := ⟨_, rfl⟩
  have Jx : Hid (IHolds U1 (w.heap.size) 24 [(.string n), (.string d)]) := by
    have q := IHolds.new w 24 [(.string n), (.string d)]
    show IHolds _ _ _ _
    rw [hU1]
    exact (q.alloc _)
  have Jr : Hid (IHolds U1 (w.heap.size + 1) 46 [(.slice none 0 0), (.slice none 0 0)]) := by
    have q := IHolds.new (w.alloc (.cells #[(.string n), (.string d)] 24)) 46 [(.slice none 0 0), (.slice none 0 0)]
    simp only [World.size_alloc, Nat.add_assoc, Nat.reduceAdd] at q
    show IHolds _ _ _ _
    rw [hU1]
    exact q
  have B : Hid (Below w.heap.size w U1) := by
    show Below _ _ _
    rw [hU1]
    exact (((Below.refl _ w).alloc (Nat.le_refl _) _).alloc (by simp only [World.size_alloc]; omega) _)
  rw [← hU1]
  clear hU1
  refine (C0.out U1).mono ?_
  rintro e U2 ⟨⟨a1, k1, c1, a2, k2, c2, rfl⟩, hb⟩
  replace B := aB B hb
  replace Jx := aJ Jx hb
  replace Jr := aJ Jr hb
  clear hb
  have nr : Hid (w.heap.size + 1 < U2.heap.size) := Jr.out.lt
  have hb := nB U2 (.cells #[(.slice a1 k1 c1), (.slice a2 k2 c2)] 46)
  have Jl : Hid (IHolds (U2.alloc (.cells #[(.slice a1 k1 c1), (.slice a2 k2 c2)] 46)) U2.heap.size 46 [(.slice a1 k1 c1), (.slice a2 k2 c2)]) := IHolds.new _ _ _
  have ne_x_l := nJ Jx
  have ne_r_l := nJ Jr
  have ge_l : Hid (w.heap.size ≤ U2.heap.size) := B.out.size
  replace B := aB B hb
  replace Jx := aJ Jx hb
  replace Jr := aJ Jr hb
  clear hb
  obtain ⟨zr_0, zr_1⟩ := cJ Jr
  have f0 := fJ Jr
  have hBut : But (w.heap.size + 1) (U2.alloc (.cells #[(.slice a1 k1 c1), (.slice a2 k2 c2)] 46)) (((U2.alloc (.cells #[(.slice a1 k1 c1), (.slice a2 k2 c2)] 46)).setCell ⟨w.heap.size + 1, 0, none⟩ (.slice a1 k1 c1)).setCell ⟨w.heap.size + 1, 1, none⟩ (.slice a2 k2 c2)) := (((But.refl _ (U2.alloc (.cells #[(.slice a1 k1 c1), (.slice a2 k2 c2)] 46))).setCell 0 (.slice a1 k1 c1)).setCell 1 (.slice a2 k2 c2))
  have I4 : Hid (IHolds _ (w.heap.size + 1) 46 [(.slice a1 k1 c1), (.slice a2 k2 c2)]) := ((Jr.out.set 0 (.slice a1 k1 c1)).set 1 (.slice a2 k2 c2))
  replace B : Hid (Below w.heap.size w (((U2.alloc (.cells #[(.slice a1 k1 c1), (.slice a2 k2 c2)] 46)).setCell ⟨w.heap.size + 1, 0, none⟩ (.slice a1 k1 c1)).setCell ⟨w.heap.size + 1, 1, none⟩ (.slice a2 k2 c2))) := ((B.out.setCell (by first | exact Nat.le_refl _ | exact ge_r.out | (show w.heap.size ≤ w.heap.size + 1; omega)) _).setCell (by first | exact Nat.le_refl _ | exact ge_r.out | (show w.heap.size ≤ w.heap.size + 1; omega)) _)
  replace Jx := tJ Jx hBut (by first | exact ne_x_r.out | exact fun h => ne_r_x.out h.symm | omega)
  replace Jl := tJ Jl hBut (by first | exact ne_l_r.out | exact fun h => ne_r_l.out h.symm | omega)
  replace Jr := I4
  clear I4 hBut
  go_wp2_with fail
  clear zr_0 zr_1
  clear f0
  generalize (((U2.alloc (.cells #[(.slice a1 k1 c1), (.slice a2 k2 c2)] 46)).setCell ⟨w.heap.size + 1, 0, none⟩ (.slice a1 k1 c1)).setCell ⟨w.heap.size + 1, 1, none⟩ (.slice a2 k2 c2)) = U3 at *
  have E0 : Hid (U3.cell? ⟨w.heap.size + 1, 0, none⟩ = some ((.slice a1 k1 c1))) := IHolds.cell (l := [(.slice a1 k1 c1), (.slice a2 k2 c2)]) (t := 46) (b := w.heap.size + 1) (w := U3) Jr.out 0 (by simp)
  have E1 : Hid (U3.cell? ⟨w.heap.size + 1, 1, none⟩ = some ((.slice a2 k2 c2))) := IHolds.cell (l := [(.slice a1 k1 c1), (.slice a2 k2 c2)]) (t := 46) (b := w.heap.size + 1) (w := U3) Jr.out 1 (by simp)
  exact bodyPost_ret (v := .tuple #[.agg #[(.slice a1 k1 c1), (.slice a2 k2 c2)], .int .i64 2]) (by simp [results, Tryd.results14, go_sem, E0.out, E1.out]) rfl ⟨⟨_, _, _, _, _, _, rfl⟩, B.out⟩
set_option maxRecDepth 100000 in
set_option maxHeartbeats 4000000 in
theorem risk14_zero (n d : ByteArray) (w : World) (nn dd : Nat) (hd : (n.toList == [48]) = true) (C0 : Hid (∀ W, Calls Tryd.prog 31 #[.agg #[.string n, .string d], .int .i64 100] W fun e w' => (∃ u1 u2, e = .returned (.tuple #[.agg #[u1, u2], .bool true]) ∧ NumV w' 10 nn u1 ∧ NumV w' 10 dd u2) ∧ Below W.heap.size W w'))  :
    Calls Tryd.prog 14 #[.agg #[.string n, .string d]] w fun e w' => (∃ a1 k1 c1 a2 k2 c2, e = .returned (.tuple #[.agg #[.slice a1 k1 c1, .slice a2 k2 c2], .int .i64 4])) ∧ Below w.heap.size w w' := by
  go_enter Tryd.func14, Tryd.ntmps14
  go_wp2_with fail
  obtain ⟨U1, hU1⟩ : ∃ X, X = ((w.alloc (.cells #[(.string n), (.string d)] 24)).alloc (.cells #[(.slice none 0 0), (.slice none 0 0)] 46)) := ⟨_, rfl⟩
  have Jx : Hid (IHolds U1 (w.heap.size) 24 [(.string n), (.string d)]) := by
    have q := IHolds.new w 24 [(.string n), (.string d)]
    show IHolds _ _ _ _
    rw [hU1]
    exact (q.alloc _)
  have Jr : Hid (IHolds U1 (w.heap.size + 1) 46 [(.slice none 0 0), (.slice none 0 0)]) := by
    have q := IHolds.new (w.alloc (.cells #[(.string n), (.string d)] 24)) 46 [(.slice none 0 0), (.slice none 0 0)]
    simp only [World.size_alloc, Nat.add_assoc, Nat.reduceAdd] at q
    show IHolds _ _ _ _
    rw [hU1]
    exact q
  have B : Hid (Below w.heap.size w U1) := by
    show Below _ _ _
    rw [hU1]
    exact (((Below.refl _ w).alloc (Nat.le_refl _) _).alloc (by simp only [World.size_alloc]; omega) _)
  rw [← hU1]
  clear hU1
  refine (C0.out U1).mono ?_
  rintro e U2 ⟨⟨x1, x2, rfl, hv, hv'⟩, hb⟩
  have Nx1 : Hid (NumV U2 10 (nn) x1) := hv
  have Nx2 : Hid (NumV U2 10 (dd) x2) := hv'
  clear hv hv'
  replace B := aB B hb
  replace Jx := aJ Jx hb
  replace Jr := aJ Jr hb
  clear hb
  have nr : Hid (w.heap.size + 1 < U2.heap.size) := Jr.out.lt
  obtain ⟨x1_a, x1_l, x1_c, rfl⟩ := sN Nx1
  obtain ⟨x2_a, x2_l, x2_c, rfl⟩ := sN Nx2
  have hb := nB U2 (.cells #[(.slice x1_a x1_l x1_c), (.slice x2_a x2_l x2_c)] 46)
  have Jl : Hid (IHolds (U2.alloc (.cells #[(.slice x1_a x1_l x1_c), (.slice x2_a x2_l x2_c)] 46)) U2.heap.size 46 [(.slice x1_a x1_l x1_c), (.slice x2_a x2_l x2_c)]) := IHolds.new _ _ _
  have ne_x_l := nJ Jx
  have ne_r_l := nJ Jr
  have ge_l : Hid (w.heap.size ≤ U2.heap.size) := B.out.size
  replace B := aB B hb
  replace Jx := aJ Jx hb
  replace Jr := aJ Jr hb
  replace Nx1 := aN Nx1 hb
  replace Nx2 := aN Nx2 hb
  clear hb
  go_wp2_with fail
  generalize (U2.alloc (.cells #[(.slice x1_a x1_l x1_c), (.slice x2_a x2_l x2_c)] 46)) = U3 at *
  generalize U2.heap.size = b4 at *
  have hb := dB U3
  replace B := aB B hb
  replace Jx := aJ Jx hb
  replace Jr := aJ Jr hb
  replace Jl := aJ Jl hb
  replace Nx1 := aN Nx1 hb
  replace Nx2 := aN Nx2 hb
  clear hb
  refine wp_region_held_drew (S := fun W => (IHolds W (w.heap.size) 24 [(.string n), (.string d)]) ∧ (IHolds W (b4) 46 [(.slice x1_a x1_l x1_c), (.slice x2_a x2_l x2_c)])) (by kernel_rfl) ⟨Jx.out, Jl.out⟩ (fun hHeld1 => ?_)
  generalize U3.drew = U5 at *
  refine tk (i := 0) (v := .pointer (some ⟨w.heap.size, 0, none⟩)) rfl (by kernel_rfl) (fun _ _ _ h => h) rfl ?_ hHeld1 ?_
  · intro W hS; go_simp
  simp only [Act.put, y1, y2, y3, y4, y5, y6, y7]
  refine tk (i := 1) (v := (.string n)) rfl (by kernel_rfl) (fun _ _ _ h => h) rfl ?_ hHeld1 ?_
  · intro W hS; obtain ⟨zx_0, zx_1⟩ := c2 hS.1; go_simp
  simp only [Act.put, y1, y2, y3, y4, y5, y6, y7]
  refine tk (i := 2) (v := .bool true) rfl (by kernel_rfl) (fun _ _ _ h => h) rfl ?_ hHeld1 ?_
  · intro W hS; go_simp
  simp only [Act.put, y1, y2, y3, y4, y5, y6, y7]
  refine tk (i := 3) (v := .bool true) rfl (by kernel_rfl) (fun _ _ _ h => h) rfl ?_ hHeld1 ?_
  · intro W hS; go_simp
  simp only [Act.put, y1, y2, y3, y4, y5, y6, y7]
  refine tkU (i := 4) rfl (by kernel_rfl) (fun _ _ _ h => h) (by kernel_rfl) hHeld1 ?_
  simp only [Act.put, y1, y2, y3, y4, y5, y6, y7]
  refine tkU (i := 5) rfl (by kernel_rfl) (fun _ _ _ h => h) (by kernel_rfl) hHeld1 ?_
  simp only [Act.put, y1, y2, y3, y4, y5, y6, y7]
  refine tkU (i := 6) rfl (by kernel_rfl) (fun _ _ _ h => h) (by kernel_rfl) hHeld1 ?_
  simp only [Act.put, y1, y2, y3, y4, y5, y6, y7]
  refine tkU (i := 7) rfl (by kernel_rfl) (fun _ _ _ h => h) (by kernel_rfl) hHeld1 ?_
  simp only [Act.put, y1, y2, y3, y4, y5, y6, y7]
  refine tk (i := 8) (v := .bool true) rfl (by kernel_rfl) (fun _ _ _ h => h) rfl ?_ hHeld1 ?_
  · intro W hS; go_simp
  simp only [Act.put, y1, y2, y3, y4, y5, y6, y7]
  refine wpAnyH_done (by kernel_rfl) ?_ _
  clear hHeld1
  have Kl : Hid (IHolds U5 (b4) 46 [(.slice x1_a x1_l x1_c), (.slice x2_a x2_l x2_c)]) := Jl.out
  obtain ⟨zr_0, zr_1⟩ := cJ Jr
  have f0 := fJ Jr
  have hBut : But (w.heap.size + 1) U5 ((U5.setCell ⟨w.heap.size + 1, 0, none⟩ (.slice x1_a x1_l x1_c)).setCell ⟨w.heap.size + 1, 1, none⟩ (.slice x2_a x2_l x2_c)) := (((But.refl _ U5).setCell 0 (.slice x1_a x1_l x1_c)).setCell 1 (.slice x2_a x2_l x2_c))
  have I4 : Hid (IHolds _ (w.heap.size + 1) 46 [(.slice x1_a x1_l x1_c), (.slice x2_a x2_l x2_c)]) := ((Jr.out.set 0 (.slice x1_a x1_l x1_c)).set 1 (.slice x2_a x2_l x2_c))
  replace B : Hid (Below w.heap.size w ((U5.setCell ⟨w.heap.size + 1, 0, none⟩ (.slice x1_a x1_l x1_c)).setCell ⟨w.heap.size + 1, 1, none⟩ (.slice x2_a x2_l x2_c))) := ((B.out.setCell (by first | exact Nat.le_refl _ | exact ge_r.out | (show w.heap.size ≤ w.heap.size + 1; omega)) _).setCell (by first | exact Nat.le_refl _ | exact ge_r.out | (show w.heap.size ≤ w.heap.size + 1; omega)) _)
  replace Jx := tJ Jx hBut (by first | exact ne_x_r.out | exact fun h => ne_r_x.out h.symm | omega)
  replace Jl := tJ Jl hBut (by first | exact ne_l_r.out | exact fun h => ne_r_l.out h.symm | omega)
  replace Nx1 := tN Nx1 Jr (by simp) hBut
  replace Nx2 := tN Nx2 Jr (by simp) hBut
  replace Jr := I4
  clear I4 hBut
  obtain ⟨zl_0, zl_1⟩ := cJ Kl
  go_wp2_with fail
  clear zl_0 zl_1
  clear Kl
  clear zr_0 zr_1
  clear f0
  generalize ((U5.setCell ⟨w.heap.size + 1, 0, none⟩ (.slice x1_a x1_l x1_c)).setCell ⟨w.heap.size + 1, 1, none⟩ (.slice x2_a x2_l x2_c)) = U6 at *
  have E0 : Hid (U6.cell? ⟨w.heap.size + 1, 0, none⟩ = some ((.slice x1_a x1_l x1_c))) := IHolds.cell (l := [(.slice x1_a x1_l x1_c), (.slice x2_a x2_l x2_c)]) (t := 46) (b := w.heap.size + 1) (w := U6) Jr.out 0 (by simp)
  have E1 : Hid (U6.cell? ⟨w.heap.size + 1, 1, none⟩ = some ((.slice x2_a x2_l x2_c))) := IHolds.cell (l := [(.slice x1_a x1_l x1_c), (.slice x2_a x2_l x2_c)]) (t := 46) (b := w.heap.size + 1) (w := U6) Jr.out 1 (by simp)
  exact bodyPost_ret (v := .tuple #[.agg #[(.slice x1_a x1_l x1_c), (.slice x2_a x2_l x2_c)], .int .i64 4]) (by simp [results, Tryd.results14, go_sem, E0.out, E1.out]) rfl ⟨⟨_, _, _, _, _, _, rfl⟩, B.out⟩
set_option maxRecDepth 100000 in
set_option maxHeartbeats 4000000 in
theorem risk14_more (n d : ByteArray) (w : World) (nn dd : Nat) (z : Int) (hz : 0 < z) (hd : (n.toList == [48]) = false) (C0 : Hid (∀ W, Calls Tryd.prog 31 #[.agg #[.string n, .string d], .int .i64 100] W fun e w' => (∃ u1 u2, e = .returned (.tuple #[.agg #[u1, u2], .bool true]) ∧ NumV w' 10 nn u1 ∧ NumV w' 10 dd u2) ∧ Below W.heap.size W w')) (C17 : Hid (∀ W, Calls Tryd.prog 17 #[.int .i64 1] W fun e w' => (∃ u1 u2, e = .returned (.agg #[u1, u2]) ∧ NumV w' 10 1 u1 ∧ NumV w' 10 1 u2) ∧ Below W.heap.size W w')) (C32 : Hid (∀ W v1 v2 v3 v4, NumV W 10 nn v1 → NumV W 10 dd v2 → NumV W 10 1 v3 → NumV W 10 1 v4 → Calls Tryd.prog 32 #[.agg #[v1, v2], .agg #[v3, v4]] W fun e w' => e = .returned (.int .i64 z) ∧ Below W.heap.size W w'))  :
    Calls Tryd.prog 14 #[.agg #[.string n, .string d]] w fun e w' => (∃ a1 k1 c1 a2 k2 c2, e = .returned (.tuple #[.agg #[.slice a1 k1 c1, .slice a2 k2 c2], .int .i64 4])) ∧ Below w.heap.size w w' := by
  go_enter Tryd.func14, Tryd.ntmps14
  go_wp2_with fail
  obtain ⟨U1, hU1⟩ : ∃ X, X = ((w.alloc (.cells #[(.string n), (.string d)] 24)).alloc (.cells #[(.slice none 0 0), (.slice none 0 0)] 46)) := ⟨_, rfl⟩
  have Jx : Hid (IHolds U1 (w.heap.size) 24 [(.string n), (.string d)]) := by
    have q := IHolds.new w 24 [(.string n), (.string d)]
    show IHolds _ _ _ _
    rw [hU1]
    exact (q.alloc _)
  have Jr : Hid (IHolds U1 (w.heap.size + 1) 46 [(.slice none 0 0), (.slice none 0 0)]) := by
    have q := IHolds.new (w.alloc (.cells #[(.string n), (.string d)] 24)) 46 [(.slice none 0 0), (.slice none 0 0)]
    simp only [World.size_alloc, Nat.add_assoc, Nat.reduceAdd] at q
    show IHolds _ _ _ _
    rw [hU1]
    exact q
  have B : Hid (Below w.heap.size w U1) := by
    show Below _ _ _
    rw [hU1]
    exact (((Below.refl _ w).alloc (Nat.le_refl _) _).alloc (by simp only [World.size_alloc]; omega) _)
  rw [← hU1]
  clear hU1
  refine (C0.out U1).mono ?_
  rintro e U2 ⟨⟨x1, x2, rfl, hv, hv'⟩, hb⟩
  have Nx1 : Hid (NumV U2 10 (nn) x1) := hv
  have Nx2 : Hid (NumV U2 10 (dd) x2) := hv'
  clear hv hv'
  replace B := aB B hb
  replace Jx := aJ Jx hb
  replace Jr := aJ Jr hb
  clear hb
  have nr : Hid (w.heap.size + 1 < U2.heap.size) := Jr.out.lt
  obtain ⟨x1_a, x1_l, x1_c, rfl⟩ := sN Nx1
  obtain ⟨x2_a, x2_l, x2_c, rfl⟩ := sN Nx2
  have hb := nB U2 (.cells #[(.slice x1_a x1_l x1_c), (.slice x2_a x2_l x2_c)] 46)
  have Jl : Hid (IHolds (U2.alloc (.cells #[(.slice x1_a x1_l x1_c), (.slice x2_a x2_l x2_c)] 46)) U2.heap.size 46 [(.slice x1_a x1_l x1_c), (.slice x2_a x2_l x2_c)]) := IHolds.new _ _ _
  have ne_x_l := nJ Jx
  have ne_r_l := nJ Jr
  have ge_l : Hid (w.heap.size ≤ U2.heap.size) := B.out.size
  replace B := aB B hb
  replace Jx := aJ Jx hb
  replace Jr := aJ Jr hb
  replace Nx1 := aN Nx1 hb
  replace Nx2 := aN Nx2 hb
  clear hb
  go_wp2_with fail
  generalize (U2.alloc (.cells #[(.slice x1_a x1_l x1_c), (.slice x2_a x2_l x2_c)] 46)) = U3 at *
  generalize U2.heap.size = b4 at *
  have hb := dB U3
  replace B := aB B hb
  replace Jx := aJ Jx hb
  replace Jr := aJ Jr hb
  replace Jl := aJ Jl hb
  replace Nx1 := aN Nx1 hb
  replace Nx2 := aN Nx2 hb
  clear hb
  refine wp_region_held_drew (S := fun W => (IHolds W (w.heap.size) 24 [(.string n), (.string d)]) ∧ (IHolds W (b4) 46 [(.slice x1_a x1_l x1_c), (.slice x2_a x2_l x2_c)])) (by kernel_rfl) ⟨Jx.out, Jl.out⟩ (fun hHeld1 => ?_)
  generalize U3.drew = U5 at *
  refine tk (i := 0) (v := .pointer (some ⟨w.heap.size, 0, none⟩)) rfl (by kernel_rfl) (fun _ _ _ h => h) rfl ?_ hHeld1 ?_
  · intro W hS; go_simp
  simp only [Act.put, y1, y2, y3, y4, y5, y6, y7]
  refine tk (i := 1) (v := (.string n)) rfl (by kernel_rfl) (fun _ _ _ h => h) rfl ?_ hHeld1 ?_
  · intro W hS; obtain ⟨zx_0, zx_1⟩ := c2 hS.1; go_simp
  simp only [Act.put, y1, y2, y3, y4, y5, y6, y7]
  refine tk (i := 2) (v := .bool false) rfl (by kernel_rfl) (fun _ _ _ h => h) rfl ?_ hHeld1 ?_
  · intro W hS; go_simp
  simp only [Act.put, y1, y2, y3, y4, y5, y6, y7]
  refine tk (i := 3) (v := .bool false) rfl (by kernel_rfl) (fun _ _ _ h => h) rfl ?_ hHeld1 ?_
  · intro W hS; go_simp
  simp only [Act.put, y1, y2, y3, y4, y5, y6, y7]
  refine tk (i := 4) (v := .agg #[(.slice x1_a x1_l x1_c), (.slice x2_a x2_l x2_c)]) rfl (by kernel_rfl) (fun _ _ _ h => h) rfl ?_ hHeld1 ?_
  · intro W hS; obtain ⟨zl_0, zl_1⟩ := c2 hS.2; go_simp
  simp only [Act.put, y1, y2, y3, y4, y5, y6, y7]
  refine wpAnyH_ready (rs := [5]) (by kernel_rfl) (by simp) ?_
  refine AllReadyH.cons rfl (fun K hK => ?_) AllReadyH.nil
  clear hHeld1
  go_simp
  refine (C17.out U5).mono ?_
  rintro e U6 ⟨⟨q1, q2, rfl, hv, hv'⟩, hb⟩
  have Nq1 : Hid (NumV U6 10 (1) q1) := hv
  have Nq2 : Hid (NumV U6 10 (1) q2) := hv'
  clear hv hv'
  replace B := aB B hb
  replace Jx := aJ Jx hb
  replace Jr := aJ Jr hb
  replace Jl := aJ Jl hb
  replace Nx1 := aN Nx1 hb
  replace Nx2 := aN Nx2 hb
  clear hb
  go_wp2_with fail
  refine hK.out _ _ (⟨Jx.out, Jl.out⟩) (fun hHeld2 => ?_)
  clear hK K
  try simp only [Act.put, y1, y2, y3, y4, y5, y6, y7]
  refine wpAnyH_ready (rs := [6]) (by kernel_rfl) (by simp) ?_
  refine AllReadyH.cons rfl (fun K hK => ?_) AllReadyH.nil
  clear hHeld2
  go_simp
  refine (C32.out U6 _ _ _ _ Nx1.out Nx2.out Nq1.out Nq2.out).mono ?_
  rintro e U7 ⟨rfl, hb⟩
  replace B := aB B hb
  replace Jx := aJ Jx hb
  replace Jr := aJ Jr hb
  replace Jl := aJ Jl hb
  replace Nx1 := aN Nx1 hb
  replace Nx2 := aN Nx2 hb
  replace Nq1 := aN Nq1 hb
  replace Nq2 := aN Nq2 hb
  clear hb
  go_wp2_with fail
  refine hK.out _ _ (⟨Jx.out, Jl.out⟩) (fun hHeld3 => ?_)
  clear hK K
  try simp only [Act.put, y1, y2, y3, y4, y5, y6, y7]
  refine tk (i := 7) (v := .bool true) rfl (by kernel_rfl) (fun _ _ _ h => h) rfl ?_ hHeld3 ?_
  · intro W hS; go_simp
  simp only [Act.put, y1, y2, y3, y4, y5, y6, y7]
  refine tk (i := 8) (v := .bool true) rfl (by kernel_rfl) (fun _ _ _ h => h) rfl ?_ hHeld3 ?_
  · intro W hS; go_simp
  simp only [Act.put, y1, y2, y3, y4, y5, y6, y7]
  refine wpAnyH_done (by kernel_rfl) ?_ _
  clear hHeld3
  have Kl : Hid (IHolds U7 (b4) 46 [(.slice x1_a x1_l x1_c), (.slice x2_a x2_l x2_c)]) := Jl.out
  obtain ⟨zr_0, zr_1⟩ := cJ Jr
  have f0 := fJ Jr
  have hBut : But (w.heap.size + 1) U7 ((U7.setCell ⟨w.heap.size + 1, 0, none⟩ (.slice x1_a x1_l x1_c)).setCell ⟨w.heap.size + 1, 1, none⟩ (.slice x2_a x2_l x2_c)) := (((But.refl _ U7).setCell 0 (.slice x1_a x1_l x1_c)).setCell 1 (.slice x2_a x2_l x2_c))
  have I4 : Hid (IHolds _ (w.heap.size + 1) 46 [(.slice x1_a x1_l x1_c), (.slice x2_a x2_l x2_c)]) := ((Jr.out.set 0 (.slice x1_a x1_l x1_c)).set 1 (.slice x2_a x2_l x2_c))
  replace B : Hid (Below w.heap.size w ((U7.setCell ⟨w.heap.size + 1, 0, none⟩ (.slice x1_a x1_l x1_c)).setCell ⟨w.heap.size + 1, 1, none⟩ (.slice x2_a x2_l x2_c))) := ((B.out.setCell (by first | exact Nat.le_refl _ | exact ge_r.out | (show w.heap.size ≤ w.heap.size + 1; omega)) _).setCell (by first | exact Nat.le_refl _ | exact ge_r.out | (show w.heap.size ≤ w.heap.size + 1; omega)) _)
  replace Jx := tJ Jx hBut (by first | exact ne_x_r.out | exact fun h => ne_r_x.out h.symm | omega)
  replace Jl := tJ Jl hBut (by first | exact ne_l_r.out | exact fun h => ne_r_l.out h.symm | omega)
  replace Nx1 := tN Nx1 Jr (by simp) hBut
  replace Nx2 := tN Nx2 Jr (by simp) hBut
  replace Nq1 := tN Nq1 Jr (by simp) hBut
  replace Nq2 := tN Nq2 Jr (by simp) hBut
  replace Jr := I4
  clear I4 hBut
  obtain ⟨zl_0, zl_1⟩ := cJ Kl
  go_wp2_with fail
  clear zl_0 zl_1
  clear Kl
  clear zr_0 zr_1
  clear f0
  generalize ((U7.setCell ⟨w.heap.size + 1, 0, none⟩ (.slice x1_a x1_l x1_c)).setCell ⟨w.heap.size + 1, 1, none⟩ (.slice x2_a x2_l x2_c)) = U8 at *
  have E0 : Hid (U8.cell? ⟨w.heap.size + 1, 0, none⟩ = some ((.slice x1_a x1_l x1_c))) := IHolds.cell (l := [(.slice x1_a x1_l x1_c), (.slice x2_a x2_l x2_c)]) (t := 46) (b := w.heap.size + 1) (w := U8) Jr.out 0 (by simp)
  have E1 : Hid (U8.cell? ⟨w.heap.size + 1, 1, none⟩ = some ((.slice x2_a x2_l x2_c))) := IHolds.cell (l := [(.slice x1_a x1_l x1_c), (.slice x2_a x2_l x2_c)]) (t := 46) (b := w.heap.size + 1) (w := U8) Jr.out 1 (by simp)
  exact bodyPost_ret (v := .tuple #[.agg #[(.slice x1_a x1_l x1_c), (.slice x2_a x2_l x2_c)], .int .i64 4]) (by simp [results, Tryd.results14, go_sem, E0.out, E1.out]) rfl ⟨⟨_, _, _, _, _, _, rfl⟩, B.out⟩
set_option maxRecDepth 100000 in
set_option maxHeartbeats 4000000 in
theorem risk14_ok (n d : ByteArray) (w : World) (nn dd : Nat) (z : Int) (hz : ¬ 0 < z) (hd : (n.toList == [48]) = false) (C0 : Hid (∀ W, Calls Tryd.prog 31 #[.agg #[.string n, .string d], .int .i64 100] W fun e w' => (∃ u1 u2, e = .returned (.tuple #[.agg #[u1, u2], .bool true]) ∧ NumV w' 10 nn u1 ∧ NumV w' 10 dd u2) ∧ Below W.heap.size W w')) (C17 : Hid (∀ W, Calls Tryd.prog 17 #[.int .i64 1] W fun e w' => (∃ u1 u2, e = .returned (.agg #[u1, u2]) ∧ NumV w' 10 1 u1 ∧ NumV w' 10 1 u2) ∧ Below W.heap.size W w')) (C32 : Hid (∀ W v1 v2 v3 v4, NumV W 10 nn v1 → NumV W 10 dd v2 → NumV W 10 1 v3 → NumV W 10 1 v4 → Calls Tryd.prog 32 #[.agg #[v1, v2], .agg #[v3, v4]] W fun e w' => e = .returned (.int .i64 z) ∧ Below W.heap.size W w'))  :
    Calls Tryd.prog 14 #[.agg #[.string n, .string d]] w fun e w' => (∃ a1 k1 c1 a2 k2 c2, e = .returned (.tuple #[.agg #[.slice a1 k1 c1, .slice a2 k2 c2], .int .i64 0])) ∧ Below w.heap.size w w' := by
  go_enter Tryd.func14, Tryd.ntmps14
  go_wp2_with fail
  obtain ⟨U1, hU1⟩ : ∃ X, X = ((w.alloc (.cells #[(.string n), (.string d)] 24)).alloc (.cells #[(.slice none 0 0), (.slice none 0 0)] 46)) := ⟨_, rfl⟩
  have Jx : Hid (IHolds U1 (w.heap.size) 24 [(.string n), (.string d)]) := by
    have q := IHolds.new w 24 [(.string n), (.string d)]
    show IHolds _ _ _ _
    rw [hU1]
    exact (q.alloc _)
  have Jr : Hid (IHolds U1 (w.heap.size + 1) 46 [(.slice none 0 0), (.slice none 0 0)]) := by
    have q := IHolds.new (w.alloc (.cells #[(.string n), (.string d)] 24)) 46 [(.slice none 0 0), (.slice none 0 0)]
    simp only [World.size_alloc, Nat.add_assoc, Nat.reduceAdd] at q
    show IHolds _ _ _ _
    rw [hU1]
    exact q
  have B : Hid (Below w.heap.size w U1) := by
    show Below _ _ _
    rw [hU1]
    exact (((Below.refl _ w).alloc (Nat.le_refl _) _).alloc (by simp only [World.size_alloc]; omega) _)
  rw [← hU1]
  clear hU1
  refine (C0.out U1).mono ?_
  rintro e U2 ⟨⟨x1, x2, rfl, hv, hv'⟩, hb⟩
  have Nx1 : Hid (NumV U2 10 (nn) x1) := hv
  have Nx2 : Hid (NumV U2 10 (dd) x2) := hv'
  clear hv hv'
  replace B := aB B hb
  replace Jx := aJ Jx hb
  replace Jr := aJ Jr hb
  clear hb
  have nr : Hid (w.heap.size + 1 < U2.heap.size) := Jr.out.lt
  obtain ⟨x1_a, x1_l, x1_c, rfl⟩ := sN Nx1
  obtain ⟨x2_a, x2_l, x2_c, rfl⟩ := sN Nx2
  have hb := nB U2 (.cells #[(.slice x1_a x1_l x1_c), (.slice x2_a x2_l x2_c)] 46)
  have Jl : Hid (IHolds (U2.alloc (.cells #[(.slice x1_a x1_l x1_c), (.slice x2_a x2_l x2_c)] 46)) U2.heap.size 46 [(.slice x1_a x1_l x1_c), (.slice x2_a x2_l x2_c)]) := IHolds.new _ _ _
  have ne_x_l := nJ Jx
  have ne_r_l := nJ Jr
  have ge_l : Hid (w.heap.size ≤ U2.heap.size) := B.out.size
  replace B := aB B hb
  replace Jx := aJ Jx hb
  replace Jr := aJ Jr hb
  replace Nx1 := aN Nx1 hb
  replace Nx2 := aN Nx2 hb
  clear hb
  go_wp2_with fail
  generalize (U2.alloc (.cells #[(.slice x1_a x1_l x1_c), (.slice x2_a x2_l x2_c)] 46)) = U3 at *
  generalize U2.heap.size = b4 at *
  have hb := dB U3
  replace B := aB B hb
  replace Jx := aJ Jx hb
  replace Jr := aJ Jr hb
  replace Jl := aJ Jl hb
  replace Nx1 := aN Nx1 hb
  replace Nx2 := aN Nx2 hb
  clear hb
  refine wp_region_held_drew (S := fun W => (IHolds W (w.heap.size) 24 [(.string n), (.string d)]) ∧ (IHolds W (b4) 46 [(.slice x1_a x1_l x1_c), (.slice x2_a x2_l x2_c)])) (by kernel_rfl) ⟨Jx.out, Jl.out⟩ (fun hHeld1 => ?_)
  generalize U3.drew = U5 at *
  refine tk (i := 0) (v := .pointer (some ⟨w.heap.size, 0, none⟩)) rfl (by kernel_rfl) (fun _ _ _ h => h) rfl ?_ hHeld1 ?_
  · intro W hS; go_simp
  simp only [Act.put, y1, y2, y3, y4, y5, y6, y7]
  refine tk (i := 1) (v := (.string n)) rfl (by kernel_rfl) (fun _ _ _ h => h) rfl ?_ hHeld1 ?_
  · intro W hS; obtain ⟨zx_0, zx_1⟩ := c2 hS.1; go_simp
  simp only [Act.put, y1, y2, y3, y4, y5, y6, y7]
  refine tk (i := 2) (v := .bool false) rfl (by kernel_rfl) (fun _ _ _ h => h) rfl ?_ hHeld1 ?_
  · intro W hS; go_simp
  simp only [Act.put, y1, y2, y3, y4, y5, y6, y7]
  refine tk (i := 3) (v := .bool false) rfl (by kernel_rfl) (fun _ _ _ h => h) rfl ?_ hHeld1 ?_
  · intro W hS; go_simp
  simp only [Act.put, y1, y2, y3, y4, y5, y6, y7]
  refine tk (i := 4) (v := .agg #[(.slice x1_a x1_l x1_c), (.slice x2_a x2_l x2_c)]) rfl (by kernel_rfl) (fun _ _ _ h => h) rfl ?_ hHeld1 ?_
  · intro W hS; obtain ⟨zl_0, zl_1⟩ := c2 hS.2; go_simp
  simp only [Act.put, y1, y2, y3, y4, y5, y6, y7]
  refine wpAnyH_ready (rs := [5]) (by kernel_rfl) (by simp) ?_
  refine AllReadyH.cons rfl (fun K hK => ?_) AllReadyH.nil
  clear hHeld1
  go_simp
  refine (C17.out U5).mono ?_
  rintro e U6 ⟨⟨q1, q2, rfl, hv, hv'⟩, hb⟩
  have Nq1 : Hid (NumV U6 10 (1) q1) := hv
  have Nq2 : Hid (NumV U6 10 (1) q2) := hv'
  clear hv hv'
  replace B := aB B hb
  replace Jx := aJ Jx hb
  replace Jr := aJ Jr hb
  replace Jl := aJ Jl hb
  replace Nx1 := aN Nx1 hb
  replace Nx2 := aN Nx2 hb
  clear hb
  go_wp2_with fail
  refine hK.out _ _ (⟨Jx.out, Jl.out⟩) (fun hHeld2 => ?_)
  clear hK K
  try simp only [Act.put, y1, y2, y3, y4, y5, y6, y7]
  refine wpAnyH_ready (rs := [6]) (by kernel_rfl) (by simp) ?_
  refine AllReadyH.cons rfl (fun K hK => ?_) AllReadyH.nil
  clear hHeld2
  go_simp
  refine (C32.out U6 _ _ _ _ Nx1.out Nx2.out Nq1.out Nq2.out).mono ?_
  rintro e U7 ⟨rfl, hb⟩
  replace B := aB B hb
  replace Jx := aJ Jx hb
  replace Jr := aJ Jr hb
  replace Jl := aJ Jl hb
  replace Nx1 := aN Nx1 hb
  replace Nx2 := aN Nx2 hb
  replace Nq1 := aN Nq1 hb
  replace Nq2 := aN Nq2 hb
  clear hb
  go_wp2_with fail
  refine hK.out _ _ (⟨Jx.out, Jl.out⟩) (fun hHeld3 => ?_)
  clear hK K
  try simp only [Act.put, y1, y2, y3, y4, y5, y6, y7]
  refine tk (i := 7) (v := .bool false) rfl (by kernel_rfl) (fun _ _ _ h => h) rfl ?_ hHeld3 ?_
  · intro W hS; go_simp
  simp only [Act.put, y1, y2, y3, y4, y5, y6, y7]
  refine tk (i := 8) (v := .bool false) rfl (by kernel_rfl) (fun _ _ _ h => h) rfl ?_ hHeld3 ?_
  · intro W hS; go_simp
  simp only [Act.put, y1, y2, y3, y4, y5, y6, y7]
  refine wpAnyH_done (by kernel_rfl) ?_ _
  clear hHeld3
  have Kl : Hid (IHolds U7 (b4) 46 [(.slice x1_a x1_l x1_c), (.slice x2_a x2_l x2_c)]) := Jl.out
  obtain ⟨zr_0, zr_1⟩ := cJ Jr
  have f0 := fJ Jr
  have hBut : But (w.heap.size + 1) U7 ((U7.setCell ⟨w.heap.size + 1, 0, none⟩ (.slice x1_a x1_l x1_c)).setCell ⟨w.heap.size + 1, 1, none⟩ (.slice x2_a x2_l x2_c)) := (((But.refl _ U7).setCell 0 (.slice x1_a x1_l x1_c)).setCell 1 (.slice x2_a x2_l x2_c))
  have I4 : Hid (IHolds _ (w.heap.size + 1) 46 [(.slice x1_a x1_l x1_c), (.slice x2_a x2_l x2_c)]) := ((Jr.out.set 0 (.slice x1_a x1_l x1_c)).set 1 (.slice x2_a x2_l x2_c))
  replace B : Hid (Below w.heap.size w ((U7.setCell ⟨w.heap.size + 1, 0, none⟩ (.slice x1_a x1_l x1_c)).setCell ⟨w.heap.size + 1, 1, none⟩ (.slice x2_a x2_l x2_c))) := ((B.out.setCell (by first | exact Nat.le_refl _ | exact ge_r.out | (show w.heap.size ≤ w.heap.size + 1; omega)) _).setCell (by first | exact Nat.le_refl _ | exact ge_r.out | (show w.heap.size ≤ w.heap.size + 1; omega)) _)
  replace Jx := tJ Jx hBut (by first | exact ne_x_r.out | exact fun h => ne_r_x.out h.symm | omega)
  replace Jl := tJ Jl hBut (by first | exact ne_l_r.out | exact fun h => ne_r_l.out h.symm | omega)
  replace Nx1 := tN Nx1 Jr (by simp) hBut
  replace Nx2 := tN Nx2 Jr (by simp) hBut
  replace Nq1 := tN Nq1 Jr (by simp) hBut
  replace Nq2 := tN Nq2 Jr (by simp) hBut
  replace Jr := I4
  clear I4 hBut
  obtain ⟨zl_0, zl_1⟩ := cJ Kl
  go_wp2_with fail
  clear zl_0 zl_1
  clear Kl
  clear zr_0 zr_1
  clear f0
  generalize ((U7.setCell ⟨w.heap.size + 1, 0, none⟩ (.slice x1_a x1_l x1_c)).setCell ⟨w.heap.size + 1, 1, none⟩ (.slice x2_a x2_l x2_c)) = U8 at *
  have E0 : Hid (U8.cell? ⟨w.heap.size + 1, 0, none⟩ = some ((.slice x1_a x1_l x1_c))) := IHolds.cell (l := [(.slice x1_a x1_l x1_c), (.slice x2_a x2_l x2_c)]) (t := 46) (b := w.heap.size + 1) (w := U8) Jr.out 0 (by simp)
  have E1 : Hid (U8.cell? ⟨w.heap.size + 1, 1, none⟩ = some ((.slice x2_a x2_l x2_c))) := IHolds.cell (l := [(.slice x1_a x1_l x1_c), (.slice x2_a x2_l x2_c)]) (t := 46) (b := w.heap.size + 1) (w := U8) Jr.out 1 (by simp)
  exact bodyPost_ret (v := .tuple #[.agg #[(.slice x1_a x1_l x1_c), (.slice x2_a x2_l x2_c)], .int .i64 0]) (by simp [results, Tryd.results14, go_sem, E0.out, E1.out]) rfl ⟨⟨_, _, _, _, _, _, rfl⟩, B.out⟩
theorem risk14 (n d : ByteArray) (w : World) :
    Calls Tryd.prog 14 #[.agg #[.string n, .string d]] w fun e w' => (∃ a1 k1 c1 a2 k2 c2, e = .returned (.tuple #[.agg #[.slice a1 k1 c1, .slice a2 k2 c2], .int .i64 (rkC n d)])) ∧ Below w.heap.size w w' := by
  unfold rkC
  by_cases h1 : rsB n d = false
  · rw [if_pos h1]
    exact risk14_no n d w (fun W => frac31_not n d W h1)
  · have h1' : rsB n d = true := by simpa using h1
    rw [if_neg h1]
    have h := h1'
    unfold rsB at h
    simp only [Bool.and_eq_true, decide_eq_true_eq] at h
    obtain ⟨s1, s2, a1, a2, h0, hg⟩ := h
    have L1 := ten_short a1 s1
    have L2 := ten_short a2 s2
    by_cases h3 : bv n.data.toList = 0
    · rw [if_pos (Or.inl h3)]
      have hd0 : n = ⟨#[48]⟩ := by rw [zeroT, ← h3]; exact T_of n a1
      exact risk14_zero n d w _ _ (toList_yes n [48] hd0) (fun W => frac31_yes n d W h1')
    · have hd := toList_no n [48] (fun h => h3 (by rw [h]; exact T_bv 0))
      have o1 : (dg 10 1).length ≤ 400000 := by rw [dg_pos ten (by omega)]; simp [dg_zero]
      have K : ∀ W v1 v2 v3 v4, NumV W 10 (bv n.data.toList) v1 → NumV W 10 (bv d.data.toList) v2 → NumV W 10 1 v3 → NumV W 10 1 v4 → _ := fun W v1 v2 v3 v4 g1 g2 g3 g4 => refOrderV ⟨g1, g2, g3, g4⟩ (by omega) (by omega) o1 o1
      by_cases h4 : bv d.data.toList < bv n.data.toList
      · rw [if_pos (Or.inr h4)]
        exact risk14_more n d w _ _ _ (cmp_one.2 h4) hd (fun W => frac31_yes n d W h1') (fun W => refWhole_any W 1 (by omega)) K
      · rw [if_neg (fun q => q.elim h3 h4)]
        exact risk14_ok n d w _ _ _ (fun q => h4 (cmp_one.1 q)) hd (fun W => frac31_yes n d W h1') (fun W => refWhole_any W 1 (by omega)) K
end Go.Proofs.YtflabehlaiocaaaDoor
