/- The document's Share. -/
import Derived.Test.YtflabehlaiocaaaDoorGi
import Derived.Test.YtflabehlaiocaaaDoorBaseE
set_option linter.unusedSimpArgs false
set_option linter.unusedVariables false
set_option maxRecDepth 100000
namespace Go.Proofs.YtflabehlaiocaaaDoor
open Go.RowKit Go.Deep Go.PlainAid

set_option maxHeartbeats 4000000 in
theorem refOf_more (w : World) (n : Nat) (hn : n ≤ 9000000) :
    Calls Tryd.prog 35 #[.int .i64 (n : Int)] w fun e w' => (∃ v, e = .returned v ∧ NumV w' 10 n v) ∧ Below w.heap.size w w' := by
  obtain ⟨i0, hi0, hz0, hz1, hz2⟩ := info_parts Tryd.info3
  have LN : (dg 10 n).length ≤ 7 := dg_len_le ten 7 n (by omega)
  go_enter Tryd.func35, Tryd.ntmps35
  go_wp2_with fail
  go_loopg [0, 3] n (fun gk v0 v3 wr => ∃ (D : List Nat) (v : Value), v0 = .int .i64 (gk : Int) ∧ v = v3 ∧ gk ≤ 9000000 ∧ D ++ dg 10 gk = dg 10 n ∧ wr.ownsRow w.heap.size 3 1 v D.length (zs D) ∧ Below w.heap.size w wr)
  case atStart => exact ⟨[], _, rfl, rfl, hn, rfl, World.ownsRow_nil _ _ _ _, Below.refl _ _⟩
  case round =>
    obtain ⟨D, v, rfl, rfl, hk, hD, ho, hB⟩ := hrel
    have HDD : Hid (D ++ dg 10 gk = dg 10 n) := hD
    have HO : Hid (wr.ownsRow w.heap.size 3 1 v D.length (zs D)) := ho
    have HB : Hid (Below w.heap.size w wr) := hB
    have HL : D.length ≤ 7 := by
      have := congrArg List.length hD
      rw [List.length_append] at this
      omega
    clear hD ho hB
    generalize gk = x at *
    by_cases h0 : x = 0
    · subst h0
      have hDe : D = dg 10 n := by
        have := HDD.out
        rw [dg_zero, List.append_nil] at this
        exact this
      have HR : Hid (NumV wr 10 n v) := by
        obtain ⟨a, cap, e1, g1, g2, g3⟩ := Row.of_owned HO.out
        rw [hDe] at e1 g1 g3
        exact ⟨a, cap, e1, g1, g3⟩
      clear HDD HO hDe
      go_wp2_with fail
      go_ret
      exact ⟨⟨_, rfl, HR.out⟩, HB.out⟩
    · have hx0 : (0 : Int) < (x : Int) := by omega
      have HE : Hid (D ++ [x % 10] ++ dg 10 (x / 10) = dg 10 n) := by
        show _ = _
        rw [← HDD.out, dg_pos ten h0, List.append_assoc]; rfl
      have HM : Hid (x / 10 < x) := Nat.div_lt_self (by omega) (by omega)
      have HK : Hid (x / 10 ≤ 9000000) := by show _ ≤ _; omega
      have kr : (x : Int).tmod 10 = ((x % 10 : Nat) : Int) := by rw [Int.tmod_eq_emod_of_nonneg (by omega)]; omega
      have kr2 : (x : Int) % 10 = ((x % 10 : Nat) : Int) := by omega
      have kq : (x : Int) / 10 = ((x / 10 : Nat) : Int) := by omega
      have kq2 : (x : Int).tdiv 10 = ((x / 10 : Nat) : Int) := by rw [Int.tdiv_eq_ediv_of_nonneg (by omega)]; omega
      have y10 : x % 10 < 10 := by omega
      have q10 : x / 10 ≤ 9000000 := by omega
      generalize x % 10 = y at *
      generalize x / 10 = q at *
      have HO2 : Hid ((wr.alloc (.cells #[.int .i64 (y : Int)] 3)).ownsRow w.heap.size 3 1 v D.length (zs D)) := HO.out.alloc _
      have HC2 : Hid (∀ jj u, [I y][jj]? = some u → (wr.alloc (.cells #[.int .i64 (y : Int)] 3)).cell? ((⟨wr.heap.size, 0, none⟩ : Addr).add jj) = some u) := fun jj u hu => by
        match jj, hu with
        | 0, hu => simp at hu; subst hu; simp [Addr.add]
      have HB2 : Hid (Below w.heap.size w (wr.alloc (.cells #[.int .i64 (y : Int)] 3))) := HB.out.alloc HB.out.size _
      clear HDD
      go_wp2_with (at_builtin; refine wpList_append_own _ rfl (.tmp 6) (.tmp 9) 44 rfl w.heap.size 3 i0 (.int .i64 0) 1 8 Tryd.underlying44 hi0 hz0 hz1 hz2 rfl (by decide) v D.length (zs D) rfl HO2.out ⟨wr.heap.size, 0, none⟩ 1 1 [I y] rfl rfl HC2.out (fun u hu => by simp at hu; subst hu; rfl) (by unfold maxLen; omega) (by omega) HB2.out.size ?_; intro v1 w1 hown1 hgrow1 hn1; have HO3 : Hid (w1.ownsRow w.heap.size 3 1 v1 (D.length + 1) (zs D ++ [I y])) := hown1; have HG3 : Hid (Below w.heap.size w w1) := HB2.out.grown hgrow1 HB2.out.size (fun k hk => (HO2.out.lt k hk).1); clear hown1 hgrow1 hn1)
      go_roundg q
      case measure => exact HM.out
      case rel => exact ⟨D ++ [y], _, by go_num, rfl, HK.out, HE.out, by rw [zs_append, List.length_append]; exact HO3.out, HG3.out⟩

set_option maxRecDepth 100000 in
set_option maxHeartbeats 4000000 in
theorem share16_walk {m k N D : Nat} {w : World} (C1 : Hid (∀ W, Calls Tryd.prog 35 #[.int .i64 (m : Int)] W fun e w' => (∃ v, e = .returned v ∧ NumV w' 10 (m) v) ∧ Below W.heap.size W w')) (C2 : Hid (∀ W, Calls Tryd.prog 35 #[.int .i64 (wrap64 ((m : Int) + (k : Int)))] W fun e w' => (∃ v, e = .returned v ∧ NumV w' 10 (m + k) v) ∧ Below W.heap.size W w')) (C3 : Hid (∀ W v1 v2, NumV W 10 m v1 → NumV W 10 (m + k) v2 → Calls Tryd.prog 34 #[v1, v2] W fun e w' => (∃ u1 u2, e = .returned (.agg #[u1, u2]) ∧ NumV w' 10 N u1 ∧ NumV w' 10 D u2) ∧ Below W.heap.size W w')) :
    Calls Tryd.prog 16 #[.int .i64 (m : Int), .int .i64 (k : Int)] w fun e w' => (∃ u1 u2, e = .returned (.agg #[u1, u2]) ∧ NumV w' 10 N u1 ∧ NumV w' 10 D u2) ∧ Below w.heap.size w w' := by
  go_enter Tryd.func16, Tryd.ntmps16
  go_wp2_with fail
  obtain ⟨U1, hU1⟩ : ∃ X, X = (w.alloc (.cells #[(.slice none 0 0), (.slice none 0 0)] 46)) := ⟨_, rfl⟩
  have Jr : Hid (IHolds U1 (w.heap.size) 46 [(.slice none 0 0), (.slice none 0 0)]) := by
    have q := IHolds.new w 46 [(.slice none 0 0), (.slice none 0 0)]
    show IHolds _ _ _ _
    rw [hU1]
    exact q
  have B : Hid (Below w.heap.size w U1) := by
    show Below _ _ _
    rw [hU1]
    exact ((Below.refl _ w).alloc (Nat.le_refl _) _)
  rw [← hU1]
  clear hU1
  refine (C1.out U1).mono ?_
  rintro e U2 ⟨⟨x1, rfl, hv⟩, hb⟩
  have Nx1 : Hid (NumV U2 10 (m) x1) := hv
  clear hv
  replace B := aB B hb
  replace Jr := aJ Jr hb
  clear hb
  go_wp2_with fail
  refine (C2.out U2).mono ?_
  rintro e U3 ⟨⟨x2, rfl, hv⟩, hb⟩
  have Nx2 : Hid (NumV U3 10 (m + k) x2) := hv
  clear hv
  replace B := aB B hb
  replace Jr := aJ Jr hb
  replace Nx1 := aN Nx1 hb
  clear hb
  go_wp2_with fail
  refine (C3.out U3 _ _ Nx1.out Nx2.out).mono ?_
  rintro e U4 ⟨⟨u1, u2, rfl, hv, hv'⟩, hb⟩
  have Nu1 : Hid (NumV U4 10 (N) u1) := hv
  have Nu2 : Hid (NumV U4 10 (D) u2) := hv'
  clear hv hv'
  replace B := aB B hb
  replace Jr := aJ Jr hb
  replace Nx1 := aN Nx1 hb
  replace Nx2 := aN Nx2 hb
  clear hb
  obtain ⟨u1_a, u1_l, u1_c, rfl⟩ := sN Nu1
  obtain ⟨u2_a, u2_l, u2_c, rfl⟩ := sN Nu2
  obtain ⟨zr_0, zr_1⟩ := cJ Jr
  have f0 := fJ Jr
  have hBut : But (w.heap.size) U4 ((U4.setCell ⟨w.heap.size, 0, none⟩ (.slice u1_a u1_l u1_c)).setCell ⟨w.heap.size, 1, none⟩ (.slice u2_a u2_l u2_c)) := (((But.refl _ U4).setCell 0 (.slice u1_a u1_l u1_c)).setCell 1 (.slice u2_a u2_l u2_c))
  have I4 : Hid (IHolds _ (w.heap.size) 46 [(.slice u1_a u1_l u1_c), (.slice u2_a u2_l u2_c)]) := ((Jr.out.set 0 (.slice u1_a u1_l u1_c)).set 1 (.slice u2_a u2_l u2_c))
  replace B : Hid (Below w.heap.size w ((U4.setCell ⟨w.heap.size, 0, none⟩ (.slice u1_a u1_l u1_c)).setCell ⟨w.heap.size, 1, none⟩ (.slice u2_a u2_l u2_c))) := ((B.out.setCell (by first | exact Nat.le_refl _ | exact ge_r.out | (show w.heap.size ≤ w.heap.size; omega)) _).setCell (by first | exact Nat.le_refl _ | exact ge_r.out | (show w.heap.size ≤ w.heap.size; omega)) _)
  replace Nx1 := tN Nx1 Jr (by simp) hBut
  replace Nx2 := tN Nx2 Jr (by simp) hBut
  replace Nu1 := tN Nu1 Jr (by simp) hBut
  replace Nu2 := tN Nu2 Jr (by simp) hBut
  replace Jr := I4
  clear I4 hBut
  go_wp2_with fail
  clear zr_0 zr_1
  clear f0
  generalize ((U4.setCell ⟨w.heap.size, 0, none⟩ (.slice u1_a u1_l u1_c)).setCell ⟨w.heap.size, 1, none⟩ (.slice u2_a u2_l u2_c)) = U5 at *
  have E0 : Hid (U5.cell? ⟨w.heap.size, 0, none⟩ = some ((.slice u1_a u1_l u1_c))) := IHolds.cell (l := [(.slice u1_a u1_l u1_c), (.slice u2_a u2_l u2_c)]) (t := 46) (b := w.heap.size) (w := U5) Jr.out 0 (by simp)
  have E1 : Hid (U5.cell? ⟨w.heap.size, 1, none⟩ = some ((.slice u2_a u2_l u2_c))) := IHolds.cell (l := [(.slice u1_a u1_l u1_c), (.slice u2_a u2_l u2_c)]) (t := 46) (b := w.heap.size) (w := U5) Jr.out 1 (by simp)
  exact bodyPost_ret (v := .agg #[(.slice u1_a u1_l u1_c), (.slice u2_a u2_l u2_c)]) (by simp [results, Tryd.results16, go_sem, E0.out, E1.out]) rfl ⟨⟨_, _, rfl, Nu1.out, Nu2.out⟩, B.out⟩
theorem share16 {m k : Nat} {w : World} (hm : m ≤ 1048576) (hk : k ≤ 1048576) (h0 : m + k ≠ 0) :
    Calls Tryd.prog 16 #[.int .i64 (m : Int), .int .i64 (k : Int)] w fun e w' => (∃ u1 u2, e = .returned (.agg #[u1, u2]) ∧ NumV w' 10 (m / Nat.gcd m (m + k)) u1 ∧ NumV w' 10 ((m + k) / Nat.gcd m (m + k)) u2) ∧ Below w.heap.size w w' := by
  have e : wrap64 ((m : Int) + (k : Int)) = ((m + k : Nat) : Int) := by unfold wrap64; omega
  refine share16_walk (fun W => refOf_more W m (by omega)) (fun W => by rw [e]; exact refOf_more W (m + k) (by omega)) (fun W v1 v2 g1 g2 => refLowestV g1 g2 h0 ?_ ?_)
  · exact Nat.le_trans (dg_len_le ten 7 m (by omega)) (by omega)
  · exact Nat.le_trans (dg_len_le ten 7 (m + k) (by omega)) (by omega)
end Go.Proofs.YtflabehlaiocaaaDoor
