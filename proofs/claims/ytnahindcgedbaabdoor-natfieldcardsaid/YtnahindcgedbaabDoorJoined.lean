/- The walk of joined: sums and differences of fractions. -/
import Derived.Test.YtnahindcgedbaabDoorBaseF
import Derived.Test.YtnahindcgedbaabDoorAid
import Derived.Test.YtnahindcgedbaabDoorJoinPlain
set_option linter.unusedSimpArgs false
set_option linter.unusedVariables false
namespace Go.Proofs.YtnahindcgedbaabDoor
open Go.RowKit Go.Deep Go.PlainAid

theorem plusV {W : World} {n m : Nat} {v1 v2 : Value} (h1 : NumV W 1000000000 n v1) (h2 : NumV W 1000000000 m v2) (b1 : (dg 1000000000 n).length ≤ 1000000) (b2 : (dg 1000000000 m).length ≤ 1000000) :
    Calls Tryd.prog 41 #[v1, v2] W fun e w' => (∃ v, e = .returned v ∧ NumV w' 1000000000 (n + m) v) ∧ Below W.heap.size W w' := by
  obtain ⟨a1, c1, rfl, k1, r1⟩ := h1
  obtain ⟨a2, c2, rfl, k2, r2⟩ := h2
  exact plus_any W a1 a2 c1 c2 n m r1 r2 b1 b2
theorem minusV {W : World} {n m : Nat} {v1 v2 : Value} (h1 : NumV W 1000000000 n v1) (h2 : NumV W 1000000000 m v2) (b1 : (dg 1000000000 n).length ≤ 1000000) (b2 : (dg 1000000000 m).length ≤ 1000000) (h : m ≤ n) :
    Calls Tryd.prog 36 #[v1, v2] W fun e w' => (∃ v, e = .returned v ∧ NumV w' 1000000000 (n - m) v) ∧ Below W.heap.size W w' := by
  obtain ⟨a1, c1, rfl, k1, r1⟩ := h1
  obtain ⟨a2, c2, rfl, k2, r2⟩ := h2
  exact minus_any W a1 a2 c1 c2 n m r1 r2 (by omega) h

set_option maxRecDepth 100000 in
set_option maxHeartbeats 4000000 in
theorem joinedPlusV {w : World} {n1 d1 n2 d2 : Nat} {p1 p2 p3 p4 : Value} (hN : NumV w 1000000000 n1 p1 ∧ NumV w 1000000000 d1 p2 ∧ NumV w 1000000000 n2 p3 ∧ NumV w 1000000000 d2 p4)
    (l1 : (dg 1000000000 n1).length ≤ 400000) (l2 : (dg 1000000000 d1).length ≤ 400000) (l3 : (dg 1000000000 n2).length ≤ 400000) (l4 : (dg 1000000000 d2).length ≤ 400000) (h1 : d1 ≠ 0) (h2 : d2 ≠ 0) :
    Calls Tryd.prog 35 #[.agg #[p1, p2], .agg #[p3, p4], .func (.func 41) #[] #[]] w fun e w' => (∃ u1 u2, e = .returned (.agg #[u1, u2]) ∧ NumV w' 1000000000 ((n1 * (d2 / Nat.gcd d1 d2) + n2 * (d1 / Nat.gcd d1 d2)) / Nat.gcd (n1 * (d2 / Nat.gcd d1 d2) + n2 * (d1 / Nat.gcd d1 d2)) (Nat.gcd d1 d2)) u1 ∧ NumV w' 1000000000 (d1 / Nat.gcd d1 d2 * (d2 / Nat.gcd (n1 * (d2 / Nat.gcd d1 d2) + n2 * (d1 / Nat.gcd d1 d2)) (Nat.gcd d1 d2))) u2) ∧ Below w.heap.size w w' := by
  obtain ⟨q1, q2, q3, q4⟩ := hN
  have Q1 : Hid (∀ W, Below w.heap.size w W → NumV W 1000000000 (n1) p1) := fun W hW => q1.of_below hW
  have Q2 : Hid (∀ W, Below w.heap.size w W → NumV W 1000000000 (d1) p2) := fun W hW => q2.of_below hW
  have Q3 : Hid (∀ W, Below w.heap.size w W → NumV W 1000000000 (n2) p3) := fun W hW => q3.of_below hW
  have Q4 : Hid (∀ W, Below w.heap.size w W → NumV W 1000000000 (d2) p4) := fun W hW => q4.of_below hW
  clear q1 q2 q3 q4
  obtain ⟨c, hc⟩ : ∃ c, c = Nat.gcd d1 d2 := ⟨_, rfl⟩
  have c0 : c ≠ 0 := by have := Nat.gcd_pos_of_pos_left d2 (Nat.pos_of_ne_zero h1); omega
  have cl : (dg 1000000000 c).length ≤ 400000 := Nat.le_trans (dg_len_mono bigBase (by rw [hc]; exact Nat.gcd_le_left d2 (Nat.pos_of_ne_zero h1))) l2
  rw [← hc]
  obtain ⟨fr, hfr⟩ : ∃ f, f = d1 / c := ⟨_, rfl⟩
  obtain ⟨gr, hgr⟩ : ∃ f, f = d2 / c := ⟨_, rfl⟩
  have frl : (dg 1000000000 fr).length ≤ 400000 := Nat.le_trans (dg_len_mono bigBase (by rw [hfr]; exact Nat.div_le_self _ _)) l2
  have grl : (dg 1000000000 gr).length ≤ 400000 := Nat.le_trans (dg_len_mono bigBase (by rw [hgr]; exact Nat.div_le_self _ _)) l4
  rw [← hfr, ← hgr]
  have x1l := dg_len_mul bigBase n1 gr
  have x2l := dg_len_mul bigBase n2 fr
  obtain ⟨x1, hx1⟩ : ∃ f, f = n1 * gr := ⟨_, rfl⟩
  obtain ⟨x2, hx2⟩ : ∃ f, f = n2 * fr := ⟨_, rfl⟩
  rw [← hx1] at x1l
  rw [← hx2] at x2l
  rw [← hx1, ← hx2]
  obtain ⟨num, hnum⟩ : ∃ f, f = x1 + x2 := ⟨_, rfl⟩
  rw [← hnum]
  have numl : (dg 1000000000 num).length ≤ 800001 := by rw [hnum]; exact dg_len_add _ _ 800000 (by omega) (by omega)
  obtain ⟨mo, hmo⟩ : ∃ f, f = Nat.gcd num c := ⟨_, rfl⟩
  rw [← hmo]
  have m0 : mo ≠ 0 := by have := Nat.gcd_pos_of_pos_right num (Nat.pos_of_ne_zero c0); omega
  have ml : (dg 1000000000 mo).length ≤ 400000 := Nat.le_trans (dg_len_mono bigBase (by rw [hmo]; exact Nat.gcd_le_right num (Nat.pos_of_ne_zero c0))) cl
  obtain ⟨r2, hr2⟩ : ∃ f, f = d2 / mo := ⟨_, rfl⟩
  rw [← hr2]
  have r2l : (dg 1000000000 r2).length ≤ 400000 := Nat.le_trans (dg_len_mono bigBase (by rw [hr2]; exact Nat.div_le_self _ _)) l4
  have C1 : Hid (∀ W, Below w.heap.size w W → Calls Tryd.prog 44 #[p2, p4] W fun e w' => (∃ v, e = .returned v ∧ NumV w' 1000000000 (c) v) ∧ Below W.heap.size W w') := fun W hW => by rw [hc]; exact gcdV (Q2.out W hW) (Q4.out W hW) (by omega) (by omega)
  have C2 : Hid (∀ W v, Below w.heap.size w W → NumV W 1000000000 (c) v → Calls Tryd.prog 50 #[p2, v] W fun e w' => (∃ v, e = .returned v ∧ NumV w' 1000000000 (fr) v) ∧ Below W.heap.size W w') := fun W v hW g1 => by rw [hfr]; exact byV (Q2.out W hW) g1 c0 (by omega) (by omega)
  have C3 : Hid (∀ W v, Below w.heap.size w W → NumV W 1000000000 (c) v → Calls Tryd.prog 50 #[p4, v] W fun e w' => (∃ v, e = .returned v ∧ NumV w' 1000000000 (gr) v) ∧ Below W.heap.size W w') := fun W v hW g1 => by rw [hgr]; exact byV (Q4.out W hW) g1 c0 (by omega) (by omega)
  have C4 : Hid (∀ W v, Below w.heap.size w W → NumV W 1000000000 (gr) v → Calls Tryd.prog 33 #[p1, v] W fun e w' => (∃ v, e = .returned v ∧ NumV w' 1000000000 (x1) v) ∧ Below W.heap.size W w') := fun W v hW g1 => by rw [hx1]; exact timesV (Q1.out W hW) g1 (by omega) (by omega)
  have C5 : Hid (∀ W v, Below w.heap.size w W → NumV W 1000000000 (fr) v → Calls Tryd.prog 33 #[p3, v] W fun e w' => (∃ v, e = .returned v ∧ NumV w' 1000000000 (x2) v) ∧ Below W.heap.size W w') := fun W v hW g1 => by rw [hx2]; exact timesV (Q3.out W hW) g1 (by omega) (by omega)
  have C6 : Hid (∀ W v v', Below w.heap.size w W → NumV W 1000000000 (x1) v → NumV W 1000000000 (x2) v' → Calls Tryd.prog 41 #[v, v'] W fun e w' => (∃ v, e = .returned v ∧ NumV w' 1000000000 (num) v) ∧ Below W.heap.size W w') := fun W v v' hW g1 g2 => by rw [hnum]; exact plusV g1 g2 (by omega) (by omega)
  have C7 : Hid (∀ W v v', Below w.heap.size w W → NumV W 1000000000 (num) v → NumV W 1000000000 (c) v' → Calls Tryd.prog 44 #[v, v'] W fun e w' => (∃ v, e = .returned v ∧ NumV w' 1000000000 (mo) v) ∧ Below W.heap.size W w') := fun W v v' hW g1 g2 => by rw [hmo]; exact gcdV g1 g2 (by omega) (by omega)
  have C8 : Hid (∀ W v v', Below w.heap.size w W → NumV W 1000000000 (num) v → NumV W 1000000000 (mo) v' → Calls Tryd.prog 50 #[v, v'] W fun e w' => (∃ v, e = .returned v ∧ NumV w' 1000000000 (num / mo) v) ∧ Below W.heap.size W w') := fun W v v' hW g1 g2 => byV g1 g2 m0 (by omega) (by omega)
  have C9 : Hid (∀ W v, Below w.heap.size w W → NumV W 1000000000 (mo) v → Calls Tryd.prog 50 #[p4, v] W fun e w' => (∃ v, e = .returned v ∧ NumV w' 1000000000 (r2) v) ∧ Below W.heap.size W w') := fun W v hW g1 => by rw [hr2]; exact byV (Q4.out W hW) g1 m0 (by omega) (by omega)
  have C10 : Hid (∀ W v v', Below w.heap.size w W → NumV W 1000000000 (fr) v → NumV W 1000000000 (r2) v' → Calls Tryd.prog 33 #[v, v'] W fun e w' => (∃ v, e = .returned v ∧ NumV w' 1000000000 (fr * r2) v) ∧ Below W.heap.size W w') := fun W v v' hW g1 g2 => timesV g1 g2 (by omega) (by omega)
  generalize num / mo = r1 at *
  generalize fr * r2 = r3 at *
  clear hc cl hfr hgr frl grl hx1 hx2 x1l x2l hnum numl hmo ml hr2 r2l c0 m0 l1 l2 l3 l4 h1 h2 Q1 Q2 Q3 Q4
  go_enter Tryd.func35, Tryd.ntmps35
  go_wp2_with fail
  obtain ⟨U1, hU1⟩ : ∃ X, X = (((w.alloc (.cells #[p1, p2] 38)).alloc (.cells #[p3, p4] 38)).alloc (.cells #[(.slice none 0 0), (.slice none 0 0)] 38)) := ⟨_, rfl⟩
  have Jf : Hid (IHolds U1 (w.heap.size) 38 [p1, p2]) := by
    have q := IHolds.new w 38 [p1, p2]
    show IHolds _ _ _ _
    rw [hU1]
    exact ((q.alloc _).alloc _)
  have Jg : Hid (IHolds U1 (w.heap.size + 1) 38 [p3, p4]) := by
    have q := IHolds.new (w.alloc (.cells #[p1, p2] 38)) 38 [p3, p4]
    simp only [World.size_alloc, Nat.add_assoc, Nat.reduceAdd] at q
    show IHolds _ _ _ _
    rw [hU1]
    exact (q.alloc _)
  have Jr : Hid (IHolds U1 (w.heap.size + 2) 38 [(.slice none 0 0), (.slice none 0 0)]) := by
    have q := IHolds.new ((w.alloc (.cells #[p1, p2] 38)).alloc (.cells #[p3, p4] 38)) 38 [(.slice none 0 0), (.slice none 0 0)]
    simp only [World.size_alloc, Nat.add_assoc, Nat.reduceAdd] at q
    show IHolds _ _ _ _
    rw [hU1]
    exact q
  have B : Hid (Below w.heap.size w U1) := by
    show Below _ _ _
    rw [hU1]
    exact ((((Below.refl _ w).alloc (Nat.le_refl _) _).alloc (by simp only [World.size_alloc]; omega) _).alloc (by simp only [World.size_alloc]; omega) _)
  rw [← hU1]
  clear hU1
  obtain ⟨zf_0, zf_1⟩ := cJ Jf
  obtain ⟨zg_0, zg_1⟩ := cJ Jg
  go_wp2_with fail
  clear zf_0 zf_1 zg_0 zg_1
  refine (C1.out U1 B.out).mono ?_
  rintro e U2 ⟨⟨yc, rfl, hv⟩, hb⟩
  have Nyc : Hid (NumV U2 1000000000 (c) yc) := hv
  clear hv
  replace B := aB B hb
  replace Jf := aJ Jf hb
  replace Jg := aJ Jg hb
  replace Jr := aJ Jr hb
  clear hb
  go_wp2_with fail
  have hb := dB U2
  replace B := aB B hb
  replace Jf := aJ Jf hb
  replace Jg := aJ Jg hb
  replace Jr := aJ Jr hb
  replace Nyc := aN Nyc hb
  clear hb
  refine wp_region_held_drew (S := fun W => (IHolds W (w.heap.size) 38 [p1, p2]) ∧ (IHolds W (w.heap.size + 1) 38 [p3, p4])) (by kernel_rfl) ⟨Jf.out, Jg.out⟩ (fun hHeld1 => ?_)
  generalize U2.drew = U3 at *
  refine tk (i := 0) (v := .pointer (some ⟨w.heap.size, 1, none⟩)) rfl (by kernel_rfl) (fun _ _ _ h => h) rfl ?_ hHeld1 ?_
  · intro W hS; go_simp
  simp only [Act.put, y1, y2, y3, y4, y5, y6, y7]
  refine tk (i := 2) (v := yc) rfl (by kernel_rfl) (fun _ _ _ h => h) rfl ?_ hHeld1 ?_
  · intro W hS; go_simp
  simp only [Act.put, y1, y2, y3, y4, y5, y6, y7]
  refine tk (i := 4) (v := .pointer (some ⟨w.heap.size + 1, 1, none⟩)) rfl (by kernel_rfl) (fun _ _ _ h => h) rfl ?_ hHeld1 ?_
  · intro W hS; go_simp
  simp only [Act.put, y1, y2, y3, y4, y5, y6, y7]
  refine tk (i := 6) (v := yc) rfl (by kernel_rfl) (fun _ _ _ h => h) rfl ?_ hHeld1 ?_
  · intro W hS; go_simp
  simp only [Act.put, y1, y2, y3, y4, y5, y6, y7]
  refine tk (i := 1) (v := p2) rfl (by kernel_rfl) (fun _ _ _ h => h) rfl ?_ hHeld1 ?_
  · intro W hS; obtain ⟨zf_0, zf_1⟩ := c2 hS.1; go_simp
  simp only [Act.put, y1, y2, y3, y4, y5, y6, y7]
  refine tk (i := 5) (v := p4) rfl (by kernel_rfl) (fun _ _ _ h => h) rfl ?_ hHeld1 ?_
  · intro W hS; obtain ⟨zg_0, zg_1⟩ := c2 hS.2; go_simp
  simp only [Act.put, y1, y2, y3, y4, y5, y6, y7]
  refine wpAnyH_ready (rs := [3]) (by kernel_rfl) (by simp) ?_
  refine AllReadyH.cons rfl (fun K hK => ?_) AllReadyH.nil
  clear hHeld1
  go_simp
  refine (C2.out U3 yc B.out Nyc.out).mono ?_
  rintro e U4 ⟨⟨yf, rfl, hv⟩, hb⟩
  have Nyf : Hid (NumV U4 1000000000 (fr) yf) := hv
  clear hv
  replace B := aB B hb
  replace Jf := aJ Jf hb
  replace Jg := aJ Jg hb
  replace Jr := aJ Jr hb
  replace Nyc := aN Nyc hb
  clear hb
  go_wp2_with fail
  refine hK.out _ _ (⟨Jf.out, Jg.out⟩) (fun hHeld2 => ?_)
  clear hK K
  try simp only [Act.put, y1, y2, y3, y4, y5, y6, y7]
  refine wpAnyH_ready (rs := [7]) (by kernel_rfl) (by simp) ?_
  refine AllReadyH.cons rfl (fun K hK => ?_) AllReadyH.nil
  clear hHeld2
  go_simp
  refine (C3.out U4 yc B.out Nyc.out).mono ?_
  rintro e U5 ⟨⟨yg, rfl, hv⟩, hb⟩
  have Nyg : Hid (NumV U5 1000000000 (gr) yg) := hv
  clear hv
  replace B := aB B hb
  replace Jf := aJ Jf hb
  replace Jg := aJ Jg hb
  replace Jr := aJ Jr hb
  replace Nyc := aN Nyc hb
  replace Nyf := aN Nyf hb
  clear hb
  go_wp2_with fail
  refine hK.out _ _ (⟨Jf.out, Jg.out⟩) (fun hHeld3 => ?_)
  clear hK K
  try simp only [Act.put, y1, y2, y3, y4, y5, y6, y7]
  refine tk (i := 8) (v := yf) rfl (by kernel_rfl) (fun _ _ _ h => h) rfl ?_ hHeld3 ?_
  · intro W hS; go_simp
  simp only [Act.put, y1, y2, y3, y4, y5, y6, y7]
  refine tk (i := 9) (v := yg) rfl (by kernel_rfl) (fun _ _ _ h => h) rfl ?_ hHeld3 ?_
  · intro W hS; go_simp
  simp only [Act.put, y1, y2, y3, y4, y5, y6, y7]
  refine wpAnyH_done (by kernel_rfl) ?_ _
  clear hHeld3
  go_wp2_with fail
  have hb := dB U5
  replace B := aB B hb
  replace Jf := aJ Jf hb
  replace Jg := aJ Jg hb
  replace Jr := aJ Jr hb
  replace Nyc := aN Nyc hb
  replace Nyf := aN Nyf hb
  replace Nyg := aN Nyg hb
  clear hb
  refine wp_region_held_drew (S := fun W => (IHolds W (w.heap.size) 38 [p1, p2]) ∧ (IHolds W (w.heap.size + 1) 38 [p3, p4])) (by kernel_rfl) ⟨Jf.out, Jg.out⟩ (fun hHeld4 => ?_)
  generalize U5.drew = U6 at *
  refine tk (i := 0) (v := .func (.func 41) #[] #[]) rfl (by kernel_rfl) (fun _ _ _ h => h) rfl ?_ hHeld4 ?_
  · intro W hS; go_simp
  simp only [Act.put, y1, y2, y3, y4, y5, y6, y7]
  refine tk (i := 1) (v := .pointer (some ⟨w.heap.size, 0, none⟩)) rfl (by kernel_rfl) (fun _ _ _ h => h) rfl ?_ hHeld4 ?_
  · intro W hS; go_simp
  simp only [Act.put, y1, y2, y3, y4, y5, y6, y7]
  refine tk (i := 3) (v := yg) rfl (by kernel_rfl) (fun _ _ _ h => h) rfl ?_ hHeld4 ?_
  · intro W hS; go_simp
  simp only [Act.put, y1, y2, y3, y4, y5, y6, y7]
  refine tk (i := 5) (v := .pointer (some ⟨w.heap.size + 1, 0, none⟩)) rfl (by kernel_rfl) (fun _ _ _ h => h) rfl ?_ hHeld4 ?_
  · intro W hS; go_simp
  simp only [Act.put, y1, y2, y3, y4, y5, y6, y7]
  refine tk (i := 7) (v := yf) rfl (by kernel_rfl) (fun _ _ _ h => h) rfl ?_ hHeld4 ?_
  · intro W hS; go_simp
  simp only [Act.put, y1, y2, y3, y4, y5, y6, y7]
  refine tk (i := 2) (v := p1) rfl (by kernel_rfl) (fun _ _ _ h => h) rfl ?_ hHeld4 ?_
  · intro W hS; obtain ⟨zf_0, zf_1⟩ := c2 hS.1; go_simp
  simp only [Act.put, y1, y2, y3, y4, y5, y6, y7]
  refine tk (i := 6) (v := p3) rfl (by kernel_rfl) (fun _ _ _ h => h) rfl ?_ hHeld4 ?_
  · intro W hS; obtain ⟨zg_0, zg_1⟩ := c2 hS.2; go_simp
  simp only [Act.put, y1, y2, y3, y4, y5, y6, y7]
  refine wpAnyH_ready (rs := [4]) (by kernel_rfl) (by simp) ?_
  refine AllReadyH.cons rfl (fun K hK => ?_) AllReadyH.nil
  clear hHeld4
  go_simp
  refine (C4.out U6 yg B.out Nyg.out).mono ?_
  rintro e U7 ⟨⟨ya, rfl, hv⟩, hb⟩
  have Nya : Hid (NumV U7 1000000000 (x1) ya) := hv
  clear hv
  replace B := aB B hb
  replace Jf := aJ Jf hb
  replace Jg := aJ Jg hb
  replace Jr := aJ Jr hb
  replace Nyc := aN Nyc hb
  replace Nyf := aN Nyf hb
  replace Nyg := aN Nyg hb
  clear hb
  go_wp2_with fail
  refine hK.out _ _ (⟨Jf.out, Jg.out⟩) (fun hHeld5 => ?_)
  clear hK K
  try simp only [Act.put, y1, y2, y3, y4, y5, y6, y7]
  refine wpAnyH_ready (rs := [8]) (by kernel_rfl) (by simp) ?_
  refine AllReadyH.cons rfl (fun K hK => ?_) AllReadyH.nil
  clear hHeld5
  go_simp
  refine (C5.out U7 yf B.out Nyf.out).mono ?_
  rintro e U8 ⟨⟨yb, rfl, hv⟩, hb⟩
  have Nyb : Hid (NumV U8 1000000000 (x2) yb) := hv
  clear hv
  replace B := aB B hb
  replace Jf := aJ Jf hb
  replace Jg := aJ Jg hb
  replace Jr := aJ Jr hb
  replace Nyc := aN Nyc hb
  replace Nyf := aN Nyf hb
  replace Nyg := aN Nyg hb
  replace Nya := aN Nya hb
  clear hb
  go_wp2_with fail
  refine hK.out _ _ (⟨Jf.out, Jg.out⟩) (fun hHeld6 => ?_)
  clear hK K
  try simp only [Act.put, y1, y2, y3, y4, y5, y6, y7]
  refine wpAnyH_ready (rs := [9]) (by kernel_rfl) (by simp) ?_
  refine AllReadyH.cons rfl (fun K hK => ?_) AllReadyH.nil
  clear hHeld6
  go_simp
  refine (C6.out U8 ya yb B.out Nya.out Nyb.out).mono ?_
  rintro e U9 ⟨⟨yn, rfl, hv⟩, hb⟩
  have Nyn : Hid (NumV U9 1000000000 (num) yn) := hv
  clear hv
  replace B := aB B hb
  replace Jf := aJ Jf hb
  replace Jg := aJ Jg hb
  replace Jr := aJ Jr hb
  replace Nyc := aN Nyc hb
  replace Nyf := aN Nyf hb
  replace Nyg := aN Nyg hb
  replace Nya := aN Nya hb
  replace Nyb := aN Nyb hb
  clear hb
  go_wp2_with fail
  refine hK.out _ _ (⟨Jf.out, Jg.out⟩) (fun hHeld7 => ?_)
  clear hK K
  try simp only [Act.put, y1, y2, y3, y4, y5, y6, y7]
  refine tk (i := 10) (v := yn) rfl (by kernel_rfl) (fun _ _ _ h => h) rfl ?_ hHeld7 ?_
  · intro W hS; go_simp
  simp only [Act.put, y1, y2, y3, y4, y5, y6, y7]
  refine wpAnyH_done (by kernel_rfl) ?_ _
  clear hHeld7
  go_wp2_with fail
  refine (C7.out U9 yn yc B.out Nyn.out Nyc.out).mono ?_
  rintro e U10 ⟨⟨ym, rfl, hv⟩, hb⟩
  have Nym : Hid (NumV U10 1000000000 (mo) ym) := hv
  clear hv
  replace B := aB B hb
  replace Jf := aJ Jf hb
  replace Jg := aJ Jg hb
  replace Jr := aJ Jr hb
  replace Nyc := aN Nyc hb
  replace Nyf := aN Nyf hb
  replace Nyg := aN Nyg hb
  replace Nya := aN Nya hb
  replace Nyb := aN Nyb hb
  replace Nyn := aN Nyn hb
  clear hb
  go_wp2_with fail
  have hb := dB U10
  replace B := aB B hb
  replace Jf := aJ Jf hb
  replace Jg := aJ Jg hb
  replace Jr := aJ Jr hb
  replace Nyc := aN Nyc hb
  replace Nyf := aN Nyf hb
  replace Nyg := aN Nyg hb
  replace Nya := aN Nya hb
  replace Nyb := aN Nyb hb
  replace Nyn := aN Nyn hb
  replace Nym := aN Nym hb
  clear hb
  refine wp_region_held_drew (S := fun W => (IHolds W (w.heap.size) 38 [p1, p2]) ∧ (IHolds W (w.heap.size + 1) 38 [p3, p4])) (by kernel_rfl) ⟨Jf.out, Jg.out⟩ (fun hHeld8 => ?_)
  generalize U10.drew = U11 at *
  refine tk (i := 0) (v := yn) rfl (by kernel_rfl) (fun _ _ _ h => h) rfl ?_ hHeld8 ?_
  · intro W hS; go_simp
  simp only [Act.put, y1, y2, y3, y4, y5, y6, y7]
  refine tk (i := 1) (v := ym) rfl (by kernel_rfl) (fun _ _ _ h => h) rfl ?_ hHeld8 ?_
  · intro W hS; go_simp
  simp only [Act.put, y1, y2, y3, y4, y5, y6, y7]
  refine tk (i := 3) (v := yf) rfl (by kernel_rfl) (fun _ _ _ h => h) rfl ?_ hHeld8 ?_
  · intro W hS; go_simp
  simp only [Act.put, y1, y2, y3, y4, y5, y6, y7]
  refine tk (i := 4) (v := .pointer (some ⟨w.heap.size + 1, 1, none⟩)) rfl (by kernel_rfl) (fun _ _ _ h => h) rfl ?_ hHeld8 ?_
  · intro W hS; go_simp
  simp only [Act.put, y1, y2, y3, y4, y5, y6, y7]
  refine tk (i := 6) (v := ym) rfl (by kernel_rfl) (fun _ _ _ h => h) rfl ?_ hHeld8 ?_
  · intro W hS; go_simp
  simp only [Act.put, y1, y2, y3, y4, y5, y6, y7]
  refine tk (i := 5) (v := p4) rfl (by kernel_rfl) (fun _ _ _ h => h) rfl ?_ hHeld8 ?_
  · intro W hS; obtain ⟨zg_0, zg_1⟩ := c2 hS.2; go_simp
  simp only [Act.put, y1, y2, y3, y4, y5, y6, y7]
  refine wpAnyH_ready (rs := [2]) (by kernel_rfl) (by simp) ?_
  refine AllReadyH.cons rfl (fun K hK => ?_) AllReadyH.nil
  clear hHeld8
  go_simp
  refine (C8.out U11 yn ym B.out Nyn.out Nym.out).mono ?_
  rintro e U12 ⟨⟨u1, rfl, hv⟩, hb⟩
  have Nu1 : Hid (NumV U12 1000000000 (r1) u1) := hv
  clear hv
  replace B := aB B hb
  replace Jf := aJ Jf hb
  replace Jg := aJ Jg hb
  replace Jr := aJ Jr hb
  replace Nyc := aN Nyc hb
  replace Nyf := aN Nyf hb
  replace Nyg := aN Nyg hb
  replace Nya := aN Nya hb
  replace Nyb := aN Nyb hb
  replace Nyn := aN Nyn hb
  replace Nym := aN Nym hb
  clear hb
  go_wp2_with fail
  refine hK.out _ _ (⟨Jf.out, Jg.out⟩) (fun hHeld9 => ?_)
  clear hK K
  try simp only [Act.put, y1, y2, y3, y4, y5, y6, y7]
  refine wpAnyH_ready (rs := [7]) (by kernel_rfl) (by simp) ?_
  refine AllReadyH.cons rfl (fun K hK => ?_) AllReadyH.nil
  clear hHeld9
  go_simp
  refine (C9.out U12 ym B.out Nym.out).mono ?_
  rintro e U13 ⟨⟨yr, rfl, hv⟩, hb⟩
  have Nyr : Hid (NumV U13 1000000000 (r2) yr) := hv
  clear hv
  replace B := aB B hb
  replace Jf := aJ Jf hb
  replace Jg := aJ Jg hb
  replace Jr := aJ Jr hb
  replace Nyc := aN Nyc hb
  replace Nyf := aN Nyf hb
  replace Nyg := aN Nyg hb
  replace Nya := aN Nya hb
  replace Nyb := aN Nyb hb
  replace Nyn := aN Nyn hb
  replace Nym := aN Nym hb
  replace Nu1 := aN Nu1 hb
  clear hb
  go_wp2_with fail
  refine hK.out _ _ (⟨Jf.out, Jg.out⟩) (fun hHeld10 => ?_)
  clear hK K
  try simp only [Act.put, y1, y2, y3, y4, y5, y6, y7]
  refine wpAnyH_ready (rs := [8]) (by kernel_rfl) (by simp) ?_
  refine AllReadyH.cons rfl (fun K hK => ?_) AllReadyH.nil
  clear hHeld10
  go_simp
  refine (C10.out U13 yf yr B.out Nyf.out Nyr.out).mono ?_
  rintro e U14 ⟨⟨u2, rfl, hv⟩, hb⟩
  have Nu2 : Hid (NumV U14 1000000000 (r3) u2) := hv
  clear hv
  replace B := aB B hb
  replace Jf := aJ Jf hb
  replace Jg := aJ Jg hb
  replace Jr := aJ Jr hb
  replace Nyc := aN Nyc hb
  replace Nyf := aN Nyf hb
  replace Nyg := aN Nyg hb
  replace Nya := aN Nya hb
  replace Nyb := aN Nyb hb
  replace Nyn := aN Nyn hb
  replace Nym := aN Nym hb
  replace Nu1 := aN Nu1 hb
  replace Nyr := aN Nyr hb
  clear hb
  go_wp2_with fail
  refine hK.out _ _ (⟨Jf.out, Jg.out⟩) (fun hHeld11 => ?_)
  clear hK K
  try simp only [Act.put, y1, y2, y3, y4, y5, y6, y7]
  obtain ⟨u1_a, u1_l, u1_c, rfl⟩ := sN Nu1
  obtain ⟨u2_a, u2_l, u2_c, rfl⟩ := sN Nu2
  refine tk (i := 9) (v := .agg #[(.slice u1_a u1_l u1_c), (.slice u2_a u2_l u2_c)]) rfl (by kernel_rfl) (fun _ _ _ h => h) rfl ?_ hHeld11 ?_
  · intro W hS; go_simp
  simp only [Act.put, y1, y2, y3, y4, y5, y6, y7]
  refine wpAnyH_ready (rs := [10]) (by kernel_rfl) (by simp) ?_
  refine AllReadyH.cons rfl (fun K hK => ?_) AllReadyH.nil
  clear hHeld11
  obtain ⟨zr_0, zr_1⟩ := cJ Jr
  have f0 := fJ Jr
  have hBut : But (w.heap.size + 2) U14 ((U14.setCell ⟨w.heap.size + 2, 0, none⟩ (.slice u1_a u1_l u1_c)).setCell ⟨w.heap.size + 2, 1, none⟩ (.slice u2_a u2_l u2_c)) := (((But.refl _ U14).setCell 0 (.slice u1_a u1_l u1_c)).setCell 1 (.slice u2_a u2_l u2_c))
  have I4 : Hid (IHolds _ (w.heap.size + 2) 38 [(.slice u1_a u1_l u1_c), (.slice u2_a u2_l u2_c)]) := ((Jr.out.set 0 (.slice u1_a u1_l u1_c)).set 1 (.slice u2_a u2_l u2_c))
  replace B : Hid (Below w.heap.size w ((U14.setCell ⟨w.heap.size + 2, 0, none⟩ (.slice u1_a u1_l u1_c)).setCell ⟨w.heap.size + 2, 1, none⟩ (.slice u2_a u2_l u2_c))) := ((B.out.setCell (by first | exact Nat.le_refl _ | exact ge_r.out | (show w.heap.size ≤ w.heap.size + 2; omega)) _).setCell (by first | exact Nat.le_refl _ | exact ge_r.out | (show w.heap.size ≤ w.heap.size + 2; omega)) _)
  replace Jf := tJ Jf hBut (by omega)
  replace Jg := tJ Jg hBut (by omega)
  replace Nyc := tN Nyc Jr (by simp) hBut
  replace Nyf := tN Nyf Jr (by simp) hBut
  replace Nyg := tN Nyg Jr (by simp) hBut
  replace Nya := tN Nya Jr (by simp) hBut
  replace Nyb := tN Nyb Jr (by simp) hBut
  replace Nyn := tN Nyn Jr (by simp) hBut
  replace Nym := tN Nym Jr (by simp) hBut
  replace Nu1 := tN Nu1 Jr (by simp) hBut
  replace Nyr := tN Nyr Jr (by simp) hBut
  replace Nu2 := tN Nu2 Jr (by simp) hBut
  replace Jr := I4
  clear I4 hBut
  go_simp
  try go_wp2_with fail
  clear zr_0 zr_1
  clear f0
  generalize ((U14.setCell ⟨w.heap.size + 2, 0, none⟩ (.slice u1_a u1_l u1_c)).setCell ⟨w.heap.size + 2, 1, none⟩ (.slice u2_a u2_l u2_c)) = U15 at *
  refine hK.out _ _ (⟨Jf.out, Jg.out⟩) (fun hHeld12 => ?_)
  clear hK K
  try simp only [Act.put, y1, y2, y3, y4, y5, y6, y7]
  refine wpAnyH_done (by kernel_rfl) ?_ _
  clear hHeld12
  go_wp2_with fail
  have E0 : Hid (U15.cell? ⟨w.heap.size + 2, 0, none⟩ = some ((.slice u1_a u1_l u1_c))) := IHolds.cell (l := [(.slice u1_a u1_l u1_c), (.slice u2_a u2_l u2_c)]) (t := 38) (b := w.heap.size + 2) (w := U15) Jr.out 0 (by simp)
  have E1 : Hid (U15.cell? ⟨w.heap.size + 2, 1, none⟩ = some ((.slice u2_a u2_l u2_c))) := IHolds.cell (l := [(.slice u1_a u1_l u1_c), (.slice u2_a u2_l u2_c)]) (t := 38) (b := w.heap.size + 2) (w := U15) Jr.out 1 (by simp)
  exact bodyPost_ret (v := .agg #[(.slice u1_a u1_l u1_c), (.slice u2_a u2_l u2_c)]) (by simp [results, Tryd.results35, go_sem, E0.out, E1.out]) rfl ⟨⟨_, _, rfl, Nu1.out, Nu2.out⟩, B.out⟩

set_option maxRecDepth 100000 in
set_option maxHeartbeats 4000000 in
theorem joinedMinusV {w : World} {n1 d1 n2 d2 : Nat} {p1 p2 p3 p4 : Value} (hN : NumV w 1000000000 n1 p1 ∧ NumV w 1000000000 d1 p2 ∧ NumV w 1000000000 n2 p3 ∧ NumV w 1000000000 d2 p4)
    (l1 : (dg 1000000000 n1).length ≤ 400000) (l2 : (dg 1000000000 d1).length ≤ 400000) (l3 : (dg 1000000000 n2).length ≤ 400000) (l4 : (dg 1000000000 d2).length ≤ 400000) (h1 : d1 ≠ 0) (h2 : d2 ≠ 0) (hle : n2 * (d1 / Nat.gcd d1 d2) ≤ n1 * (d2 / Nat.gcd d1 d2)) :
    Calls Tryd.prog 35 #[.agg #[p1, p2], .agg #[p3, p4], .func (.func 36) #[] #[]] w fun e w' => (∃ u1 u2, e = .returned (.agg #[u1, u2]) ∧ NumV w' 1000000000 ((n1 * (d2 / Nat.gcd d1 d2) - n2 * (d1 / Nat.gcd d1 d2)) / Nat.gcd (n1 * (d2 / Nat.gcd d1 d2) - n2 * (d1 / Nat.gcd d1 d2)) (Nat.gcd d1 d2)) u1 ∧ NumV w' 1000000000 (d1 / Nat.gcd d1 d2 * (d2 / Nat.gcd (n1 * (d2 / Nat.gcd d1 d2) - n2 * (d1 / Nat.gcd d1 d2)) (Nat.gcd d1 d2))) u2) ∧ Below w.heap.size w w' := by
  obtain ⟨q1, q2, q3, q4⟩ := hN
  have Q1 : Hid (∀ W, Below w.heap.size w W → NumV W 1000000000 (n1) p1) := fun W hW => q1.of_below hW
  have Q2 : Hid (∀ W, Below w.heap.size w W → NumV W 1000000000 (d1) p2) := fun W hW => q2.of_below hW
  have Q3 : Hid (∀ W, Below w.heap.size w W → NumV W 1000000000 (n2) p3) := fun W hW => q3.of_below hW
  have Q4 : Hid (∀ W, Below w.heap.size w W → NumV W 1000000000 (d2) p4) := fun W hW => q4.of_below hW
  clear q1 q2 q3 q4
  obtain ⟨c, hc⟩ : ∃ c, c = Nat.gcd d1 d2 := ⟨_, rfl⟩
  have c0 : c ≠ 0 := by have := Nat.gcd_pos_of_pos_left d2 (Nat.pos_of_ne_zero h1); omega
  have cl : (dg 1000000000 c).length ≤ 400000 := Nat.le_trans (dg_len_mono bigBase (by rw [hc]; exact Nat.gcd_le_left d2 (Nat.pos_of_ne_zero h1))) l2
  rw [← hc] at hle
  rw [← hc]
  obtain ⟨fr, hfr⟩ : ∃ f, f = d1 / c := ⟨_, rfl⟩
  obtain ⟨gr, hgr⟩ : ∃ f, f = d2 / c := ⟨_, rfl⟩
  have frl : (dg 1000000000 fr).length ≤ 400000 := Nat.le_trans (dg_len_mono bigBase (by rw [hfr]; exact Nat.div_le_self _ _)) l2
  have grl : (dg 1000000000 gr).length ≤ 400000 := Nat.le_trans (dg_len_mono bigBase (by rw [hgr]; exact Nat.div_le_self _ _)) l4
  rw [← hfr, ← hgr]
  rw [← hfr, ← hgr] at hle
  have x1l := dg_len_mul bigBase n1 gr
  have x2l := dg_len_mul bigBase n2 fr
  obtain ⟨x1, hx1⟩ : ∃ f, f = n1 * gr := ⟨_, rfl⟩
  obtain ⟨x2, hx2⟩ : ∃ f, f = n2 * fr := ⟨_, rfl⟩
  rw [← hx1] at x1l
  rw [← hx2] at x2l
  rw [← hx1, ← hx2]
  rw [← hx1, ← hx2] at hle
  obtain ⟨num, hnum⟩ : ∃ f, f = x1 - x2 := ⟨_, rfl⟩
  rw [← hnum]
  have numl : (dg 1000000000 num).length ≤ 800001 := by rw [hnum]; exact Nat.le_trans (dg_len_mono bigBase (Nat.sub_le _ _)) (by omega)
  obtain ⟨mo, hmo⟩ : ∃ f, f = Nat.gcd num c := ⟨_, rfl⟩
  rw [← hmo]
  have m0 : mo ≠ 0 := by have := Nat.gcd_pos_of_pos_right num (Nat.pos_of_ne_zero c0); omega
  have ml : (dg 1000000000 mo).length ≤ 400000 := Nat.le_trans (dg_len_mono bigBase (by rw [hmo]; exact Nat.gcd_le_right num (Nat.pos_of_ne_zero c0))) cl
  obtain ⟨r2, hr2⟩ : ∃ f, f = d2 / mo := ⟨_, rfl⟩
  rw [← hr2]
  have r2l : (dg 1000000000 r2).length ≤ 400000 := Nat.le_trans (dg_len_mono bigBase (by rw [hr2]; exact Nat.div_le_self _ _)) l4
  have C1 : Hid (∀ W, Below w.heap.size w W → Calls Tryd.prog 44 #[p2, p4] W fun e w' => (∃ v, e = .returned v ∧ NumV w' 1000000000 (c) v) ∧ Below W.heap.size W w') := fun W hW => by rw [hc]; exact gcdV (Q2.out W hW) (Q4.out W hW) (by omega) (by omega)
  have C2 : Hid (∀ W v, Below w.heap.size w W → NumV W 1000000000 (c) v → Calls Tryd.prog 50 #[p2, v] W fun e w' => (∃ v, e = .returned v ∧ NumV w' 1000000000 (fr) v) ∧ Below W.heap.size W w') := fun W v hW g1 => by rw [hfr]; exact byV (Q2.out W hW) g1 c0 (by omega) (by omega)
  have C3 : Hid (∀ W v, Below w.heap.size w W → NumV W 1000000000 (c) v → Calls Tryd.prog 50 #[p4, v] W fun e w' => (∃ v, e = .returned v ∧ NumV w' 1000000000 (gr) v) ∧ Below W.heap.size W w') := fun W v hW g1 => by rw [hgr]; exact byV (Q4.out W hW) g1 c0 (by omega) (by omega)
  have C4 : Hid (∀ W v, Below w.heap.size w W → NumV W 1000000000 (gr) v → Calls Tryd.prog 33 #[p1, v] W fun e w' => (∃ v, e = .returned v ∧ NumV w' 1000000000 (x1) v) ∧ Below W.heap.size W w') := fun W v hW g1 => by rw [hx1]; exact timesV (Q1.out W hW) g1 (by omega) (by omega)
  have C5 : Hid (∀ W v, Below w.heap.size w W → NumV W 1000000000 (fr) v → Calls Tryd.prog 33 #[p3, v] W fun e w' => (∃ v, e = .returned v ∧ NumV w' 1000000000 (x2) v) ∧ Below W.heap.size W w') := fun W v hW g1 => by rw [hx2]; exact timesV (Q3.out W hW) g1 (by omega) (by omega)
  have C6 : Hid (∀ W v v', Below w.heap.size w W → NumV W 1000000000 (x1) v → NumV W 1000000000 (x2) v' → Calls Tryd.prog 36 #[v, v'] W fun e w' => (∃ v, e = .returned v ∧ NumV w' 1000000000 (num) v) ∧ Below W.heap.size W w') := fun W v v' hW g1 g2 => by rw [hnum]; exact minusV g1 g2 (by omega) (by omega) hle
  have C7 : Hid (∀ W v v', Below w.heap.size w W → NumV W 1000000000 (num) v → NumV W 1000000000 (c) v' → Calls Tryd.prog 44 #[v, v'] W fun e w' => (∃ v, e = .returned v ∧ NumV w' 1000000000 (mo) v) ∧ Below W.heap.size W w') := fun W v v' hW g1 g2 => by rw [hmo]; exact gcdV g1 g2 (by omega) (by omega)
  have C8 : Hid (∀ W v v', Below w.heap.size w W → NumV W 1000000000 (num) v → NumV W 1000000000 (mo) v' → Calls Tryd.prog 50 #[v, v'] W fun e w' => (∃ v, e = .returned v ∧ NumV w' 1000000000 (num / mo) v) ∧ Below W.heap.size W w') := fun W v v' hW g1 g2 => byV g1 g2 m0 (by omega) (by omega)
  have C9 : Hid (∀ W v, Below w.heap.size w W → NumV W 1000000000 (mo) v → Calls Tryd.prog 50 #[p4, v] W fun e w' => (∃ v, e = .returned v ∧ NumV w' 1000000000 (r2) v) ∧ Below W.heap.size W w') := fun W v hW g1 => by rw [hr2]; exact byV (Q4.out W hW) g1 m0 (by omega) (by omega)
  have C10 : Hid (∀ W v v', Below w.heap.size w W → NumV W 1000000000 (fr) v → NumV W 1000000000 (r2) v' → Calls Tryd.prog 33 #[v, v'] W fun e w' => (∃ v, e = .returned v ∧ NumV w' 1000000000 (fr * r2) v) ∧ Below W.heap.size W w') := fun W v v' hW g1 g2 => timesV g1 g2 (by omega) (by omega)
  generalize num / mo = r1 at *
  generalize fr * r2 = r3 at *
  clear hc cl hfr hgr frl grl hx1 hx2 x1l x2l hnum numl hmo ml hr2 r2l c0 m0 l1 l2 l3 l4 h1 h2 Q1 Q2 Q3 Q4 hle
  go_enter Tryd.func35, Tryd.ntmps35
  go_wp2_with fail
  obtain ⟨U1, hU1⟩ : ∃ X, X = (((w.alloc (.cells #[p1, p2] 38)).alloc (.cells #[p3, p4] 38)).alloc (.cells #[(.slice none 0 0), (.slice none 0 0)] 38)) := ⟨_, rfl⟩
  have Jf : Hid (IHolds U1 (w.heap.size) 38 [p1, p2]) := by
    have q := IHolds.new w 38 [p1, p2]
    show IHolds _ _ _ _
    rw [hU1]
    exact ((q.alloc _).alloc _)
  have Jg : Hid (IHolds U1 (w.heap.size + 1) 38 [p3, p4]) := by
    have q := IHolds.new (w.alloc (.cells #[p1, p2] 38)) 38 [p3, p4]
    simp only [World.size_alloc, Nat.add_assoc, Nat.reduceAdd] at q
    show IHolds _ _ _ _
    rw [hU1]
    exact (q.alloc _)
  have Jr : Hid (IHolds U1 (w.heap.size + 2) 38 [(.slice none 0 0), (.slice none 0 0)]) := by
    have q := IHolds.new ((w.alloc (.cells #[p1, p2] 38)).alloc (.cells #[p3, p4] 38)) 38 [(.slice none 0 0), (.slice none 0 0)]
    simp only [World.size_alloc, Nat.add_assoc, Nat.reduceAdd] at q
    show IHolds _ _ _ _
    rw [hU1]
    exact q
  have B : Hid (Below w.heap.size w U1) := by
    show Below _ _ _
    rw [hU1]
    exact ((((Below.refl _ w).alloc (Nat.le_refl _) _).alloc (by simp only [World.size_alloc]; omega) _).alloc (by simp only [World.size_alloc]; omega) _)
  rw [← hU1]
  clear hU1
  obtain ⟨zf_0, zf_1⟩ := cJ Jf
  obtain ⟨zg_0, zg_1⟩ := cJ Jg
  go_wp2_with fail
  clear zf_0 zf_1 zg_0 zg_1
  refine (C1.out U1 B.out).mono ?_
  rintro e U2 ⟨⟨yc, rfl, hv⟩, hb⟩
  have Nyc : Hid (NumV U2 1000000000 (c) yc) := hv
  clear hv
  replace B := aB B hb
  replace Jf := aJ Jf hb
  replace Jg := aJ Jg hb
  replace Jr := aJ Jr hb
  clear hb
  go_wp2_with fail
  have hb := dB U2
  replace B := aB B hb
  replace Jf := aJ Jf hb
  replace Jg := aJ Jg hb
  replace Jr := aJ Jr hb
  replace Nyc := aN Nyc hb
  clear hb
  refine wp_region_held_drew (S := fun W => (IHolds W (w.heap.size) 38 [p1, p2]) ∧ (IHolds W (w.heap.size + 1) 38 [p3, p4])) (by kernel_rfl) ⟨Jf.out, Jg.out⟩ (fun hHeld1 => ?_)
  generalize U2.drew = U3 at *
  refine tk (i := 0) (v := .pointer (some ⟨w.heap.size, 1, none⟩)) rfl (by kernel_rfl) (fun _ _ _ h => h) rfl ?_ hHeld1 ?_
  · intro W hS; go_simp
  simp only [Act.put, y1, y2, y3, y4, y5, y6, y7]
  refine tk (i := 2) (v := yc) rfl (by kernel_rfl) (fun _ _ _ h => h) rfl ?_ hHeld1 ?_
  · intro W hS; go_simp
  simp only [Act.put, y1, y2, y3, y4, y5, y6, y7]
  refine tk (i := 4) (v := .pointer (some ⟨w.heap.size + 1, 1, none⟩)) rfl (by kernel_rfl) (fun _ _ _ h => h) rfl ?_ hHeld1 ?_
  · intro W hS; go_simp
  simp only [Act.put, y1, y2, y3, y4, y5, y6, y7]
  refine tk (i := 6) (v := yc) rfl (by kernel_rfl) (fun _ _ _ h => h) rfl ?_ hHeld1 ?_
  · intro W hS; go_simp
  simp only [Act.put, y1, y2, y3, y4, y5, y6, y7]
  refine tk (i := 1) (v := p2) rfl (by kernel_rfl) (fun _ _ _ h => h) rfl ?_ hHeld1 ?_
  · intro W hS; obtain ⟨zf_0, zf_1⟩ := c2 hS.1; go_simp
  simp only [Act.put, y1, y2, y3, y4, y5, y6, y7]
  refine tk (i := 5) (v := p4) rfl (by kernel_rfl) (fun _ _ _ h => h) rfl ?_ hHeld1 ?_
  · intro W hS; obtain ⟨zg_0, zg_1⟩ := c2 hS.2; go_simp
  simp only [Act.put, y1, y2, y3, y4, y5, y6, y7]
  refine wpAnyH_ready (rs := [3]) (by kernel_rfl) (by simp) ?_
  refine AllReadyH.cons rfl (fun K hK => ?_) AllReadyH.nil
  clear hHeld1
  go_simp
  refine (C2.out U3 yc B.out Nyc.out).mono ?_
  rintro e U4 ⟨⟨yf, rfl, hv⟩, hb⟩
  have Nyf : Hid (NumV U4 1000000000 (fr) yf) := hv
  clear hv
  replace B := aB B hb
  replace Jf := aJ Jf hb
  replace Jg := aJ Jg hb
  replace Jr := aJ Jr hb
  replace Nyc := aN Nyc hb
  clear hb
  go_wp2_with fail
  refine hK.out _ _ (⟨Jf.out, Jg.out⟩) (fun hHeld2 => ?_)
  clear hK K
  try simp only [Act.put, y1, y2, y3, y4, y5, y6, y7]
  refine wpAnyH_ready (rs := [7]) (by kernel_rfl) (by simp) ?_
  refine AllReadyH.cons rfl (fun K hK => ?_) AllReadyH.nil
  clear hHeld2
  go_simp
  refine (C3.out U4 yc B.out Nyc.out).mono ?_
  rintro e U5 ⟨⟨yg, rfl, hv⟩, hb⟩
  have Nyg : Hid (NumV U5 1000000000 (gr) yg) := hv
  clear hv
  replace B := aB B hb
  replace Jf := aJ Jf hb
  replace Jg := aJ Jg hb
  replace Jr := aJ Jr hb
  replace Nyc := aN Nyc hb
  replace Nyf := aN Nyf hb
  clear hb
  go_wp2_with fail
  refine hK.out _ _ (⟨Jf.out, Jg.out⟩) (fun hHeld3 => ?_)
  clear hK K
  try simp only [Act.put, y1, y2, y3, y4, y5, y6, y7]
  refine tk (i := 8) (v := yf) rfl (by kernel_rfl) (fun _ _ _ h => h) rfl ?_ hHeld3 ?_
  · intro W hS; go_simp
  simp only [Act.put, y1, y2, y3, y4, y5, y6, y7]
  refine tk (i := 9) (v := yg) rfl (by kernel_rfl) (fun _ _ _ h => h) rfl ?_ hHeld3 ?_
  · intro W hS; go_simp
  simp only [Act.put, y1, y2, y3, y4, y5, y6, y7]
  refine wpAnyH_done (by kernel_rfl) ?_ _
  clear hHeld3
  go_wp2_with fail
  have hb := dB U5
  replace B := aB B hb
  replace Jf := aJ Jf hb
  replace Jg := aJ Jg hb
  replace Jr := aJ Jr hb
  replace Nyc := aN Nyc hb
  replace Nyf := aN Nyf hb
  replace Nyg := aN Nyg hb
  clear hb
  refine wp_region_held_drew (S := fun W => (IHolds W (w.heap.size) 38 [p1, p2]) ∧ (IHolds W (w.heap.size + 1) 38 [p3, p4])) (by kernel_rfl) ⟨Jf.out, Jg.out⟩ (fun hHeld4 => ?_)
  generalize U5.drew = U6 at *
  refine tk (i := 0) (v := .func (.func 36) #[] #[]) rfl (by kernel_rfl) (fun _ _ _ h => h) rfl ?_ hHeld4 ?_
  · intro W hS; go_simp
  simp only [Act.put, y1, y2, y3, y4, y5, y6, y7]
  refine tk (i := 1) (v := .pointer (some ⟨w.heap.size, 0, none⟩)) rfl (by kernel_rfl) (fun _ _ _ h => h) rfl ?_ hHeld4 ?_
  · intro W hS; go_simp
  simp only [Act.put, y1, y2, y3, y4, y5, y6, y7]
  refine tk (i := 3) (v := yg) rfl (by kernel_rfl) (fun _ _ _ h => h) rfl ?_ hHeld4 ?_
  · intro W hS; go_simp
  simp only [Act.put, y1, y2, y3, y4, y5, y6, y7]
  refine tk (i := 5) (v := .pointer (some ⟨w.heap.size + 1, 0, none⟩)) rfl (by kernel_rfl) (fun _ _ _ h => h) rfl ?_ hHeld4 ?_
  · intro W hS; go_simp
  simp only [Act.put, y1, y2, y3, y4, y5, y6, y7]
  refine tk (i := 7) (v := yf) rfl (by kernel_rfl) (fun _ _ _ h => h) rfl ?_ hHeld4 ?_
  · intro W hS; go_simp
  simp only [Act.put, y1, y2, y3, y4, y5, y6, y7]
  refine tk (i := 2) (v := p1) rfl (by kernel_rfl) (fun _ _ _ h => h) rfl ?_ hHeld4 ?_
  · intro W hS; obtain ⟨zf_0, zf_1⟩ := c2 hS.1; go_simp
  simp only [Act.put, y1, y2, y3, y4, y5, y6, y7]
  refine tk (i := 6) (v := p3) rfl (by kernel_rfl) (fun _ _ _ h => h) rfl ?_ hHeld4 ?_
  · intro W hS; obtain ⟨zg_0, zg_1⟩ := c2 hS.2; go_simp
  simp only [Act.put, y1, y2, y3, y4, y5, y6, y7]
  refine wpAnyH_ready (rs := [4]) (by kernel_rfl) (by simp) ?_
  refine AllReadyH.cons rfl (fun K hK => ?_) AllReadyH.nil
  clear hHeld4
  go_simp
  refine (C4.out U6 yg B.out Nyg.out).mono ?_
  rintro e U7 ⟨⟨ya, rfl, hv⟩, hb⟩
  have Nya : Hid (NumV U7 1000000000 (x1) ya) := hv
  clear hv
  replace B := aB B hb
  replace Jf := aJ Jf hb
  replace Jg := aJ Jg hb
  replace Jr := aJ Jr hb
  replace Nyc := aN Nyc hb
  replace Nyf := aN Nyf hb
  replace Nyg := aN Nyg hb
  clear hb
  go_wp2_with fail
  refine hK.out _ _ (⟨Jf.out, Jg.out⟩) (fun hHeld5 => ?_)
  clear hK K
  try simp only [Act.put, y1, y2, y3, y4, y5, y6, y7]
  refine wpAnyH_ready (rs := [8]) (by kernel_rfl) (by simp) ?_
  refine AllReadyH.cons rfl (fun K hK => ?_) AllReadyH.nil
  clear hHeld5
  go_simp
  refine (C5.out U7 yf B.out Nyf.out).mono ?_
  rintro e U8 ⟨⟨yb, rfl, hv⟩, hb⟩
  have Nyb : Hid (NumV U8 1000000000 (x2) yb) := hv
  clear hv
  replace B := aB B hb
  replace Jf := aJ Jf hb
  replace Jg := aJ Jg hb
  replace Jr := aJ Jr hb
  replace Nyc := aN Nyc hb
  replace Nyf := aN Nyf hb
  replace Nyg := aN Nyg hb
  replace Nya := aN Nya hb
  clear hb
  go_wp2_with fail
  refine hK.out _ _ (⟨Jf.out, Jg.out⟩) (fun hHeld6 => ?_)
  clear hK K
  try simp only [Act.put, y1, y2, y3, y4, y5, y6, y7]
  refine wpAnyH_ready (rs := [9]) (by kernel_rfl) (by simp) ?_
  refine AllReadyH.cons rfl (fun K hK => ?_) AllReadyH.nil
  clear hHeld6
  go_simp
  refine (C6.out U8 ya yb B.out Nya.out Nyb.out).mono ?_
  rintro e U9 ⟨⟨yn, rfl, hv⟩, hb⟩
  have Nyn : Hid (NumV U9 1000000000 (num) yn) := hv
  clear hv
  replace B := aB B hb
  replace Jf := aJ Jf hb
  replace Jg := aJ Jg hb
  replace Jr := aJ Jr hb
  replace Nyc := aN Nyc hb
  replace Nyf := aN Nyf hb
  replace Nyg := aN Nyg hb
  replace Nya := aN Nya hb
  replace Nyb := aN Nyb hb
  clear hb
  go_wp2_with fail
  refine hK.out _ _ (⟨Jf.out, Jg.out⟩) (fun hHeld7 => ?_)
  clear hK K
  try simp only [Act.put, y1, y2, y3, y4, y5, y6, y7]
  refine tk (i := 10) (v := yn) rfl (by kernel_rfl) (fun _ _ _ h => h) rfl ?_ hHeld7 ?_
  · intro W hS; go_simp
  simp only [Act.put, y1, y2, y3, y4, y5, y6, y7]
  refine wpAnyH_done (by kernel_rfl) ?_ _
  clear hHeld7
  go_wp2_with fail
  refine (C7.out U9 yn yc B.out Nyn.out Nyc.out).mono ?_
  rintro e U10 ⟨⟨ym, rfl, hv⟩, hb⟩
  have Nym : Hid (NumV U10 1000000000 (mo) ym) := hv
  clear hv
  replace B := aB B hb
  replace Jf := aJ Jf hb
  replace Jg := aJ Jg hb
  replace Jr := aJ Jr hb
  replace Nyc := aN Nyc hb
  replace Nyf := aN Nyf hb
  replace Nyg := aN Nyg hb
  replace Nya := aN Nya hb
  replace Nyb := aN Nyb hb
  replace Nyn := aN Nyn hb
  clear hb
  go_wp2_with fail
  have hb := dB U10
  replace B := aB B hb
  replace Jf := aJ Jf hb
  replace Jg := aJ Jg hb
  replace Jr := aJ Jr hb
  replace Nyc := aN Nyc hb
  replace Nyf := aN Nyf hb
  replace Nyg := aN Nyg hb
  replace Nya := aN Nya hb
  replace Nyb := aN Nyb hb
  replace Nyn := aN Nyn hb
  replace Nym := aN Nym hb
  clear hb
  refine wp_region_held_drew (S := fun W => (IHolds W (w.heap.size) 38 [p1, p2]) ∧ (IHolds W (w.heap.size + 1) 38 [p3, p4])) (by kernel_rfl) ⟨Jf.out, Jg.out⟩ (fun hHeld8 => ?_)
  generalize U10.drew = U11 at *
  refine tk (i := 0) (v := yn) rfl (by kernel_rfl) (fun _ _ _ h => h) rfl ?_ hHeld8 ?_
  · intro W hS; go_simp
  simp only [Act.put, y1, y2, y3, y4, y5, y6, y7]
  refine tk (i := 1) (v := ym) rfl (by kernel_rfl) (fun _ _ _ h => h) rfl ?_ hHeld8 ?_
  · intro W hS; go_simp
  simp only [Act.put, y1, y2, y3, y4, y5, y6, y7]
  refine tk (i := 3) (v := yf) rfl (by kernel_rfl) (fun _ _ _ h => h) rfl ?_ hHeld8 ?_
  · intro W hS; go_simp
  simp only [Act.put, y1, y2, y3, y4, y5, y6, y7]
  refine tk (i := 4) (v := .pointer (some ⟨w.heap.size + 1, 1, none⟩)) rfl (by kernel_rfl) (fun _ _ _ h => h) rfl ?_ hHeld8 ?_
  · intro W hS; go_simp
  simp only [Act.put, y1, y2, y3, y4, y5, y6, y7]
  refine tk (i := 6) (v := ym) rfl (by kernel_rfl) (fun _ _ _ h => h) rfl ?_ hHeld8 ?_
  · intro W hS; go_simp
  simp only [Act.put, y1, y2, y3, y4, y5, y6, y7]
  refine tk (i := 5) (v := p4) rfl (by kernel_rfl) (fun _ _ _ h => h) rfl ?_ hHeld8 ?_
  · intro W hS; obtain ⟨zg_0, zg_1⟩ := c2 hS.2; go_simp
  simp only [Act.put, y1, y2, y3, y4, y5, y6, y7]
  refine wpAnyH_ready (rs := [2]) (by kernel_rfl) (by simp) ?_
  refine AllReadyH.cons rfl (fun K hK => ?_) AllReadyH.nil
  clear hHeld8
  go_simp
  refine (C8.out U11 yn ym B.out Nyn.out Nym.out).mono ?_
  rintro e U12 ⟨⟨u1, rfl, hv⟩, hb⟩
  have Nu1 : Hid (NumV U12 1000000000 (r1) u1) := hv
  clear hv
  replace B := aB B hb
  replace Jf := aJ Jf hb
  replace Jg := aJ Jg hb
  replace Jr := aJ Jr hb
  replace Nyc := aN Nyc hb
  replace Nyf := aN Nyf hb
  replace Nyg := aN Nyg hb
  replace Nya := aN Nya hb
  replace Nyb := aN Nyb hb
  replace Nyn := aN Nyn hb
  replace Nym := aN Nym hb
  clear hb
  go_wp2_with fail
  refine hK.out _ _ (⟨Jf.out, Jg.out⟩) (fun hHeld9 => ?_)
  clear hK K
  try simp only [Act.put, y1, y2, y3, y4, y5, y6, y7]
  refine wpAnyH_ready (rs := [7]) (by kernel_rfl) (by simp) ?_
  refine AllReadyH.cons rfl (fun K hK => ?_) AllReadyH.nil
  clear hHeld9
  go_simp
  refine (C9.out U12 ym B.out Nym.out).mono ?_
  rintro e U13 ⟨⟨yr, rfl, hv⟩, hb⟩
  have Nyr : Hid (NumV U13 1000000000 (r2) yr) := hv
  clear hv
  replace B := aB B hb
  replace Jf := aJ Jf hb
  replace Jg := aJ Jg hb
  replace Jr := aJ Jr hb
  replace Nyc := aN Nyc hb
  replace Nyf := aN Nyf hb
  replace Nyg := aN Nyg hb
  replace Nya := aN Nya hb
  replace Nyb := aN Nyb hb
  replace Nyn := aN Nyn hb
  replace Nym := aN Nym hb
  replace Nu1 := aN Nu1 hb
  clear hb
  go_wp2_with fail
  refine hK.out _ _ (⟨Jf.out, Jg.out⟩) (fun hHeld10 => ?_)
  clear hK K
  try simp only [Act.put, y1, y2, y3, y4, y5, y6, y7]
  refine wpAnyH_ready (rs := [8]) (by kernel_rfl) (by simp) ?_
  refine AllReadyH.cons rfl (fun K hK => ?_) AllReadyH.nil
  clear hHeld10
  go_simp
  refine (C10.out U13 yf yr B.out Nyf.out Nyr.out).mono ?_
  rintro e U14 ⟨⟨u2, rfl, hv⟩, hb⟩
  have Nu2 : Hid (NumV U14 1000000000 (r3) u2) := hv
  clear hv
  replace B := aB B hb
  replace Jf := aJ Jf hb
  replace Jg := aJ Jg hb
  replace Jr := aJ Jr hb
  replace Nyc := aN Nyc hb
  replace Nyf := aN Nyf hb
  replace Nyg := aN Nyg hb
  replace Nya := aN Nya hb
  replace Nyb := aN Nyb hb
  replace Nyn := aN Nyn hb
  replace Nym := aN Nym hb
  replace Nu1 := aN Nu1 hb
  replace Nyr := aN Nyr hb
  clear hb
  go_wp2_with fail
  refine hK.out _ _ (⟨Jf.out, Jg.out⟩) (fun hHeld11 => ?_)
  clear hK K
  try simp only [Act.put, y1, y2, y3, y4, y5, y6, y7]
  obtain ⟨u1_a, u1_l, u1_c, rfl⟩ := sN Nu1
  obtain ⟨u2_a, u2_l, u2_c, rfl⟩ := sN Nu2
  refine tk (i := 9) (v := .agg #[(.slice u1_a u1_l u1_c), (.slice u2_a u2_l u2_c)]) rfl (by kernel_rfl) (fun _ _ _ h => h) rfl ?_ hHeld11 ?_
  · intro W hS; go_simp
  simp only [Act.put, y1, y2, y3, y4, y5, y6, y7]
  refine wpAnyH_ready (rs := [10]) (by kernel_rfl) (by simp) ?_
  refine AllReadyH.cons rfl (fun K hK => ?_) AllReadyH.nil
  clear hHeld11
  obtain ⟨zr_0, zr_1⟩ := cJ Jr
  have f0 := fJ Jr
  have hBut : But (w.heap.size + 2) U14 ((U14.setCell ⟨w.heap.size + 2, 0, none⟩ (.slice u1_a u1_l u1_c)).setCell ⟨w.heap.size + 2, 1, none⟩ (.slice u2_a u2_l u2_c)) := (((But.refl _ U14).setCell 0 (.slice u1_a u1_l u1_c)).setCell 1 (.slice u2_a u2_l u2_c))
  have I4 : Hid (IHolds _ (w.heap.size + 2) 38 [(.slice u1_a u1_l u1_c), (.slice u2_a u2_l u2_c)]) := ((Jr.out.set 0 (.slice u1_a u1_l u1_c)).set 1 (.slice u2_a u2_l u2_c))
  replace B : Hid (Below w.heap.size w ((U14.setCell ⟨w.heap.size + 2, 0, none⟩ (.slice u1_a u1_l u1_c)).setCell ⟨w.heap.size + 2, 1, none⟩ (.slice u2_a u2_l u2_c))) := ((B.out.setCell (by first | exact Nat.le_refl _ | exact ge_r.out | (show w.heap.size ≤ w.heap.size + 2; omega)) _).setCell (by first | exact Nat.le_refl _ | exact ge_r.out | (show w.heap.size ≤ w.heap.size + 2; omega)) _)
  replace Jf := tJ Jf hBut (by omega)
  replace Jg := tJ Jg hBut (by omega)
  replace Nyc := tN Nyc Jr (by simp) hBut
  replace Nyf := tN Nyf Jr (by simp) hBut
  replace Nyg := tN Nyg Jr (by simp) hBut
  replace Nya := tN Nya Jr (by simp) hBut
  replace Nyb := tN Nyb Jr (by simp) hBut
  replace Nyn := tN Nyn Jr (by simp) hBut
  replace Nym := tN Nym Jr (by simp) hBut
  replace Nu1 := tN Nu1 Jr (by simp) hBut
  replace Nyr := tN Nyr Jr (by simp) hBut
  replace Nu2 := tN Nu2 Jr (by simp) hBut
  replace Jr := I4
  clear I4 hBut
  go_simp
  try go_wp2_with fail
  clear zr_0 zr_1
  clear f0
  generalize ((U14.setCell ⟨w.heap.size + 2, 0, none⟩ (.slice u1_a u1_l u1_c)).setCell ⟨w.heap.size + 2, 1, none⟩ (.slice u2_a u2_l u2_c)) = U15 at *
  refine hK.out _ _ (⟨Jf.out, Jg.out⟩) (fun hHeld12 => ?_)
  clear hK K
  try simp only [Act.put, y1, y2, y3, y4, y5, y6, y7]
  refine wpAnyH_done (by kernel_rfl) ?_ _
  clear hHeld12
  go_wp2_with fail
  have E0 : Hid (U15.cell? ⟨w.heap.size + 2, 0, none⟩ = some ((.slice u1_a u1_l u1_c))) := IHolds.cell (l := [(.slice u1_a u1_l u1_c), (.slice u2_a u2_l u2_c)]) (t := 38) (b := w.heap.size + 2) (w := U15) Jr.out 0 (by simp)
  have E1 : Hid (U15.cell? ⟨w.heap.size + 2, 1, none⟩ = some ((.slice u2_a u2_l u2_c))) := IHolds.cell (l := [(.slice u1_a u1_l u1_c), (.slice u2_a u2_l u2_c)]) (t := 38) (b := w.heap.size + 2) (w := U15) Jr.out 1 (by simp)
  exact bodyPost_ret (v := .agg #[(.slice u1_a u1_l u1_c), (.slice u2_a u2_l u2_c)]) (by simp [results, Tryd.results35, go_sem, E0.out, E1.out]) rfl ⟨⟨_, _, rfl, Nu1.out, Nu2.out⟩, B.out⟩
end Go.Proofs.YtnahindcgedbaabDoor
