/- gatesOn. -/
import Derived.Test.YtelfcapjegncfaaGa
import Derived.Deep.CutBlock
import Derived.Deep.DeepCutAuto
set_option linter.unusedSimpArgs false
set_option linter.unusedVariables false
set_option maxRecDepth 100000
namespace Go.Proofs.Ytelfcapjegncfaa
open Go.RowKit Go.Deep Go.PlainAid

/-- What gatesOn tells of a list. -/
def OnC (l : List Nat) : Prop := ∀ (w : World) (a : Option Addr) (c : Nat), VL w a (ivs l) → Calls Try.prog 22 #[.slice a l.length c] w fun e w' => (∃ v, e = .returned v ∧ w'.ownsRow w.heap.size 28 2 v (gates l).length (gvs (gates l))) ∧ Below w.heap.size w w'
theorem on_low {l : List Nat} (h : l.length < 2) : OnC l := by
  intro w a c hl
  rw [gates_low h]
  have il : (l.length : Int) < 2 := by omega
  go_enter Try.func22, Try.ntmps22
  go_wp2_with fail
  go_ret
  exact ⟨⟨_, rfl, World.ownsRow_nil _ _ _ _⟩, Below.refl _ _⟩

theorem cat_on {W : World} {gF aE aO : Option Addr} {cF cE cO k q : Nat} {pk pq gE gO : List (Nat × Nat)} (h1 : VL W gF (gvs pk)) (h2 : VL W gF (gvs pq)) (h3 : VL W aE (gvs gE)) (h4 : VL W aO (gvs gO)) (n0 : gF = none → cF = 0) (n3 : aE = none → cE = 0) (n4 : aO = none → cO = 0) (l1 : pk.length = k) (l2 : pq.length = q) (b1 : k ≤ 256) (b2 : q ≤ 256) (b3 : gE.length ≤ 4096) (b4 : gO.length ≤ 4096) :
    Calls Try.prog 28 #[.slice (some ⟨W.heap.size, 0, none⟩) 4 4] (W.alloc (.cells #[.slice gF k cF, .slice aE gE.length cE, .slice aO gO.length cO, .slice gF q cF] 23)) fun e w' => (∃ v, e = .returned v ∧ w'.ownsRow W.heap.size 28 2 v (pk ++ gE ++ gO ++ pq).length (gvs (pk ++ gE ++ gO ++ pq))) ∧ Below W.heap.size (W.alloc (.cells #[.slice gF k cF, .slice aE gE.length cE, .slice aO gO.length cO, .slice gF q cF] 23)) w' := by
  obtain ⟨U, hU⟩ : ∃ U, U = W.alloc (.cells #[.slice gF k cF, .slice aE gE.length cE, .slice aO gO.length cO, .slice gF q cF] 23) := ⟨_, rfl⟩
  have hB : Below W.heap.size W U := by rw [hU]; exact (Below.refl _ _).alloc (Nat.le_refl _) _
  have I : IHolds U W.heap.size 23 [.slice gF k cF, .slice aE gE.length cE, .slice aO gO.length cO, .slice gF q cF] := by rw [hU]; exact IHolds.new _ _ _
  have hs : U.heap.size = W.heap.size + 1 := by rw [hU]; simp
  rw [← hU]
  clear hU
  have one : ∀ l : List (Nat × Nat), ∀ u ∈ gvs l, u.oneCell' = true := fun l => by
    induction l with
    | nil => intro u hu; cases hu
    | cons p l ih =>
      intro u hu
      simp only [gvs, List.mem_cons] at hu
      rcases hu with rfl | rfl | hu
      · rfl
      · rfl
      · exact ih u hu
  have key := concat28 (w := U) (bC := W.heap.size) (cc := 4) (L := [(gF, cF, k, gvs pk), (aE, cE, gE.length, gvs gE), (aO, cO, gO.length, gvs gO), (gF, cF, q, gvs pq)]) rfl
    (fun i hi => by
      match i, hi with
      | 0, _ => exact I.cell 0 (by simp)
      | 1, _ => exact I.cell 1 (by simp)
      | 2, _ => exact I.cell 2 (by simp)
      | 3, _ => exact I.cell 3 (by simp))
    (fun i hi => by
      match i, hi with
      | 0, _ => exact ⟨h1.of_below hB, by show (gvs pk).length = k * 2; rw [gvs_len, l1], n0, by show k ≤ 65536; omega, one _⟩
      | 1, _ => exact ⟨h3.of_below hB, gvs_len _, n3, by show gE.length ≤ 65536; omega, one _⟩
      | 2, _ => exact ⟨h4.of_below hB, gvs_len _, n4, by show gO.length ≤ 65536; omega, one _⟩
      | 3, _ => exact ⟨h2.of_below hB, by show (gvs pq).length = q * 2; rw [gvs_len, l2], n0, by show q ≤ 65536; omega, one _⟩)
  refine key.mono ?_
  rintro e w' ⟨⟨v, rfl, ho⟩, hb⟩
  refine ⟨⟨v, rfl, ?_⟩, hb.mono (by omega)⟩
  have e1 : cnum [(gF, cF, k, gvs pk), (aE, cE, gE.length, gvs gE), (aO, cO, gO.length, gvs gO), (gF, cF, q, gvs pq)] = (pk ++ gE ++ gO ++ pq).length := by
    simp only [cnum, List.map_cons, List.map_nil, List.sum_cons, List.sum_nil, List.length_append, l1, l2]
    omega
  have e2 : cat [(gF, cF, k, gvs pk), (aE, cE, gE.length, gvs gE), (aO, cO, gO.length, gvs gO), (gF, cF, q, gvs pq)] = gvs (pk ++ gE ++ gO ++ pq) := by
    simp [cat, gvs_append]
  rw [e1, e2] at ho
  exact own_mono ho (by omega)

set_option maxHeartbeats 4000000 in
theorem on_step {l : List Nat} (h : ¬ l.length < 2) (h256 : l.length ≤ 256) (IH0 : OnC (ev l)) (IH1 : OnC (od l)) : OnC l := by
  intro w a c hl
  have HL : Hid (VL w a (ivs l)) := hl
  have HC0 : Hid (OnC (ev l)) := IH0
  have HC1 : Hid (OnC (od l)) := IH1
  have HG : Hid (gates l = prs l (l.length / 2) ++ gates (ev l) ++ gates (od l) ++ prs l ((l.length - 1) / 2)) := gates_step h
  have il2 : ¬ (l.length : Int) < 2 := by omega
  obtain ⟨i28, hi28, hz28, hy28, hb28⟩ := info_parts info28
  obtain ⟨i3, hi3, hz3, hy3, hb3⟩ := info_parts info3
  have G0 : Hid (GS w (w.alloc (.cells #[.slice none 0 0, .slice none 0 0] 49)) 0 [] 0 [] 0 [] (.slice none 0 0) (.slice none 0 0) (.slice none 0 0)) := ⟨World.ownsRow_nil _ _ _ _, IHolds.new w 49 [.slice none 0 0, .slice none 0 0], World.ownsRow_nil _ _ _ _, World.ownsRow_nil _ _ _ _, fun g q => (by cases q), (Below.refl _ _).alloc (Nat.le_refl _) _⟩
  clear hl IH0 IH1 h
  obtain ⟨m, hm⟩ : ∃ m, m = l.length / 2 := ⟨_, rfl⟩
  have HM : Hid (m = l.length / 2) := hm
  clear hm
  go_enter Try.func22, Try.ntmps22
  go_wp2_with fail
  go_loopg [3, 5] m (fun gk v3 v5 wr => ∃ (k : Nat) (v0 v1 : Value), k + gk = m ∧ v5 = .int .i64 ((2 * k + 1 : Nat) : Int) ∧ GS w wr k (gvs (prs l k)) k (ivs (evN l k)) k (ivs (odN l k)) v3 v0 v1)
  case atStart => exact ⟨0, _, _, by omega, rfl, G0.out⟩
  case round =>
    obtain ⟨k, v0, v1, hkg, rfl, hG⟩ := hrel
    have G1 : Hid (GS w wr k (gvs (prs l k)) k (ivs (evN l k)) k (ivs (odN l k)) u3 v0 v1) := hG
    clear hG G0
    obtain ⟨j, hj⟩ : ∃ j, j = 2 * k + 1 := ⟨_, rfl⟩
    rw [← hj]
    by_cases hk : k < m
    · have il : (j : Int) < (l.length : Int) := by have := HM.out; omega
      obtain ⟨j0, hj0⟩ : ∃ j0, j0 = 2 * k := ⟨_, rfl⟩
      have kj : (j : Int) - 1 = (j0 : Int) := by omega
      have il0 : (j0 : Int) < (l.length : Int) := by omega
      have kw : IntKind.i64.wrap (j0 : Int) = (j0 : Int) := wrapN (by omega)
      obtain ⟨b, o, rfl, q1⟩ := (HL.out.of_below G1.out.bl).int j (by omega)
      obtain ⟨b', o', e', q0⟩ := (HL.out.of_below G1.out.bl).int j0 (by omega)
      obtain ⟨rfl, rfl⟩ : b' = b ∧ o' = o := by simpa [eq_comm] using e'
      clear e'
      have hbw : b' < w.heap.size := by
        obtain ⟨b2, o2, e2, q2⟩ := HL.out.int j (by omega)
        simp only [Option.some.injEq, Addr.mk.injEq, and_true] at e2
        rw [e2.1]
        exact cell_lt q2
      have GX : Hid (gX l k = (l.getD j0 0, l.getD j 0)) := by show _ = _; rw [hj, hj0]; rfl
      have EX : Hid (evN l (k + 1) = evN l k ++ [l.getD j0 0]) := by show _ = _; rw [hj0, evN_succ]
      have OX : Hid (odN l (k + 1) = odN l k ++ [l.getD j 0]) := by show _ = _; rw [hj, odN_succ]
      have g1 : l.getD j 0 = l[j]'(by omega) := getD_at (by omega)
      have g0 : l.getD j0 0 = l[j0]'(by omega) := getD_at (by omega)
      rw [← g1] at q1
      rw [← g0] at q0
      clear g1 g0
      generalize l.getD j0 0 = x at *
      generalize l.getD j 0 = y at *
      have KQ : Hid (∀ V, Below w.heap.size wr V → (V.cell? ⟨b', o' + j0, none⟩ = some (.int .i64 (x : Int)) ∧ V.cell? ⟨b', o' + j, none⟩ = some (.int .i64 (y : Int)))) := fun V hV => ⟨(hV.cell (p := ⟨b', o' + j0, none⟩) hbw).trans q0, (hV.cell (p := ⟨b', o' + j, none⟩) hbw).trans q1⟩
      have HJ : Hid (j = 2 * k + 1) := hj
      have HJ0 : Hid (j0 = 2 * k) := hj0
      clear q0 q1 hj hj0
      have hk9 : k ≤ 256 := by have := HM.out; omega
      -- the gate
      have G8 : Hid (GS w (wr.drew.alloc (.cells #[.int .i64 (x : Int), .int .i64 (y : Int)] 28)) k (gvs (prs l k)) k (ivs (evN l k)) k (ivs (odN l k)) u3 v0 v1) := G1.out.drew.alloc _
      have B8 : Hid (Below w.heap.size wr (wr.drew.alloc (.cells #[.int .i64 (x : Int), .int .i64 (y : Int)] 28))) := ((Below.refl _ wr).drew).alloc G1.out.bl.size _
      have C8 : Hid (∀ jj u, [Value.int .i64 (x : Int), .int .i64 (y : Int)][jj]? = some u → (wr.drew.alloc (.cells #[.int .i64 (x : Int), .int .i64 (y : Int)] 28)).cell? ((⟨wr.heap.size, 0, none⟩ : Addr).add jj) = some u) := two_new wr.drew _ _ 28
      go_wp2_with fail
      go_region_held3 (fun V => V.cell? ⟨b', o' + j0, none⟩ = some (.int .i64 (x : Int)) ∧ V.cell? ⟨b', o' + j, none⟩ = some (.int .i64 (y : Int)))
        (first | exact KQ.out _ (Below.refl _ wr).drew | exact KQ.out _ B8.out | exact KQ.out _ B9.out | assumption | fail)
        (first
          | (refine step_append_lies _ (by rfl) (.tmp 15) (.tmp 26) 23 (by rfl) w.heap.size 28 i28 (.agg #[.int .i64 0, .int .i64 0]) 2 16 Try.underlying23 hi28 hz28 hy28 hb28 rfl (by decide) u3 k (gvs (prs l k)) (by rfl) G8.out.rf ⟨wr.heap.size, 0, none⟩ 1 1 [.int .i64 (x : Int), .int .i64 (y : Int)] (by rfl) rfl C8.out (fun u hu => by simp at hu; rcases hu with rfl | rfl <;> rfl) (by omega) (by unfold maxLen; omega) (by omega) G8.out.bl.size _ rfl ?_; intro gF cF w9 hown hgrow hat hlt; have G9 : Hid (GS w w9 (k + 1) (gvs (prs l k) ++ [.int .i64 (x : Int), .int .i64 (y : Int)]) k (ivs (evN l k)) k (ivs (odN l k)) (.slice (some ⟨gF, 0, none⟩) (k + 1) cF) v0 v1) := G8.out.appF hown hgrow; have B9 : Hid (Below w.heap.size wr w9) := B8.out.grown hgrow (Nat.le_trans G1.out.bl.size B8.out.size) (fun k hk => (G8.out.rf.lt k hk).1); clear hown hgrow hat hlt)
          | fail)
      clear G8 B8 C8
      have KQ9 : Hid (∀ V, Below w.heap.size w9 V → (V.cell? ⟨b', o' + j0, none⟩ = some (.int .i64 (x : Int)) ∧ V.cell? ⟨b', o' + j, none⟩ = some (.int .i64 (y : Int)))) := fun V hV => KQ.out V (B9.out.trans hV)
      clear KQ B9 G1
      obtain ⟨XF, hXF⟩ : ∃ XF, gvs (prs l k) ++ [.int .i64 (x : Int), .int .i64 (y : Int)] = XF := ⟨_, rfl⟩
      rw [hXF] at G9
      have HXF : Hid (gvs (prs l k) ++ gvs [(x, y)] = XF) := hXF
      clear hXF
      go_upto_region 9 with fail
      go_cut [5] (fun v5 wx => ∃ v0', v5 = .int .i64 (j : Int) ∧ GS w wx (k + 1) XF (k + 1) (ivs (evN l k) ++ [.int .i64 (x : Int)]) k (ivs (odN l k)) (.slice (some ⟨gF, 0, none⟩) (k + 1) cF) v0' v1 ∧ Below w.heap.size w9 wx)
      case first =>
        have Ga : Hid (GS w (w9.drew.alloc (.cells #[.int .i64 (x : Int)] 3)) (k + 1) XF k (ivs (evN l k)) k (ivs (odN l k)) (.slice (some ⟨gF, 0, none⟩) (k + 1) cF) v0 v1) := G9.out.drew.alloc _
        have Ba : Hid (Below w.heap.size w9 (w9.drew.alloc (.cells #[.int .i64 (x : Int)] 3))) := ((Below.refl _ w9).drew).alloc G9.out.bl.size _
        have Ca : Hid (∀ jj u, [Value.int .i64 (x : Int)][jj]? = some u → (w9.drew.alloc (.cells #[.int .i64 (x : Int)] 3)).cell? ((⟨w9.heap.size, 0, none⟩ : Addr).add jj) = some u) := one_new w9.drew _ 3
        have c0 : w9.drew.cell? ⟨w.heap.size, 0, none⟩ = some v0 := G9.out.drew.box.cell 0 (by simp)
        have c1 : (w9.alloc (.cells #[.int .i64 (x : Int)] 3)).cell? ⟨w.heap.size, 0, none⟩ = some v0 := Ga.out.box.cell 0 (by simp)
        refine wp_region_held_drew (S := (fun V => V.cell? ⟨b', o' + j0, none⟩ = some (.int .i64 (x : Int)) ∧ V.cell? ⟨b', o' + j, none⟩ = some (.int .i64 (y : Int)))) (by kernel_rfl) (KQ9.out _ (Below.refl _ w9).drew) (fun hH => ?_)
        refine tk (i := 0) (v := .pointer (some ⟨w.heap.size, 0, none⟩)) rfl (by kernel_rfl) (fun _ _ _ h => h) rfl ?_ hH ?_
        · intro V hS; obtain ⟨q0, q1⟩ := hS; go_simp
        simp only [Act.put, y1, y2, y3, y4, y5, y6, y7]
        refine tk (i := 2) (v := (.slice (some ⟨b', o', none⟩) l.length c)) rfl (by kernel_rfl) (fun _ _ _ h => h) rfl ?_ hH ?_
        · intro V hS; obtain ⟨q0, q1⟩ := hS; go_simp
        simp only [Act.put, y1, y2, y3, y4, y5, y6, y7]
        refine tk (i := 3) (v := .int .i64 (j : Int)) rfl (by kernel_rfl) (fun _ _ _ h => h) rfl ?_ hH ?_
        · intro V hS; obtain ⟨q0, q1⟩ := hS; go_simp
        simp only [Act.put, y1, y2, y3, y4, y5, y6, y7]
        refine tk (i := 4) (v := .int .i64 (j0 : Int)) rfl (by kernel_rfl) (fun _ _ _ h => h) rfl ?_ hH ?_
        · intro V hS; obtain ⟨q0, q1⟩ := hS; go_simp
        simp only [Act.put, y1, y2, y3, y4, y5, y6, y7]
        refine tk (i := 5) (v := .pointer (some ⟨b', o' + j0, none⟩)) rfl (by kernel_rfl) (fun _ _ _ h => h) rfl ?_ hH ?_
        · intro V hS; obtain ⟨q0, q1⟩ := hS; go_simp
        simp only [Act.put, y1, y2, y3, y4, y5, y6, y7]
        refine tk (i := 6) (v := .int .i64 (x : Int)) rfl (by kernel_rfl) (fun _ _ _ h => h) rfl ?_ hH ?_
        · intro V hS; obtain ⟨q0, q1⟩ := hS; go_simp
        simp only [Act.put, y1, y2, y3, y4, y5, y6, y7]
        refine wpAnyH_ready (rs := [1, 7]) (by kernel_rfl) (by simp) ?_
        refine AllReadyH.cons rfl (fun K hK => ?_) (AllReadyH.cons rfl (fun K hK => ?_) AllReadyH.nil)
        · clear hH
          go_simp
          refine hK.out _ _ (KQ9.out _ (Below.refl _ w9).drew) (fun hH => ?_)
          clear hK K
          try simp only [Act.put, y1, y2, y3, y4, y5, y6, y7]
          refine wpAnyH_ready (rs := [7]) (by kernel_rfl) (by simp) ?_
          refine AllReadyH.cons rfl (fun K hK => ?_) AllReadyH.nil
          clear hH
          go_simp
          refine hK.out _ _ (KQ9.out _ Ba.out) (fun hH => ?_)
          clear hK K
          try simp only [Act.put, y1, y2, y3, y4, y5, y6, y7]
          refine wpAnyH_ready (rs := [8]) (by kernel_rfl) (by simp) ?_
          refine AllReadyH.cons rfl (fun K hK => ?_) AllReadyH.nil
          clear hH
          refine wp_append_lies _ (.tmp 29) (.tmp 35) 29 rfl w.heap.size 3 i3 (.int .i64 0) 1 8 Try.underlying29 hi3 hz3 hy3 hb3 rfl (by decide) v0 k (ivs (evN l k)) rfl Ga.out.r0 ⟨w9.heap.size, 0, none⟩ 1 1 [.int .i64 (x : Int)] rfl rfl Ca.out (fun u hu => by simp at hu; subst hu; rfl) (by omega) (by unfold maxLen; omega) (by omega) Ga.out.bl.size _ rfl ?_
          intro g1 cc1 wb hown hgrow hat hlt
          obtain ⟨hbx, hgs⟩ := Ga.out.app0 hown hgrow hat
          have Gb : Hid (GS w (wb.setCell ⟨w.heap.size, 0, none⟩ (.slice (some ⟨g1, 0, none⟩) (k + 1) cc1)) (k + 1) XF (k + 1) (ivs (evN l k) ++ [.int .i64 (x : Int)]) k (ivs (odN l k)) (.slice (some ⟨gF, 0, none⟩) (k + 1) cF) (.slice (some ⟨g1, 0, none⟩) (k + 1) cc1) v1) := hgs
          have hcb := hbx.cell 0 (by simp)
          have hfb := hbx.frozen 0
          have Bb : Hid (Below w.heap.size w9 wb) := Ba.out.grown hgrow (Nat.le_trans G9.out.bl.size Ba.out.size) (fun k hk => (Ga.out.r0.lt k hk).1)
          have Bc : Hid (Below w.heap.size w9 (wb.setCell ⟨w.heap.size, 0, none⟩ (.slice (some ⟨g1, 0, none⟩) (k + 1) cc1))) := Bb.out.setCell (p := ⟨w.heap.size, 0, none⟩) (Nat.le_refl _) _
          clear hown hgrow hat hlt hgs hbx
          refine hK.out _ _ (KQ9.out _ Bb.out) (fun hH => ?_)
          clear hK K
          try simp only [Act.put, y1, y2, y3, y4, y5, y6, y7]
          refine tk (i := 9) (v := .pointer (some ⟨w.heap.size, 0, none⟩)) rfl (by kernel_rfl) (fun _ _ _ h => h) rfl ?_ hH ?_
          · intro V hS; obtain ⟨q0, q1⟩ := hS; go_simp
          simp only [Act.put, y1, y2, y3, y4, y5, y6, y7]
          refine wpAnyH_ready (rs := [10]) (by kernel_rfl) (by simp) ?_
          refine AllReadyH.cons rfl (fun K hK => ?_) AllReadyH.nil
          clear hH
          go_simp
          refine hK.out _ _ (KQ9.out _ Bc.out) (fun hH => ?_)
          clear hK K
          try simp only [Act.put, y1, y2, y3, y4, y5, y6, y7]
          refine wpAnyH_done (by kernel_rfl) ?_ _
          clear hH
          go_wp2_with fail
          go_meet
          case rel => exact ⟨_, rfl, Gb.out, Bc.out⟩
        · clear hH
          go_simp
          refine hK.out _ _ (KQ9.out _ Ba.out) (fun hH => ?_)
          clear hK K
          try simp only [Act.put, y1, y2, y3, y4, y5, y6, y7]
          refine wpAnyH_ready (rs := [1]) (by kernel_rfl) (by simp) ?_
          refine AllReadyH.cons rfl (fun K hK => ?_) AllReadyH.nil
          clear hH
          go_simp
          refine hK.out _ _ (KQ9.out _ Ba.out) (fun hH => ?_)
          clear hK K
          try simp only [Act.put, y1, y2, y3, y4, y5, y6, y7]
          refine wpAnyH_ready (rs := [8]) (by kernel_rfl) (by simp) ?_
          refine AllReadyH.cons rfl (fun K hK => ?_) AllReadyH.nil
          clear hH
          refine wp_append_lies _ (.tmp 29) (.tmp 35) 29 rfl w.heap.size 3 i3 (.int .i64 0) 1 8 Try.underlying29 hi3 hz3 hy3 hb3 rfl (by decide) v0 k (ivs (evN l k)) rfl Ga.out.r0 ⟨w9.heap.size, 0, none⟩ 1 1 [.int .i64 (x : Int)] rfl rfl Ca.out (fun u hu => by simp at hu; subst hu; rfl) (by omega) (by unfold maxLen; omega) (by omega) Ga.out.bl.size _ rfl ?_
          intro g1 cc1 wb hown hgrow hat hlt
          obtain ⟨hbx, hgs⟩ := Ga.out.app0 hown hgrow hat
          have Gb : Hid (GS w (wb.setCell ⟨w.heap.size, 0, none⟩ (.slice (some ⟨g1, 0, none⟩) (k + 1) cc1)) (k + 1) XF (k + 1) (ivs (evN l k) ++ [.int .i64 (x : Int)]) k (ivs (odN l k)) (.slice (some ⟨gF, 0, none⟩) (k + 1) cF) (.slice (some ⟨g1, 0, none⟩) (k + 1) cc1) v1) := hgs
          have hcb := hbx.cell 0 (by simp)
          have hfb := hbx.frozen 0
          have Bb : Hid (Below w.heap.size w9 wb) := Ba.out.grown hgrow (Nat.le_trans G9.out.bl.size Ba.out.size) (fun k hk => (Ga.out.r0.lt k hk).1)
          have Bc : Hid (Below w.heap.size w9 (wb.setCell ⟨w.heap.size, 0, none⟩ (.slice (some ⟨g1, 0, none⟩) (k + 1) cc1))) := Bb.out.setCell (p := ⟨w.heap.size, 0, none⟩) (Nat.le_refl _) _
          clear hown hgrow hat hlt hgs hbx
          refine hK.out _ _ (KQ9.out _ Bb.out) (fun hH => ?_)
          clear hK K
          try simp only [Act.put, y1, y2, y3, y4, y5, y6, y7]
          refine tk (i := 9) (v := .pointer (some ⟨w.heap.size, 0, none⟩)) rfl (by kernel_rfl) (fun _ _ _ h => h) rfl ?_ hH ?_
          · intro V hS; obtain ⟨q0, q1⟩ := hS; go_simp
          simp only [Act.put, y1, y2, y3, y4, y5, y6, y7]
          refine wpAnyH_ready (rs := [10]) (by kernel_rfl) (by simp) ?_
          refine AllReadyH.cons rfl (fun K hK => ?_) AllReadyH.nil
          clear hH
          go_simp
          refine hK.out _ _ (KQ9.out _ Bc.out) (fun hH => ?_)
          clear hK K
          try simp only [Act.put, y1, y2, y3, y4, y5, y6, y7]
          refine wpAnyH_done (by kernel_rfl) ?_ _
          clear hH
          go_wp2_with fail
          go_meet
          case rel => exact ⟨_, rfl, Gb.out, Bc.out⟩
      case rest =>
        obtain ⟨v0', rfl, hgs, hbl⟩ := hcut
        have G10 : Hid (GS w wc (k + 1) XF (k + 1) (ivs (evN l k) ++ [.int .i64 (x : Int)]) k (ivs (odN l k)) (.slice (some ⟨gF, 0, none⟩) (k + 1) cF) v0' v1) := hgs
        have KQ10 : Hid (∀ V, Below w.heap.size wc V → (V.cell? ⟨b', o' + j0, none⟩ = some (.int .i64 (x : Int)) ∧ V.cell? ⟨b', o' + j, none⟩ = some (.int .i64 (y : Int)))) := fun V hV => KQ9.out V (hbl.trans hV)
        clear hgs hbl KQ9 G9
        obtain ⟨j2, hj2⟩ : ∃ j2, j2 = 2 * (k + 1) + 1 := ⟨_, rfl⟩
        have HJ2 : Hid (j2 = 2 * (k + 1) + 1) := hj2
        have kj2 : (j : Int) + 2 = (j2 : Int) := by have := HJ.out; omega
        have hj29 : j2 ≤ 1000 := by omega
        clear hj2
        go_upto_region 10 with fail
        have Ga : Hid (GS w (wc.drew.alloc (.cells #[.int .i64 (y : Int)] 3)) (k + 1) XF (k + 1) (ivs (evN l k) ++ [.int .i64 (x : Int)]) k (ivs (odN l k)) (.slice (some ⟨gF, 0, none⟩) (k + 1) cF) v0' v1) := G10.out.drew.alloc _
        have Ba : Hid (Below w.heap.size wc (wc.drew.alloc (.cells #[.int .i64 (y : Int)] 3))) := ((Below.refl _ wc).drew).alloc G10.out.bl.size _
        have Ca : Hid (∀ jj u, [Value.int .i64 (y : Int)][jj]? = some u → (wc.drew.alloc (.cells #[.int .i64 (y : Int)] 3)).cell? ((⟨wc.heap.size, 0, none⟩ : Addr).add jj) = some u) := one_new wc.drew _ 3
        have c0 : wc.drew.cell? ⟨w.heap.size, 1, none⟩ = some v1 := G10.out.drew.box.cell 1 (by simp)
        have c1 : (wc.alloc (.cells #[.int .i64 (y : Int)] 3)).cell? ⟨w.heap.size, 1, none⟩ = some v1 := Ga.out.box.cell 1 (by simp)
        refine wp_region_held_drew (S := (fun V => V.cell? ⟨b', o' + j0, none⟩ = some (.int .i64 (x : Int)) ∧ V.cell? ⟨b', o' + j, none⟩ = some (.int .i64 (y : Int)))) (by kernel_rfl) (KQ10.out _ (Below.refl _ wc).drew) (fun hH => ?_)
        refine tk (i := 0) (v := .pointer (some ⟨w.heap.size, 1, none⟩)) rfl (by kernel_rfl) (fun _ _ _ h => h) rfl ?_ hH ?_
        · intro V hS; obtain ⟨q0, q1⟩ := hS; go_simp
        simp only [Act.put, y1, y2, y3, y4, y5, y6, y7]
        refine tk (i := 2) (v := (.slice (some ⟨b', o', none⟩) l.length c)) rfl (by kernel_rfl) (fun _ _ _ h => h) rfl ?_ hH ?_
        · intro V hS; obtain ⟨q0, q1⟩ := hS; go_simp
        simp only [Act.put, y1, y2, y3, y4, y5, y6, y7]
        refine tk (i := 3) (v := .int .i64 (j : Int)) rfl (by kernel_rfl) (fun _ _ _ h => h) rfl ?_ hH ?_
        · intro V hS; obtain ⟨q0, q1⟩ := hS; go_simp
        simp only [Act.put, y1, y2, y3, y4, y5, y6, y7]
        refine tk (i := 4) (v := .pointer (some ⟨b', o' + j, none⟩)) rfl (by kernel_rfl) (fun _ _ _ h => h) rfl ?_ hH ?_
        · intro V hS; obtain ⟨q0, q1⟩ := hS; go_simp
        simp only [Act.put, y1, y2, y3, y4, y5, y6, y7]
        refine tk (i := 5) (v := .int .i64 (y : Int)) rfl (by kernel_rfl) (fun _ _ _ h => h) rfl ?_ hH ?_
        · intro V hS; obtain ⟨q0, q1⟩ := hS; go_simp
        simp only [Act.put, y1, y2, y3, y4, y5, y6, y7]
        refine wpAnyH_ready (rs := [1, 6]) (by kernel_rfl) (by simp) ?_
        refine AllReadyH.cons rfl (fun K hK => ?_) (AllReadyH.cons rfl (fun K hK => ?_) AllReadyH.nil)
        · clear hH
          go_simp
          refine hK.out _ _ (KQ10.out _ (Below.refl _ wc).drew) (fun hH => ?_)
          clear hK K
          try simp only [Act.put, y1, y2, y3, y4, y5, y6, y7]
          refine wpAnyH_ready (rs := [6]) (by kernel_rfl) (by simp) ?_
          refine AllReadyH.cons rfl (fun K hK => ?_) AllReadyH.nil
          clear hH
          go_simp
          refine hK.out _ _ (KQ10.out _ Ba.out) (fun hH => ?_)
          clear hK K
          try simp only [Act.put, y1, y2, y3, y4, y5, y6, y7]
          refine wpAnyH_ready (rs := [7]) (by kernel_rfl) (by simp) ?_
          refine AllReadyH.cons rfl (fun K hK => ?_) AllReadyH.nil
          clear hH
          refine wp_append_lies _ (.tmp 39) (.tmp 44) 29 rfl w.heap.size 3 i3 (.int .i64 0) 1 8 Try.underlying29 hi3 hz3 hy3 hb3 rfl (by decide) v1 k (ivs (odN l k)) rfl Ga.out.r1 ⟨wc.heap.size, 0, none⟩ 1 1 [.int .i64 (y : Int)] rfl rfl Ca.out (fun u hu => by simp at hu; subst hu; rfl) (by omega) (by unfold maxLen; omega) (by omega) Ga.out.bl.size _ rfl ?_
          intro g1 cc1 wb hown hgrow hat hlt
          obtain ⟨hbx, hgs⟩ := Ga.out.app1 hown hgrow hat
          have Gb : Hid (GS w (wb.setCell ⟨w.heap.size, 1, none⟩ (.slice (some ⟨g1, 0, none⟩) (k + 1) cc1)) (k + 1) XF (k + 1) (ivs (evN l k) ++ [.int .i64 (x : Int)]) (k + 1) (ivs (odN l k) ++ [.int .i64 (y : Int)]) (.slice (some ⟨gF, 0, none⟩) (k + 1) cF) v0' (.slice (some ⟨g1, 0, none⟩) (k + 1) cc1)) := hgs
          have hcb := hbx.cell 1 (by simp)
          have hfb := hbx.frozen 1
          have Bb : Hid (Below w.heap.size wc wb) := Ba.out.grown hgrow (Nat.le_trans G10.out.bl.size Ba.out.size) (fun k hk => (Ga.out.r1.lt k hk).1)
          have Bc : Hid (Below w.heap.size wc (wb.setCell ⟨w.heap.size, 1, none⟩ (.slice (some ⟨g1, 0, none⟩) (k + 1) cc1))) := Bb.out.setCell (p := ⟨w.heap.size, 1, none⟩) (Nat.le_refl _) _
          clear hown hgrow hat hlt hgs hbx
          refine hK.out _ _ (KQ10.out _ Bb.out) (fun hH => ?_)
          clear hK K
          try simp only [Act.put, y1, y2, y3, y4, y5, y6, y7]
          refine tk (i := 8) (v := .pointer (some ⟨w.heap.size, 1, none⟩)) rfl (by kernel_rfl) (fun _ _ _ h => h) rfl ?_ hH ?_
          · intro V hS; obtain ⟨q0, q1⟩ := hS; go_simp
          simp only [Act.put, y1, y2, y3, y4, y5, y6, y7]
          refine wpAnyH_ready (rs := [9]) (by kernel_rfl) (by simp) ?_
          refine AllReadyH.cons rfl (fun K hK => ?_) AllReadyH.nil
          clear hH
          go_simp
          refine hK.out _ _ (KQ10.out _ Bc.out) (fun hH => ?_)
          clear hK K
          try simp only [Act.put, y1, y2, y3, y4, y5, y6, y7]
          refine wpAnyH_done (by kernel_rfl) ?_ _
          clear hH
          clear c0 c1 hcb hfb
          go_wp2_with fail
          go_roundg (gk - 1)
          case measure => omega
          case rel => exact ⟨k + 1, _, _, by omega, by rw [HJ2.out], by rw [EX.out, OX.out, ivs_append, ivs_append, prs_succ, gvs_append, GX.out, HXF.out]; exact Gb.out⟩
        · clear hH
          go_simp
          refine hK.out _ _ (KQ10.out _ Ba.out) (fun hH => ?_)
          clear hK K
          try simp only [Act.put, y1, y2, y3, y4, y5, y6, y7]
          refine wpAnyH_ready (rs := [1]) (by kernel_rfl) (by simp) ?_
          refine AllReadyH.cons rfl (fun K hK => ?_) AllReadyH.nil
          clear hH
          go_simp
          refine hK.out _ _ (KQ10.out _ Ba.out) (fun hH => ?_)
          clear hK K
          try simp only [Act.put, y1, y2, y3, y4, y5, y6, y7]
          refine wpAnyH_ready (rs := [7]) (by kernel_rfl) (by simp) ?_
          refine AllReadyH.cons rfl (fun K hK => ?_) AllReadyH.nil
          clear hH
          refine wp_append_lies _ (.tmp 39) (.tmp 44) 29 rfl w.heap.size 3 i3 (.int .i64 0) 1 8 Try.underlying29 hi3 hz3 hy3 hb3 rfl (by decide) v1 k (ivs (odN l k)) rfl Ga.out.r1 ⟨wc.heap.size, 0, none⟩ 1 1 [.int .i64 (y : Int)] rfl rfl Ca.out (fun u hu => by simp at hu; subst hu; rfl) (by omega) (by unfold maxLen; omega) (by omega) Ga.out.bl.size _ rfl ?_
          intro g1 cc1 wb hown hgrow hat hlt
          obtain ⟨hbx, hgs⟩ := Ga.out.app1 hown hgrow hat
          have Gb : Hid (GS w (wb.setCell ⟨w.heap.size, 1, none⟩ (.slice (some ⟨g1, 0, none⟩) (k + 1) cc1)) (k + 1) XF (k + 1) (ivs (evN l k) ++ [.int .i64 (x : Int)]) (k + 1) (ivs (odN l k) ++ [.int .i64 (y : Int)]) (.slice (some ⟨gF, 0, none⟩) (k + 1) cF) v0' (.slice (some ⟨g1, 0, none⟩) (k + 1) cc1)) := hgs
          have hcb := hbx.cell 1 (by simp)
          have hfb := hbx.frozen 1
          have Bb : Hid (Below w.heap.size wc wb) := Ba.out.grown hgrow (Nat.le_trans G10.out.bl.size Ba.out.size) (fun k hk => (Ga.out.r1.lt k hk).1)
          have Bc : Hid (Below w.heap.size wc (wb.setCell ⟨w.heap.size, 1, none⟩ (.slice (some ⟨g1, 0, none⟩) (k + 1) cc1))) := Bb.out.setCell (p := ⟨w.heap.size, 1, none⟩) (Nat.le_refl _) _
          clear hown hgrow hat hlt hgs hbx
          refine hK.out _ _ (KQ10.out _ Bb.out) (fun hH => ?_)
          clear hK K
          try simp only [Act.put, y1, y2, y3, y4, y5, y6, y7]
          refine tk (i := 8) (v := .pointer (some ⟨w.heap.size, 1, none⟩)) rfl (by kernel_rfl) (fun _ _ _ h => h) rfl ?_ hH ?_
          · intro V hS; obtain ⟨q0, q1⟩ := hS; go_simp
          simp only [Act.put, y1, y2, y3, y4, y5, y6, y7]
          refine wpAnyH_ready (rs := [9]) (by kernel_rfl) (by simp) ?_
          refine AllReadyH.cons rfl (fun K hK => ?_) AllReadyH.nil
          clear hH
          go_simp
          refine hK.out _ _ (KQ10.out _ Bc.out) (fun hH => ?_)
          clear hK K
          try simp only [Act.put, y1, y2, y3, y4, y5, y6, y7]
          refine wpAnyH_done (by kernel_rfl) ?_ _
          clear hH
          clear c0 c1 hcb hfb
          go_wp2_with fail
          go_roundg (gk - 1)
          case measure => omega
          case rel => exact ⟨k + 1, _, _, by omega, by rw [HJ2.out], by rw [EX.out, OX.out, ivs_append, ivs_append, prs_succ, gvs_append, GX.out, HXF.out]; exact Gb.out⟩
    · have il : ¬ (j : Int) < (l.length : Int) := by have := HM.out; omega
      obtain rfl : k = m := by omega
      have hn2 : 2 ≤ l.length := by omega
      clear hk hj hkg
      have H27 : Hid (∀ V, Calls Try.prog 27 #[.slice a l.length c] V fun e w' => e = .returned (.bool (decide (l.length % 2 = 1))) ∧ w' = V) := fun V => odd27 h256
      have H25 : Hid (∀ V, Calls Try.prog 25 #[.slice a l.length c] V fun e w' => e = .returned (.int .i64 (((l.length - 1) / 2 : Nat) : Int)) ∧ w' = V) := fun V => lastGates25 (by omega) h256
      have EV : Hid (evN l k = ev l) := by show _ = _; rw [HM.out]; rfl
      rw [EV.out] at G1
      obtain ⟨tb, htb⟩ : ∃ tb : Bool, decide (l.length % 2 = 1) = tb := ⟨_, rfl⟩
      have HTB : Hid (decide (l.length % 2 = 1) = tb) := htb
      rw [htb] at H27
      clear htb
      have hk9 : k ≤ 256 := by have := HM.out; omega
      have hk1 : 1 ≤ k := by have := HM.out; omega
      go_upto_if 48 with (go_at_call 27; refine (H27.out _).mono ?_; rintro e ww ⟨rfl, hww⟩; obtain rfl := hww.symm; clear H27)
      go_cut [5] (fun v5 wx => ∃ v1', GS w wx k (gvs (prs l k)) k (ivs (ev l)) (od l).length (ivs (od l)) u3 v0 v1')
      case first =>
        cases tb with
        | false =>
          have OD : Hid (od l = odN l k) := by show _ = _; rw [HM.out]; exact od_even (of_decide_eq_false HTB.out)
          go_wp2_with fail
          go_meet
          case rel => exact ⟨_, by rw [OD.out, odN_len]; exact G1.out⟩
        | true =>
          have ho : l.length % 2 = 1 := of_decide_eq_true HTB.out
          obtain ⟨j0, hj0⟩ : ∃ j0, j0 = l.length - 1 := ⟨_, rfl⟩
          have OD : Hid (od l = odN l k ++ [l.getD j0 0]) := by show _ = _; rw [HM.out, hj0]; exact od_odd ho
          clear ho
          have kj : (l.length : Int) - 1 = (j0 : Int) := by omega
          have il0 : (j0 : Int) < (l.length : Int) := by omega
          have kw : IntKind.i64.wrap (j0 : Int) = (j0 : Int) := wrapN (by omega)
          obtain ⟨b', o', rfl, q0⟩ := HL.out.int j0 (by omega)
          have hbw : b' < w.heap.size := cell_lt q0
          have g0 : l.getD j0 0 = l[j0]'(by omega) := getD_at (by omega)
          rw [← g0] at q0
          clear g0
          generalize l.getD j0 0 = x at *
          have KQ : Hid (∀ V, Below w.heap.size wr V → (V.cell? ⟨b', o' + j0, none⟩ = some (.int .i64 (x : Int)) ∧ V.cell? ⟨b', o' + j0, none⟩ = some (.int .i64 (x : Int)))) := fun V hV => ⟨((G1.out.bl.trans hV).cell (p := ⟨b', o' + j0, none⟩) hbw).trans q0, ((G1.out.bl.trans hV).cell (p := ⟨b', o' + j0, none⟩) hbw).trans q0⟩
          clear q0 hj0
          go_upto_region 12 with fail
          have Ga : Hid (GS w (wr.drew.alloc (.cells #[.int .i64 (x : Int)] 3)) k (gvs (prs l k)) k (ivs (ev l)) k (ivs (odN l k)) u3 v0 v1) := G1.out.drew.alloc _
          have Ba : Hid (Below w.heap.size wr (wr.drew.alloc (.cells #[.int .i64 (x : Int)] 3))) := ((Below.refl _ wr).drew).alloc G1.out.bl.size _
          have Ca : Hid (∀ jj u, [Value.int .i64 (x : Int)][jj]? = some u → (wr.drew.alloc (.cells #[.int .i64 (x : Int)] 3)).cell? ((⟨wr.heap.size, 0, none⟩ : Addr).add jj) = some u) := one_new wr.drew _ 3
          have c0 : wr.drew.cell? ⟨w.heap.size, 1, none⟩ = some v1 := G1.out.drew.box.cell 1 (by simp)
          have c1 : (wr.alloc (.cells #[.int .i64 (x : Int)] 3)).cell? ⟨w.heap.size, 1, none⟩ = some v1 := Ga.out.box.cell 1 (by simp)
          refine wp_region_held_drew (S := (fun V => V.cell? ⟨b', o' + j0, none⟩ = some (.int .i64 (x : Int)) ∧ V.cell? ⟨b', o' + j0, none⟩ = some (.int .i64 (x : Int)))) (by kernel_rfl) (KQ.out _ (Below.refl _ wr).drew) (fun hH => ?_)
          refine tk (i := 0) (v := .pointer (some ⟨w.heap.size, 1, none⟩)) rfl (by kernel_rfl) (fun _ _ _ h => h) rfl ?_ hH ?_
          · intro V hS; obtain ⟨q0, q1⟩ := hS; go_simp
          simp only [Act.put, y1, y2, y3, y4, y5, y6, y7]
          refine tk (i := 2) (v := (.slice (some ⟨b', o', none⟩) l.length c)) rfl (by kernel_rfl) (fun _ _ _ h => h) rfl ?_ hH ?_
          · intro V hS; obtain ⟨q0, q1⟩ := hS; go_simp
          simp only [Act.put, y1, y2, y3, y4, y5, y6, y7]
          refine tk (i := 3) (v := (.slice (some ⟨b', o', none⟩) l.length c)) rfl (by kernel_rfl) (fun _ _ _ h => h) rfl ?_ hH ?_
          · intro V hS; obtain ⟨q0, q1⟩ := hS; go_simp
          simp only [Act.put, y1, y2, y3, y4, y5, y6, y7]
          refine tk (i := 4) (v := .int .i64 (l.length : Int)) rfl (by kernel_rfl) (fun _ _ _ h => h) rfl ?_ hH ?_
          · intro V hS; obtain ⟨q0, q1⟩ := hS; go_simp
          simp only [Act.put, y1, y2, y3, y4, y5, y6, y7]
          refine tk (i := 5) (v := .int .i64 (j0 : Int)) rfl (by kernel_rfl) (fun _ _ _ h => h) rfl ?_ hH ?_
          · intro V hS; obtain ⟨q0, q1⟩ := hS; go_simp
          simp only [Act.put, y1, y2, y3, y4, y5, y6, y7]
          refine tk (i := 6) (v := .pointer (some ⟨b', o' + j0, none⟩)) rfl (by kernel_rfl) (fun _ _ _ h => h) rfl ?_ hH ?_
          · intro V hS; obtain ⟨q0, q1⟩ := hS; go_simp
          simp only [Act.put, y1, y2, y3, y4, y5, y6, y7]
          refine tk (i := 7) (v := .int .i64 (x : Int)) rfl (by kernel_rfl) (fun _ _ _ h => h) rfl ?_ hH ?_
          · intro V hS; obtain ⟨q0, q1⟩ := hS; go_simp
          simp only [Act.put, y1, y2, y3, y4, y5, y6, y7]
          refine wpAnyH_ready (rs := [1, 8]) (by kernel_rfl) (by simp) ?_
          refine AllReadyH.cons rfl (fun K hK => ?_) (AllReadyH.cons rfl (fun K hK => ?_) AllReadyH.nil)
          · clear hH
            go_simp
            refine hK.out _ _ (KQ.out _ (Below.refl _ wr).drew) (fun hH => ?_)
            clear hK K
            try simp only [Act.put, y1, y2, y3, y4, y5, y6, y7]
            refine wpAnyH_ready (rs := [8]) (by kernel_rfl) (by simp) ?_
            refine AllReadyH.cons rfl (fun K hK => ?_) AllReadyH.nil
            clear hH
            go_simp
            refine hK.out _ _ (KQ.out _ Ba.out) (fun hH => ?_)
            clear hK K
            try simp only [Act.put, y1, y2, y3, y4, y5, y6, y7]
            refine wpAnyH_ready (rs := [9]) (by kernel_rfl) (by simp) ?_
            refine AllReadyH.cons rfl (fun K hK => ?_) AllReadyH.nil
            clear hH
            refine wp_append_lies _ (.tmp 50) (.tmp 57) 29 rfl w.heap.size 3 i3 (.int .i64 0) 1 8 Try.underlying29 hi3 hz3 hy3 hb3 rfl (by decide) v1 k (ivs (odN l k)) rfl Ga.out.r1 ⟨wr.heap.size, 0, none⟩ 1 1 [.int .i64 (x : Int)] rfl rfl Ca.out (fun u hu => by simp at hu; subst hu; rfl) (by omega) (by unfold maxLen; omega) (by omega) Ga.out.bl.size _ rfl ?_
            intro g1 cc1 wb hown hgrow hat hlt
            obtain ⟨hbx, hgs⟩ := Ga.out.app1 hown hgrow hat
            have Gb : Hid (GS w (wb.setCell ⟨w.heap.size, 1, none⟩ (.slice (some ⟨g1, 0, none⟩) (k + 1) cc1)) k (gvs (prs l k)) k (ivs (ev l)) (k + 1) (ivs (odN l k) ++ [.int .i64 (x : Int)]) u3 v0 (.slice (some ⟨g1, 0, none⟩) (k + 1) cc1)) := hgs
            have hcb := hbx.cell 1 (by simp)
            have hfb := hbx.frozen 1
            have Bb : Hid (Below w.heap.size wr wb) := Ba.out.grown hgrow (Nat.le_trans G1.out.bl.size Ba.out.size) (fun k hk => (Ga.out.r1.lt k hk).1)
            have Bc : Hid (Below w.heap.size wr (wb.setCell ⟨w.heap.size, 1, none⟩ (.slice (some ⟨g1, 0, none⟩) (k + 1) cc1))) := Bb.out.setCell (p := ⟨w.heap.size, 1, none⟩) (Nat.le_refl _) _
            clear hown hgrow hat hlt hgs hbx
            refine hK.out _ _ (KQ.out _ Bb.out) (fun hH => ?_)
            clear hK K
            try simp only [Act.put, y1, y2, y3, y4, y5, y6, y7]
            refine tk (i := 10) (v := .pointer (some ⟨w.heap.size, 1, none⟩)) rfl (by kernel_rfl) (fun _ _ _ h => h) rfl ?_ hH ?_
            · intro V hS; obtain ⟨q0, q1⟩ := hS; go_simp
            simp only [Act.put, y1, y2, y3, y4, y5, y6, y7]
            refine wpAnyH_ready (rs := [11]) (by kernel_rfl) (by simp) ?_
            refine AllReadyH.cons rfl (fun K hK => ?_) AllReadyH.nil
            clear hH
            go_simp
            refine hK.out _ _ (KQ.out _ Bc.out) (fun hH => ?_)
            clear hK K
            try simp only [Act.put, y1, y2, y3, y4, y5, y6, y7]
            refine wpAnyH_done (by kernel_rfl) ?_ _
            clear hH
            clear c0 c1 hcb hfb
            go_wp2_with fail
            go_meet
            case rel => exact ⟨_, by rw [OD.out, ivs_append, List.length_append, odN_len]; exact Gb.out⟩
          · clear hH
            go_simp
            refine hK.out _ _ (KQ.out _ Ba.out) (fun hH => ?_)
            clear hK K
            try simp only [Act.put, y1, y2, y3, y4, y5, y6, y7]
            refine wpAnyH_ready (rs := [1]) (by kernel_rfl) (by simp) ?_
            refine AllReadyH.cons rfl (fun K hK => ?_) AllReadyH.nil
            clear hH
            go_simp
            refine hK.out _ _ (KQ.out _ Ba.out) (fun hH => ?_)
            clear hK K
            try simp only [Act.put, y1, y2, y3, y4, y5, y6, y7]
            refine wpAnyH_ready (rs := [9]) (by kernel_rfl) (by simp) ?_
            refine AllReadyH.cons rfl (fun K hK => ?_) AllReadyH.nil
            clear hH
            refine wp_append_lies _ (.tmp 50) (.tmp 57) 29 rfl w.heap.size 3 i3 (.int .i64 0) 1 8 Try.underlying29 hi3 hz3 hy3 hb3 rfl (by decide) v1 k (ivs (odN l k)) rfl Ga.out.r1 ⟨wr.heap.size, 0, none⟩ 1 1 [.int .i64 (x : Int)] rfl rfl Ca.out (fun u hu => by simp at hu; subst hu; rfl) (by omega) (by unfold maxLen; omega) (by omega) Ga.out.bl.size _ rfl ?_
            intro g1 cc1 wb hown hgrow hat hlt
            obtain ⟨hbx, hgs⟩ := Ga.out.app1 hown hgrow hat
            have Gb : Hid (GS w (wb.setCell ⟨w.heap.size, 1, none⟩ (.slice (some ⟨g1, 0, none⟩) (k + 1) cc1)) k (gvs (prs l k)) k (ivs (ev l)) (k + 1) (ivs (odN l k) ++ [.int .i64 (x : Int)]) u3 v0 (.slice (some ⟨g1, 0, none⟩) (k + 1) cc1)) := hgs
            have hcb := hbx.cell 1 (by simp)
            have hfb := hbx.frozen 1
            have Bb : Hid (Below w.heap.size wr wb) := Ba.out.grown hgrow (Nat.le_trans G1.out.bl.size Ba.out.size) (fun k hk => (Ga.out.r1.lt k hk).1)
            have Bc : Hid (Below w.heap.size wr (wb.setCell ⟨w.heap.size, 1, none⟩ (.slice (some ⟨g1, 0, none⟩) (k + 1) cc1))) := Bb.out.setCell (p := ⟨w.heap.size, 1, none⟩) (Nat.le_refl _) _
            clear hown hgrow hat hlt hgs hbx
            refine hK.out _ _ (KQ.out _ Bb.out) (fun hH => ?_)
            clear hK K
            try simp only [Act.put, y1, y2, y3, y4, y5, y6, y7]
            refine tk (i := 10) (v := .pointer (some ⟨w.heap.size, 1, none⟩)) rfl (by kernel_rfl) (fun _ _ _ h => h) rfl ?_ hH ?_
            · intro V hS; obtain ⟨q0, q1⟩ := hS; go_simp
            simp only [Act.put, y1, y2, y3, y4, y5, y6, y7]
            refine wpAnyH_ready (rs := [11]) (by kernel_rfl) (by simp) ?_
            refine AllReadyH.cons rfl (fun K hK => ?_) AllReadyH.nil
            clear hH
            go_simp
            refine hK.out _ _ (KQ.out _ Bc.out) (fun hH => ?_)
            clear hK K
            try simp only [Act.put, y1, y2, y3, y4, y5, y6, y7]
            refine wpAnyH_done (by kernel_rfl) ?_ _
            clear hH
            clear c0 c1 hcb hfb
            go_wp2_with fail
            go_meet
            case rel => exact ⟨_, by rw [OD.out, ivs_append, List.length_append, odN_len]; exact Gb.out⟩
      case rest =>
        obtain ⟨v1', hgs⟩ := hcut
        have G2 : Hid (GS w wc k (gvs (prs l k)) k (ivs (ev l)) (od l).length (ivs (od l)) u3 v0 v1') := hgs
        clear hgs G1
        obtain ⟨gF, cF, rfl, hgF, hgF2⟩ := G2.out.rf.form hk1
        obtain ⟨aE0, cE0, rfl, hV0, _⟩ := own_vl G2.out.r0
        obtain ⟨aO0, cO0, rfl, hV1, _⟩ := own_vl G2.out.r1
        have hcap : k ≤ cF := by
          obtain ⟨_, ⟨q, _⟩ | ⟨g, cap, cur, q, _, _, q2, _⟩⟩ := G2.out.rf
          · cases q
          · cases q; exact q2
        obtain ⟨aF2, cF2, eF2, hVF, _⟩ := own_vl G2.out.rf
        cases eF2
        obtain ⟨q, hq⟩ : ∃ q, q = (l.length - 1) / 2 := ⟨_, rfl⟩
        have hqk : q ≤ k := by have := HM.out; omega
        have hqc : (q : Int) ≤ (cF : Int) := by omega
        have hqc2 : q ≤ cF := by omega
        rw [← hq] at H25
        have HQ : Hid (q = (l.length - 1) / 2) := hq
        clear hq
        have HVF : Hid (∀ V, Below wc.heap.size wc V → VL V (some ⟨gF, 0, none⟩) (gvs (prs l k)) ∧ VL V (some ⟨gF, 0, none⟩) (gvs (prs l q))) := fun V hV => by
          have h1 := hVF.of_below hV
          refine ⟨h1, ?_⟩
          have h2 := h1.take (q * 2)
          rw [← gvs_take, prs_take l k q hqk] at h2
          exact h2
        have E0 : Hid (k = (ev l).length) := by show _ = _; rw [ev_len, HM.out]
        have H0 : Hid (∀ V, Below wc.heap.size wc V → Calls Try.prog 22 #[.slice aE0 k cE0] V fun e w' => (∃ v, e = .returned v ∧ w'.ownsRow V.heap.size 28 2 v (gates (ev l)).length (gvs (gates (ev l)))) ∧ Below V.heap.size V w') := fun V hV => by
          have q := HC0.out V aE0 cE0 (hV0.of_below hV)
          rw [← E0.out] at q
          exact q
        have H1 : Hid (∀ V, Below wc.heap.size wc V → Calls Try.prog 22 #[.slice aO0 (od l).length cO0] V fun e w' => (∃ v, e = .returned v ∧ w'.ownsRow V.heap.size 28 2 v (gates (od l)).length (gvs (gates (od l)))) ∧ Below V.heap.size V w') := fun V hV => HC1.out V aO0 cO0 (hV1.of_below hV)
        have hle0 : (gates (ev l)).length ≤ 4096 := gates_le (by rw [ev_len]; omega)
        have hle1 : (gates (od l)).length ≤ 4096 := gates_le (by rw [od_len]; omega)
        have hgl : Hid (gates l = prs l k ++ gates (ev l) ++ gates (od l) ++ prs l q) := by show _ = _; rw [HM.out, HQ.out]; exact HG.out
        have BX : Hid (∀ V, Below wc.heap.size wc V → (V.cell? ⟨w.heap.size, 0, none⟩ = some (.slice aE0 k cE0) ∧ V.cell? ⟨w.heap.size, 1, none⟩ = some (.slice aO0 (od l).length cO0))) := fun V hV => ⟨cell_keep (G2.out.box.cell 0 (by simp)) hV, cell_keep (G2.out.box.cell 1 (by simp)) hV⟩
        have BL : Hid (Below w.heap.size w wc) := G2.out.bl
        clear hV0 hV1 hVF G2 HC0 HC1 HG
        generalize gates (ev l) = gE at *
        generalize gates (od l) = gO at *
        have TR : Hid (∀ V V', Below wc.heap.size wc V → Below V.heap.size V V' → Below wc.heap.size wc V') := fun V V' h1 h2 => h1.trans (h2.mono h1.size)
        go_wp2_with fail
        go_region_held3 (fun V => V.cell? ⟨w.heap.size, 0, none⟩ = some (.slice aE0 k cE0) ∧ V.cell? ⟨w.heap.size, 1, none⟩ = some (.slice aO0 (od l).length cO0))
          (first | exact BX.out _ (Below.refl _ wc).drew | exact BX.out _ BA.out | exact BX.out _ BB.out | exact BX.out _ BC.out | exact BX.out _ BD.out | assumption | fail)
          (first
            | (go_at_call 22; refine (H0.out _ (Below.refl _ wc).drew).mono ?_; rintro e wA ⟨⟨vE, rfl, hO⟩, hB⟩; obtain ⟨aE, cE, rfl, hVE, hnE⟩ := own_vl hO; have BA : Hid (Below wc.heap.size wc wA) := TR.out _ _ (Below.refl _ wc).drew hB; have VE : Hid (VL wA aE (gvs gE)) := hVE; have NE : Hid (aE = none → cE = 0) := hnE; clear hO hB hVE hnE H0)
            | (go_at_call 22; refine (H1.out _ BA.out).mono ?_; rintro e wB ⟨⟨vO, rfl, hO⟩, hB⟩; obtain ⟨aO, cO, rfl, hVO, hnO⟩ := own_vl hO; have BB : Hid (Below wc.heap.size wc wB) := TR.out _ _ BA.out hB; have VO : Hid (VL wB aO (gvs gO)) := hVO; have NO : Hid (aO = none → cO = 0) := hnO; replace VE : Hid (VL wB aE (gvs gE)) := VE.out.of_below hB; clear hO hB hVO hnO H1)
            | (go_at_call 25; refine (H25.out _).mono ?_; rintro e ww ⟨rfl, hww⟩; obtain rfl := hww.symm; clear H25; have BC : Hid (Below wc.heap.size wc (wB.alloc (.cells #[.slice (some ⟨gF, 0, none⟩) k cF, .slice aE gE.length cE, .slice aO gO.length cO, .slice (some ⟨gF, 0, none⟩) q cF] 23))) := BB.out.alloc BB.out.size _; have CC : Hid (Calls Try.prog 28 #[.slice (some ⟨wB.heap.size, 0, none⟩) 4 4] (wB.alloc (.cells #[.slice (some ⟨gF, 0, none⟩) k cF, .slice aE gE.length cE, .slice aO gO.length cO, .slice (some ⟨gF, 0, none⟩) q cF] 23)) _) := cat_on (HVF.out _ BB.out).1 (HVF.out _ BB.out).2 VE.out VO.out (fun z => by cases z) NE.out NO.out (prs_len _ _) (prs_len _ _) hk9 (by omega) hle0 hle1)
            | (go_at_call 28; refine (CC.out).mono ?_; rintro e wD ⟨⟨vD, rfl, hO⟩, hB⟩; have BD : Hid (Below wc.heap.size wc wD) := BC.out.trans (hB.mono BB.out.size); have OD : Hid (wD.ownsRow wB.heap.size 28 2 vD (prs l k ++ gE ++ gO ++ prs l q).length (gvs (prs l k ++ gE ++ gO ++ prs l q))) := hO; clear hO hB)
            | fail)
        go_wp2_with fail
        go_ret
        refine ⟨⟨_, rfl, ?_⟩, BL.out.trans (BD.out.mono BL.out.size)⟩
        rw [hgl.out]
        exact own_mono OD.out (Nat.le_trans BL.out.size BB.out.size)
end Go.Proofs.Ytelfcapjegncfaa
