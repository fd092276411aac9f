/- The document's Gates. -/
import Derived.Test.YtelfcapjegncfaaRa
set_option linter.unusedSimpArgs false
set_option linter.unusedVariables false
set_option maxRecDepth 100000
namespace Go.Proofs.Ytelfcapjegncfaa
open Go.RowKit Go.Deep Go.PlainAid

/-- What the document's Gates tells of a list. -/
def GaC (l : List Nat) : Prop := ∀ (w : World) (a : Option Addr) (c : Nat), VL w a (ivs l) → Calls Try.prog 14 #[.slice a l.length c] w fun e w' => (∃ v, e = .returned v ∧ w'.ownsRow w.heap.size 28 2 v (gates l).length (gvs (gates l))) ∧ Below w.heap.size w w'
theorem ga_low {l : List Nat} (h : l.length < 2) : GaC l := by
  intro w a c hl
  rw [gates_low h]
  have il : (l.length : Int) < 2 := by omega
  go_enter Try.func14, Try.ntmps14
  go_wp2_with fail
  go_ret
  exact ⟨⟨_, rfl, World.ownsRow_nil _ _ _ _⟩, Below.refl _ _⟩
theorem gvs_one : ∀ (l : List (Nat × Nat)), ∀ u ∈ gvs l, u.oneCell' = true
  | [], u, hu => by cases hu
  | p :: l, u, hu => by
    simp only [gvs, List.mem_cons] at hu
    rcases hu with rfl | rfl | hu
    · rfl
    · rfl
    · exact gvs_one l u hu
theorem vl_opt {w : World} {a : Option Addr} {c : Nat} {g : List (Nat × Nat)} (h : VL w a (gvs g)) (hn : a = none → c = 0) : a = none → g.length = 0 ∧ c = 0 := fun e => by
  subst e
  have q := congrArg List.length h.none_nil
  rw [gvs_len] at q
  simp only [List.length_nil] at q
  exact ⟨by omega, hn rfl⟩
theorem vl_add {w : World} {a : Option Addr} {vs : List Value} (h : VL w a vs) : ∀ ad', a = some ad' → ∀ j u, vs[j]? = some u → w.cell? (ad'.add j) = some u := fun ad' e => by
  subst e
  exact h.cellsA
theorem gates_two {l : List Nat} (h : l.length = 2) : gates l = [(l.getD 0 0, l.getD 1 0)] := by
  rw [gates_step (by omega), gates_low (l := ev l) (by rw [ev_len]; omega), gates_low (l := od l) (by rw [od_len]; omega), h]
  simp [prs, gX]
set_option maxHeartbeats 1000000 in
theorem ga_two {l : List Nat} (h : l.length = 2) : GaC l := by
  intro w a c hl
  rw [gates_two h, h]
  obtain ⟨b, o, rfl, q0⟩ := hl.int 0 (by omega)
  obtain ⟨b', o', e', q1⟩ := hl.int 1 (by omega)
  obtain ⟨rfl, rfl⟩ : b' = b ∧ o' = o := by simpa [eq_comm] using e'
  rw [← getD_at (by omega), Nat.add_zero] at q0
  rw [← getD_at (by omega)] at q1
  generalize l.getD 0 0 = x at *
  generalize l.getD 1 0 = y at *
  have KQ : Hid (∀ V, Below w.heap.size w V → (V.cell? ⟨b', o', none⟩ = some (.int .i64 (x : Int)) ∧ V.cell? ⟨b', o' + 1, none⟩ = some (.int .i64 (y : Int)))) := fun V hV => ⟨cell_keep q0 hV, cell_keep q1 hV⟩
  have B8 : Hid (Below w.heap.size w (w.drew.alloc (.cells #[.int .i64 (x : Int), .int .i64 (y : Int)] 28))) := ((Below.refl _ w).drew).alloc (Nat.le_refl _) _
  have O8 : Hid ((w.drew.alloc (.cells #[.int .i64 (x : Int), .int .i64 (y : Int)] 28)).ownsRow w.heap.size 28 2 (.slice (some ⟨w.heap.size, 0, none⟩) 1 1) 1 [.int .i64 (x : Int), .int .i64 (y : Int)]) := World.ownsRow_lit w.drew #[.int .i64 (x : Int), .int .i64 (y : Int)] 1 (Nat.le_refl _) (by unfold maxLen; omega) rfl
  clear q0 q1 hl h e'
  go_enter Try.func14, Try.ntmps14
  go_wp2_with fail
  go_region_held3 (fun V => V.cell? ⟨b', o', none⟩ = some (.int .i64 (x : Int)) ∧ V.cell? ⟨b', o' + 1, none⟩ = some (.int .i64 (y : Int)))
    (first | exact KQ.out _ (Below.refl _ w).drew | exact KQ.out _ B8.out | assumption | fail)
    (fail)
  go_wp2_with fail
  go_ret
  exact ⟨⟨_, rfl, O8.out⟩, B8.out⟩

set_option maxHeartbeats 4000000 in
theorem ga_step {l : List Nat} (h : 2 < l.length) (h256 : l.length ≤ 256) (IH0 : GaC (ev l)) (IH1 : GaC (od l)) : GaC l := by
  intro w a c hl
  have HL : Hid (VL w a (ivs l)) := hl
  have HC0 : Hid (GaC (ev l)) := IH0
  have HC1 : Hid (GaC (od l)) := IH1
  have HG : Hid (gates l = prs l (l.length / 2) ++ gates (ev l) ++ gates (od l) ++ prs l ((l.length - 1) / 2)) := gates_step (by omega)
  have il2 : ¬ (l.length : Int) < 2 := by omega
  have il3 : ((l.length : Int) == 2) = false := by simp; omega
  obtain ⟨i28, hi28, hz28, hy28, hb28⟩ := info_parts info28
  obtain ⟨i3, hi3, hz3, hy3, hb3⟩ := info_parts info3
  have G0 : Hid (RS w w 0 [] 0 [] 0 [] (.slice none 0 0) (.slice none 0 0) (.slice none 0 0)) := ⟨World.ownsRow_nil _ _ _ _, World.ownsRow_nil _ _ _ _, World.ownsRow_nil _ _ _ _, Dj.nil _, Dj.nil _, Dj.nil _, Below.refl _ _⟩
  clear hl IH0 IH1
  obtain ⟨m, hm⟩ : ∃ m, m = l.length / 2 := ⟨_, rfl⟩
  have HM : Hid (m = l.length / 2) := hm
  have km : Int.tdiv (l.length : Int) 2 = (m : Int) := by rw [hm]; rfl
  obtain ⟨m2, hm2⟩ : ∃ m2, m2 = 2 * m := ⟨_, rfl⟩
  have km2 : 2 * (m : Int) = (m2 : Int) := by omega
  have HM2 : Hid (m2 = 2 * m) := hm2
  have hmm : m ≤ 256 := by omega
  have hmm2 : m2 ≤ 512 := by omega
  clear hm hm2
  go_enter Try.func14, Try.ntmps14
  go_wp2_with fail
  go_loopg [5, 6, 7, 8, 9, 32] l.length (fun gk v5 v6 v7 v8 v9 v32 wr => ∃ (i : Nat), i + gk = l.length ∧ v32 = .int .i64 (i : Int) ∧ RS w wr i (ivs (l.take i)) (upA l m i).length (ivs (upA l m i)) (loA l m i).length (ivs (loA l m i)) v5 v6 v7)
  case atStart => exact ⟨0, by omega, rfl, by simpa [upA, loA, evN, odN, ivs] using G0.out⟩
  case round =>
    obtain ⟨i, hig, rfl, hG⟩ := hrel
    have G1 : Hid (RS w wr i (ivs (l.take i)) (upA l m i).length (ivs (upA l m i)) (loA l m i).length (ivs (loA l m i)) u5 u6 u7) := hG
    clear hG G0
    by_cases hi : i < l.length
    · have il : (i : Int) < (l.length : Int) := by omega
      obtain ⟨b, o, rfl, q0⟩ := (HL.out.of_below G1.out.bl).int i hi
      have TK : Hid (l.take (i + 1) = l.take i ++ [l.getD i 0]) := by
        show _ = _
        rw [getD_at hi]
        exact List.take_succ_eq_append_getElem hi
      rw [← getD_at hi] at q0
      have HU : Hid ((i < 2 * m → i % 2 = 0 → upA l m (i + 1) = upA l m i ++ [l.getD i 0] ∧ loA l m (i + 1) = loA l m i) ∧ (¬ (i < 2 * m ∧ i % 2 = 0) → upA l m (i + 1) = upA l m i ∧ loA l m (i + 1) = loA l m i ++ [l.getD i 0])) := by
        refine ⟨fun h1 h2 => up_even h1 h2, fun h1 => ?_⟩
        by_cases h2 : i < 2 * m
        · exact up_odd h2 (fun e => h1 ⟨h2, e⟩)
        · exact up_last (by have := HM.out; omega)
      have hul := upA_len l m i
      have hll := loA_len l m i
      have AP : Hid (∀ X : List Nat, ivs (X ++ [l.getD i 0]) = ivs X ++ [.int .i64 (l.getD i 0 : Int)]) := fun X => by rw [ivs_append]; rfl
      generalize l.getD i 0 = x at *
      generalize hua : upA l m i = U at *
      generalize hla : loA l m i = L at *
      clear hua hla
      have HTL : Hid ((l.take i).length = i) := by show _ = _; rw [List.length_take]; omega
      generalize l.take i = K at *
      obtain ⟨r, hr⟩ : ∃ r, r = i % 2 := ⟨_, rfl⟩
      have kr : Int.tmod (i : Int) 2 = (r : Int) := by rw [hr]; rfl
      rw [← hr, ← HM2.out] at HU
      clear hr
      have S1 : Hid (w.heap.size ≤ wr.heap.size) := G1.out.bl.size
      have G2 : Hid (RS w (wr.alloc (.cells #[.int .i64 (x : Int)] 3)) i (ivs K) U.length (ivs U) L.length (ivs L) u5 u6 u7) := G1.out.alloc _
      by_cases hc : i < m2 ∧ r = 0
      · obtain ⟨hc1, hc2⟩ := hc
        have kc1 : (i : Int) < (m2 : Int) := by omega
        have kc2 : ((r : Int) == 0) = true := by simp; omega
        obtain ⟨e1, e2⟩ := HU.out.1 hc1 hc2
        have E1 : Hid _ := e1
        have E2 : Hid _ := e2
        clear e1 e2 HU hc1 hc2
        go_wp2_with (first
          | (at_builtin; refine wpList_append_lies _ rfl (.tmp 46) (.tmp 48) 29 rfl w.heap.size 3 i3 (.int .i64 0) 1 8 Try.underlying29 hi3 hz3 hy3 hb3 rfl (by decide) u6 U.length (ivs U) rfl G2.out.r6 ⟨wr.heap.size, 0, none⟩ 1 1 [.int .i64 (x : Int)] rfl rfl (one_new wr _ 3) (fun u hu => by simp at hu; subst hu; rfl) (by omega) (by unfold maxLen; omega) (by omega) G2.out.bl.size _ rfl ?_; intro gB cB wb hown hgrow hat hlt; have G3 : Hid (RS w wb i (ivs K) (U.length + 1) (ivs U ++ [.int .i64 (x : Int)]) L.length (ivs L) u5 (.slice (some ⟨gB, 0, none⟩) (U.length + 1) cB) u7) := G2.out.app6 hown hgrow hat; have G4 : Hid (RS w (wb.alloc (.cells #[.int .i64 (x : Int)] 3)) i (ivs K) (U.length + 1) (ivs U ++ [.int .i64 (x : Int)]) L.length (ivs L) u5 (.slice (some ⟨gB, 0, none⟩) (U.length + 1) cB) u7) := G3.out.alloc _; clear hown hgrow hat hlt G2)
          | (at_builtin; refine wpList_append_lies _ rfl (.tmp 54) (.tmp 56) 29 rfl w.heap.size 3 i3 (.int .i64 0) 1 8 Try.underlying29 hi3 hz3 hy3 hb3 rfl (by decide) u5 i (ivs K) rfl G4.out.r5 ⟨wb.heap.size, 0, none⟩ 1 1 [.int .i64 (x : Int)] rfl rfl (one_new wb _ 3) (fun u hu => by simp at hu; subst hu; rfl) (by omega) (by unfold maxLen; omega) (by omega) G4.out.bl.size _ rfl ?_; intro gC cC wd hown hgrow hat hlt; have G5 : Hid (RS w wd (i + 1) (ivs K ++ [.int .i64 (x : Int)]) _ _ _ _ (.slice (some ⟨gC, 0, none⟩) (i + 1) cC) _ _) := G4.out.app5 hown hgrow hat; clear hown hgrow hat hlt G4)
          | fail)
        go_roundg (gk - 1)
        case measure => omega
        case rel => exact ⟨i + 1, by omega, by go_num, by rw [TK.out, E1.out, E2.out, AP.out, AP.out, List.length_append]; exact G5.out⟩
      · obtain ⟨e1, e2⟩ := HU.out.2 hc
        have E1 : Hid _ := e1
        have E2 : Hid _ := e2
        clear e1 e2 HU
        by_cases hc1 : i < m2
        · have kc1 : (i : Int) < (m2 : Int) := by omega
          have kc2 : ((r : Int) == 0) = false := by simp; omega
          clear hc hc1
          go_wp2_with (first
            | (at_builtin; refine wpList_append_lies _ rfl (.tmp 50) (.tmp 52) 29 rfl w.heap.size 3 i3 (.int .i64 0) 1 8 Try.underlying29 hi3 hz3 hy3 hb3 rfl (by decide) u7 L.length (ivs L) rfl G2.out.r7 ⟨wr.heap.size, 0, none⟩ 1 1 [.int .i64 (x : Int)] rfl rfl (one_new wr _ 3) (fun u hu => by simp at hu; subst hu; rfl) (by omega) (by unfold maxLen; omega) (by omega) G2.out.bl.size _ rfl ?_; intro gB cB wb hown hgrow hat hlt; have G3 : Hid (RS w wb i (ivs K) U.length (ivs U) (L.length + 1) (ivs L ++ [.int .i64 (x : Int)]) u5 u6 (.slice (some ⟨gB, 0, none⟩) (L.length + 1) cB)) := G2.out.app7 hown hgrow hat; have G4 : Hid (RS w (wb.alloc (.cells #[.int .i64 (x : Int)] 3)) i (ivs K) U.length (ivs U) (L.length + 1) (ivs L ++ [.int .i64 (x : Int)]) u5 u6 (.slice (some ⟨gB, 0, none⟩) (L.length + 1) cB)) := G3.out.alloc _; clear hown hgrow hat hlt G2)
            | (at_builtin; refine wpList_append_lies _ rfl (.tmp 54) (.tmp 56) 29 rfl w.heap.size 3 i3 (.int .i64 0) 1 8 Try.underlying29 hi3 hz3 hy3 hb3 rfl (by decide) u5 i (ivs K) rfl G4.out.r5 ⟨wb.heap.size, 0, none⟩ 1 1 [.int .i64 (x : Int)] rfl rfl (one_new wb _ 3) (fun u hu => by simp at hu; subst hu; rfl) (by omega) (by unfold maxLen; omega) (by omega) G4.out.bl.size _ rfl ?_; intro gC cC wd hown hgrow hat hlt; have G5 : Hid (RS w wd (i + 1) (ivs K ++ [.int .i64 (x : Int)]) _ _ _ _ (.slice (some ⟨gC, 0, none⟩) (i + 1) cC) _ _) := G4.out.app5 hown hgrow hat; clear hown hgrow hat hlt G4)
            | fail)
          go_roundg (gk - 1)
          case measure => omega
          case rel => exact ⟨i + 1, by omega, by go_num, by rw [TK.out, E1.out, E2.out, AP.out, AP.out, List.length_append]; exact G5.out⟩
        · have kc1 : ¬ (i : Int) < (m2 : Int) := by omega
          clear hc hc1
          go_wp2_with (first
            | (at_builtin; refine wpList_append_lies _ rfl (.tmp 50) (.tmp 52) 29 rfl w.heap.size 3 i3 (.int .i64 0) 1 8 Try.underlying29 hi3 hz3 hy3 hb3 rfl (by decide) u7 L.length (ivs L) rfl G2.out.r7 ⟨wr.heap.size, 0, none⟩ 1 1 [.int .i64 (x : Int)] rfl rfl (one_new wr _ 3) (fun u hu => by simp at hu; subst hu; rfl) (by omega) (by unfold maxLen; omega) (by omega) G2.out.bl.size _ rfl ?_; intro gB cB wb hown hgrow hat hlt; have G3 : Hid (RS w wb i (ivs K) U.length (ivs U) (L.length + 1) (ivs L ++ [.int .i64 (x : Int)]) u5 u6 (.slice (some ⟨gB, 0, none⟩) (L.length + 1) cB)) := G2.out.app7 hown hgrow hat; have G4 : Hid (RS w (wb.alloc (.cells #[.int .i64 (x : Int)] 3)) i (ivs K) U.length (ivs U) (L.length + 1) (ivs L ++ [.int .i64 (x : Int)]) u5 u6 (.slice (some ⟨gB, 0, none⟩) (L.length + 1) cB)) := G3.out.alloc _; clear hown hgrow hat hlt G2)
            | (at_builtin; refine wpList_append_lies _ rfl (.tmp 54) (.tmp 56) 29 rfl w.heap.size 3 i3 (.int .i64 0) 1 8 Try.underlying29 hi3 hz3 hy3 hb3 rfl (by decide) u5 i (ivs K) rfl G4.out.r5 ⟨wb.heap.size, 0, none⟩ 1 1 [.int .i64 (x : Int)] rfl rfl (one_new wb _ 3) (fun u hu => by simp at hu; subst hu; rfl) (by omega) (by unfold maxLen; omega) (by omega) G4.out.bl.size _ rfl ?_; intro gC cC wd hown hgrow hat hlt; have G5 : Hid (RS w wd (i + 1) (ivs K ++ [.int .i64 (x : Int)]) _ _ _ _ (.slice (some ⟨gC, 0, none⟩) (i + 1) cC) _ _) := G4.out.app5 hown hgrow hat; clear hown hgrow hat hlt G4)
            | fail)
          go_roundg (gk - 1)
          case measure => omega
          case rel => exact ⟨i + 1, by omega, by go_num, by rw [TK.out, E1.out, E2.out, AP.out, AP.out, List.length_append]; exact G5.out⟩
    · have il : ¬ (i : Int) < (l.length : Int) := by omega
      obtain rfl : i = l.length := by omega
      have HE := up_end l
      rw [← HM.out] at HE
      have G2 : Hid (RS w wr l.length (ivs l) (ev l).length (ivs (ev l)) (od l).length (ivs (od l)) u5 u6 u7) := by
        have q := G1.out
        rw [HE.1, HE.2, List.take_length] at q
        exact q
      clear HE G1 hi hig
      obtain ⟨a5, c5, rfl, hV5, _⟩ := own_vl G2.out.r5
      obtain ⟨a6, c6, rfl, hV6, _⟩ := own_vl G2.out.r6
      obtain ⟨a7, c7, rfl, hV7, _⟩ := own_vl G2.out.r7
      have BL : Hid (Below w.heap.size w wr) := G2.out.bl
      have V5 : Hid (VL wr a5 (ivs l)) := hV5
      have V6 : Hid (VL wr a6 (ivs (ev l))) := hV6
      have V7 : Hid (VL wr a7 (ivs (od l))) := hV7
      clear G2 hV5 hV6 hV7 HL
      obtain ⟨W, rfl⟩ : ∃ W, W = wr := ⟨wr, rfl⟩
      go_wp2_with fail
      go_loopg [10, 11] m (fun gk v10 v11 wq => ∃ i : Nat, i + gk = m ∧ v11 = .int .i64 (i : Int) ∧ wq.ownsRow W.heap.size 28 2 v10 (0 + i) (gvs (([] : List (Nat × Nat)) ++ prs l i)) ∧ Below W.heap.size W wq)
      case atStart => exact ⟨0, by omega, rfl, World.ownsRow_nil _ _ _ _, Below.refl _ _⟩
      case round =>
        obtain ⟨i, hig, rfl, hO, hB⟩ := hrel
        have O : Hid (wr.ownsRow W.heap.size 28 2 u10 (0 + i) (gvs (([] : List (Nat × Nat)) ++ prs l i))) := hO
        have B : Hid (Below W.heap.size W wr) := hB
        clear hO hB
        by_cases hi : i < m
        · have il : (i : Int) < (m : Int) := by omega
          obtain ⟨j0, hj0⟩ : ∃ j0, j0 = 2 * i := ⟨_, rfl⟩
          obtain ⟨j, hj⟩ : ∃ j, j = 2 * i + 1 := ⟨_, rfl⟩
          have hjl : j < l.length := by have := HM.out; omega
          have kj0 : 2 * (i : Int) = (j0 : Int) := by omega
          have kj : (j0 : Int) + 1 = (j : Int) := by omega
          have il0 : (j0 : Int) < (l.length : Int) := by omega
          have il1 : (j : Int) < (l.length : Int) := by omega
          have kw0 : IntKind.i64.wrap (j0 : Int) = (j0 : Int) := wrapN (by omega)
          have kw1 : IntKind.i64.wrap (j : Int) = (j : Int) := wrapN (by omega)
          obtain ⟨b, o, rfl, q0⟩ := (V5.out.of_below B.out).int j0 (by omega)
          obtain ⟨b', o', e', q1⟩ := (V5.out.of_below B.out).int j hjl
          obtain ⟨rfl, rfl⟩ : b' = b ∧ o' = o := by simpa [eq_comm] using e'
          rw [← getD_at (by omega)] at q0
          rw [← getD_at hjl] at q1
          clear e'
          have hbw : b' < W.heap.size := by
            obtain ⟨b2, o2, e2, q2⟩ := V5.out.int j hjl
            simp only [Option.some.injEq, Addr.mk.injEq, and_true] at e2
            rw [e2.1]
            exact cell_lt q2
          have PX : Hid (gvs (([] : List (Nat × Nat)) ++ prs l (i + 1)) = gvs (([] : List (Nat × Nat)) ++ prs l i) ++ [.int .i64 (l.getD j0 0 : Int), .int .i64 (l.getD j 0 : Int)]) := by
            show _ = _
            rw [prs_succ, ← List.append_assoc, gvs_append, hj0, hj]
            rfl
          clear hj0 hj
          generalize l.getD j0 0 = x at *
          generalize l.getD j 0 = y at *
          have KQ : Hid (∀ V, Below W.heap.size wr V → (V.cell? ⟨b', o' + j0, none⟩ = some (.int .i64 (x : Int)) ∧ V.cell? ⟨b', o' + j, none⟩ = some (.int .i64 (y : Int)))) := fun V hV => ⟨(hV.cell (p := ⟨b', o' + j0, none⟩) hbw).trans q0, (hV.cell (p := ⟨b', o' + j, none⟩) hbw).trans q1⟩
          clear q0 q1
          have O8 : Hid ((wr.drew.alloc (.cells #[.int .i64 (x : Int), .int .i64 (y : Int)] 28)).ownsRow W.heap.size 28 2 u10 (0 + i) (gvs (([] : List (Nat × Nat)) ++ prs l i))) := O.out.drew.alloc _
          have B8 : Hid (Below W.heap.size wr (wr.drew.alloc (.cells #[.int .i64 (x : Int), .int .i64 (y : Int)] 28))) := ((Below.refl _ wr).drew).alloc B.out.size _
          have C8 : Hid (∀ jj u, [Value.int .i64 (x : Int), .int .i64 (y : Int)][jj]? = some u → (wr.drew.alloc (.cells #[.int .i64 (x : Int), .int .i64 (y : Int)] 28)).cell? ((⟨wr.heap.size, 0, none⟩ : Addr).add jj) = some u) := two_new wr.drew _ _ 28
          have Z8 : Hid (W.heap.size ≤ (wr.drew.alloc (.cells #[.int .i64 (x : Int), .int .i64 (y : Int)] 28)).heap.size) := Nat.le_trans B.out.size B8.out.size
          have hPL : 0 + i + 1 ≤ 100000 := by omega
          go_wp2_with fail
          go_region_held3 (fun V => V.cell? ⟨b', o' + j0, none⟩ = some (.int .i64 (x : Int)) ∧ V.cell? ⟨b', o' + j, none⟩ = some (.int .i64 (y : Int)))
            (first | exact KQ.out _ (Below.refl _ wr).drew | exact KQ.out _ B8.out | exact KQ.out _ B9.out | assumption | fail)
            (first
              | (refine step_append_lies _ (by rfl) (.tmp 64) (.tmp 77) 23 (by rfl) W.heap.size 28 i28 (.agg #[.int .i64 0, .int .i64 0]) 2 16 Try.underlying23 hi28 hz28 hy28 hb28 rfl (by decide) u10 (0 + i) (gvs (([] : List (Nat × Nat)) ++ prs l i)) (by rfl) O8.out ⟨wr.heap.size, 0, none⟩ 1 1 [.int .i64 (x : Int), .int .i64 (y : Int)] (by rfl) rfl C8.out (fun u hu => by simp at hu; rcases hu with rfl | rfl <;> rfl) (by omega) (by unfold maxLen; omega) (by omega) Z8.out _ rfl ?_; intro gF cF w9 hown hgrow hat hlt; have O9 : Hid (w9.ownsRow W.heap.size 28 2 (.slice (some ⟨gF, 0, none⟩) (0 + i + 1) cF) (0 + i + 1) (gvs (([] : List (Nat × Nat)) ++ prs l i) ++ [.int .i64 (x : Int), .int .i64 (y : Int)])) := hown; have B9 : Hid (Below W.heap.size wr w9) := B8.out.grown hgrow Z8.out (fun k hk => (O8.out.lt k hk).1); clear hown hgrow hat hlt)
              | fail)
          go_wp2_with fail
          go_roundg (gk - 1)
          case measure => omega
          case rel => exact ⟨i + 1, by omega, by go_num, by have q := O9.out; rw [← PX.out] at q; simpa only [Nat.zero_add, Nat.add_assoc] using q, B.out.trans B9.out⟩
        · have il : ¬ (i : Int) < (m : Int) := by omega
          obtain rfl : m = i := by omega
          have O2 : Hid (wr.ownsRow W.heap.size 28 2 u10 m (gvs (prs l m))) := by
            have q := O.out
            rw [Nat.zero_add, List.nil_append] at q
            exact q
          clear O hi hig
          have H0 : Hid (∀ V, Below W.heap.size W V → Calls Try.prog 14 #[.slice a6 (ev l).length c6] V fun e w' => (∃ v, e = .returned v ∧ w'.ownsRow V.heap.size 28 2 v (gates (ev l)).length (gvs (gates (ev l)))) ∧ Below V.heap.size V w') := fun V hV => HC0.out V a6 c6 (V6.out.of_below hV)
          have H1 : Hid (∀ V, Below W.heap.size W V → Calls Try.prog 14 #[.slice a7 (od l).length c7] V fun e w' => (∃ v, e = .returned v ∧ w'.ownsRow V.heap.size 28 2 v (gates (od l)).length (gvs (gates (od l)))) ∧ Below V.heap.size V w') := fun V hV => HC1.out V a7 c7 (V7.out.of_below hV)
          have hle0 : (gates (ev l)).length ≤ 4096 := gates_le (by rw [ev_len]; omega)
          have hle1 : (gates (od l)).length ≤ 4096 := gates_le (by rw [od_len]; omega)
          obtain ⟨q, hq⟩ : ∃ q, q = (l.length - 1) / 2 := ⟨_, rfl⟩
          have hgl : Hid (gates l = prs l m ++ gates (ev l) ++ gates (od l) ++ prs l q) := by show _ = _; rw [HM.out, hq]; exact HG.out
          clear HC0 HC1 HG V6 V7
          generalize gates (ev l) = gE at *
          generalize gates (od l) = gO at *
          obtain ⟨r, hr⟩ : ∃ r, r = l.length % 2 := ⟨_, rfl⟩
          have kr : Int.tmod (l.length : Int) 2 = (r : Int) := by rw [hr]; rfl
          have hqm : q ≤ m := by have := HM.out; omega
          have HQ : Hid ((r = 0 → (m : Int) - 1 = (q : Int)) ∧ (r ≠ 0 → m = q)) := by
            have := HM.out
            refine ⟨fun e => ?_, fun e => ?_⟩ <;> omega
          clear hr hq
          obtain ⟨tb, htb⟩ : ∃ tb : Bool, ((r : Int) == 0) = tb := ⟨_, rfl⟩
          have HTB : Hid (((r : Int) == 0) = tb) := htb
          go_upto_if 90 with (first
            | (go_at_call 14; refine (H0.out _ B.out).mono ?_; rintro e wA ⟨⟨vE, rfl, hO⟩, hB⟩; obtain ⟨aE, cE, rfl, hVE, hnE⟩ := own_vl hO; have BA : Hid (Below W.heap.size W wA) := B.out.trans (hB.mono B.out.size); have VE : Hid (VL wA aE (gvs gE)) := hVE; have NE : Hid (aE = none → gE.length = 0 ∧ cE = 0) := vl_opt hVE hnE; have OA : Hid (wA.ownsRow W.heap.size 28 2 u10 m (gvs (prs l m))) := own_below O2.out hB; clear hO hB hVE hnE H0)
            | (at_builtin; refine wpList_append_opt rfl (.tmp 79) (.tmp 81) 23 rfl W.heap.size 28 i28 (.agg #[.int .i64 0, .int .i64 0]) 2 16 Try.underlying23 hi28 hz28 hy28 hb28 rfl (by decide) u10 m (gvs (prs l m)) rfl OA.out aE gE.length cE (gvs gE) rfl (gvs_len _) NE.out (vl_add VE.out) (gvs_one gE) (by unfold maxLen; omega) (by omega) BA.out.size ?_; intro vB wB hown hgrow hnn; have OB : Hid (wB.ownsRow W.heap.size 28 2 vB (m + gE.length) (gvs (prs l m) ++ gvs gE)) := hown; have BB : Hid (Below W.heap.size W wB) := BA.out.grown hgrow BA.out.size (fun k hk => (OA.out.lt k hk).1); clear hown hgrow hnn OA)
            | (go_at_call 14; refine (H1.out _ BB.out).mono ?_; rintro e wA2 ⟨⟨vO, rfl, hO⟩, hB⟩; obtain ⟨aO, cO, rfl, hVO, hnO⟩ := own_vl hO; have BA2 : Hid (Below W.heap.size W wA2) := BB.out.trans (hB.mono BB.out.size); have VO : Hid (VL wA2 aO (gvs gO)) := hVO; have NO : Hid (aO = none → gO.length = 0 ∧ cO = 0) := vl_opt hVO hnO; have OA2 : Hid (wA2.ownsRow W.heap.size 28 2 vB (m + gE.length) (gvs (prs l m) ++ gvs gE)) := own_below OB.out hB; clear hO hB hVO hnO H1)
            | (at_builtin; refine wpList_append_opt rfl (.tmp 83) (.tmp 85) 23 rfl W.heap.size 28 i28 (.agg #[.int .i64 0, .int .i64 0]) 2 16 Try.underlying23 hi28 hz28 hy28 hb28 rfl (by decide) vB (m + gE.length) (gvs (prs l m) ++ gvs gE) rfl OA2.out aO gO.length cO (gvs gO) rfl (gvs_len _) NO.out (vl_add VO.out) (gvs_one gO) (by unfold maxLen; omega) (by omega) BA2.out.size ?_; intro vC wC hown hgrow hnn; have OC : Hid (wC.ownsRow W.heap.size 28 2 vC (m + gE.length + gO.length) (gvs (prs l m) ++ gvs gE ++ gvs gO)) := hown; have BC : Hid (Below W.heap.size W wC) := BA2.out.grown hgrow BA2.out.size (fun k hk => (OA2.out.lt k hk).1); clear hown hgrow hnn OA2)
            | fail)
          go_cut [12] (fun v12 wx => v12 = .int .i64 (q : Int) ∧ wC = wx)
          case first =>
            cases tb with
            | true =>
              have kq := HQ.out.1 (by have := eq_of_beq HTB.out; omega)
              go_wp2_with fail
              go_meet
              case rel => exact ⟨rfl, rfl⟩
            | false =>
              have kq := HQ.out.2 (by have := HTB.out; simp at this; omega)
              subst kq
              go_wp2_with fail
              go_meet
              case rel => exact ⟨rfl, rfl⟩
          case rest =>
            obtain ⟨rfl, rfl⟩ := hcut
            obtain ⟨P0, hP0⟩ : ∃ P0, m + gE.length + gO.length = P0 := ⟨_, rfl⟩
            obtain ⟨PP, hPP⟩ : ∃ PP, prs l m ++ gE ++ gO = PP := ⟨_, rfl⟩
            have HP0 : Hid (PP.length = P0) := by show _ = _; rw [← hPP, ← hP0, List.length_append, List.length_append, prs_len]
            have HGL : Hid (gates l = PP ++ prs l q) := by show _ = _; rw [← hPP]; exact hgl.out
            have O4 : Hid (wC.ownsRow W.heap.size 28 2 vC P0 (gvs PP)) := by
              have z := OC.out
              rw [hP0, ← gvs_append, ← gvs_append, hPP] at z
              exact z
            have BB : Hid (Below W.heap.size W wC) := BC.out
            have hP9 : P0 ≤ 9000 := by omega
            clear hP0 hPP hgl OC BC
            go_wp2_with fail
            go_loopg [10, 13] q (fun gk v10 v11 wq => ∃ i : Nat, i + gk = q ∧ v11 = .int .i64 (i : Int) ∧ wq.ownsRow W.heap.size 28 2 v10 (P0 + i) (gvs (PP ++ prs l i)) ∧ Below W.heap.size W wq)
            case atStart => exact ⟨0, by omega, rfl, (by show wC.ownsRow _ _ _ _ _ _; rw [Nat.add_zero, show prs l 0 = [] from rfl, List.append_nil]; exact O4.out), BB.out⟩
            case round =>
              obtain ⟨i, hig, rfl, hO, hB⟩ := hrel
              have O : Hid (wr.ownsRow W.heap.size 28 2 u10 (P0 + i) (gvs (PP ++ prs l i))) := hO
              have B : Hid (Below W.heap.size W wr) := hB
              clear hO hB
              by_cases hi : i < q
              · have il : (i : Int) < (q : Int) := by omega
                obtain ⟨j0, hj0⟩ : ∃ j0, j0 = 2 * i := ⟨_, rfl⟩
                obtain ⟨j, hj⟩ : ∃ j, j = 2 * i + 1 := ⟨_, rfl⟩
                have hjl : j < l.length := by have := HM.out; omega
                have kj0 : 2 * (i : Int) = (j0 : Int) := by omega
                have kj : (j0 : Int) + 1 = (j : Int) := by omega
                have il0 : (j0 : Int) < (l.length : Int) := by omega
                have il1 : (j : Int) < (l.length : Int) := by omega
                have kw0 : IntKind.i64.wrap (j0 : Int) = (j0 : Int) := wrapN (by omega)
                have kw1 : IntKind.i64.wrap (j : Int) = (j : Int) := wrapN (by omega)
                obtain ⟨b, o, rfl, q0⟩ := (V5.out.of_below B.out).int j0 (by omega)
                obtain ⟨b', o', e', q1⟩ := (V5.out.of_below B.out).int j hjl
                obtain ⟨rfl, rfl⟩ : b' = b ∧ o' = o := by simpa [eq_comm] using e'
                rw [← getD_at (by omega)] at q0
                rw [← getD_at hjl] at q1
                clear e'
                have hbw : b' < W.heap.size := by
                  obtain ⟨b2, o2, e2, q2⟩ := V5.out.int j hjl
                  simp only [Option.some.injEq, Addr.mk.injEq, and_true] at e2
                  rw [e2.1]
                  exact cell_lt q2
                have PX : Hid (gvs (PP ++ prs l (i + 1)) = gvs (PP ++ prs l i) ++ [.int .i64 (l.getD j0 0 : Int), .int .i64 (l.getD j 0 : Int)]) := by
                  show _ = _
                  rw [prs_succ, ← List.append_assoc, gvs_append, hj0, hj]
                  rfl
                clear hj0 hj
                generalize l.getD j0 0 = x at *
                generalize l.getD j 0 = y at *
                have KQ : Hid (∀ V, Below W.heap.size wr V → (V.cell? ⟨b', o' + j0, none⟩ = some (.int .i64 (x : Int)) ∧ V.cell? ⟨b', o' + j, none⟩ = some (.int .i64 (y : Int)))) := fun V hV => ⟨(hV.cell (p := ⟨b', o' + j0, none⟩) hbw).trans q0, (hV.cell (p := ⟨b', o' + j, none⟩) hbw).trans q1⟩
                clear q0 q1
                have O8 : Hid ((wr.drew.alloc (.cells #[.int .i64 (x : Int), .int .i64 (y : Int)] 28)).ownsRow W.heap.size 28 2 u10 (P0 + i) (gvs (PP ++ prs l i))) := O.out.drew.alloc _
                have B8 : Hid (Below W.heap.size wr (wr.drew.alloc (.cells #[.int .i64 (x : Int), .int .i64 (y : Int)] 28))) := ((Below.refl _ wr).drew).alloc B.out.size _
                have C8 : Hid (∀ jj u, [Value.int .i64 (x : Int), .int .i64 (y : Int)][jj]? = some u → (wr.drew.alloc (.cells #[.int .i64 (x : Int), .int .i64 (y : Int)] 28)).cell? ((⟨wr.heap.size, 0, none⟩ : Addr).add jj) = some u) := two_new wr.drew _ _ 28
                have Z8 : Hid (W.heap.size ≤ (wr.drew.alloc (.cells #[.int .i64 (x : Int), .int .i64 (y : Int)] 28)).heap.size) := Nat.le_trans B.out.size B8.out.size
                have hPL : P0 + i + 1 ≤ 100000 := by omega
                go_wp2_with fail
                go_region_held3 (fun V => V.cell? ⟨b', o' + j0, none⟩ = some (.int .i64 (x : Int)) ∧ V.cell? ⟨b', o' + j, none⟩ = some (.int .i64 (y : Int)))
                  (first | exact KQ.out _ (Below.refl _ wr).drew | exact KQ.out _ B8.out | exact KQ.out _ B9.out | assumption | fail)
                  (first
                    | (refine step_append_lies _ (by rfl) (.tmp 98) (.tmp 111) 23 (by rfl) W.heap.size 28 i28 (.agg #[.int .i64 0, .int .i64 0]) 2 16 Try.underlying23 hi28 hz28 hy28 hb28 rfl (by decide) u10 (P0 + i) (gvs (PP ++ prs l i)) (by rfl) O8.out ⟨wr.heap.size, 0, none⟩ 1 1 [.int .i64 (x : Int), .int .i64 (y : Int)] (by rfl) rfl C8.out (fun u hu => by simp at hu; rcases hu with rfl | rfl <;> rfl) (by omega) (by unfold maxLen; omega) (by omega) Z8.out _ rfl ?_; intro gF cF w9 hown hgrow hat hlt; have O9 : Hid (w9.ownsRow W.heap.size 28 2 (.slice (some ⟨gF, 0, none⟩) (P0 + i + 1) cF) (P0 + i + 1) (gvs (PP ++ prs l i) ++ [.int .i64 (x : Int), .int .i64 (y : Int)])) := hown; have B9 : Hid (Below W.heap.size wr w9) := B8.out.grown hgrow Z8.out (fun k hk => (O8.out.lt k hk).1); clear hown hgrow hat hlt)
                    | fail)
                go_wp2_with fail
                go_roundg (gk - 1)
                case measure => omega
                case rel => exact ⟨i + 1, by omega, by go_num, by have q := O9.out; rw [← PX.out] at q; simpa only [Nat.zero_add, Nat.add_assoc] using q, B.out.trans B9.out⟩
              · have il : ¬ (i : Int) < (q : Int) := by omega
                obtain rfl : q = i := by omega
                have hgl : gates l = PP ++ prs l q := HGL.out
                have O3 : Hid (wr.ownsRow w.heap.size 28 2 u10 (gates l).length (gvs (gates l))) := by
                  show World.ownsRow _ _ _ _ _ _ _
                  have e : (gates l).length = P0 + q := by rw [hgl, List.length_append, prs_len, HP0.out]
                  rw [e, hgl]
                  exact own_mono O.out BL.out.size
                clear hgl
                go_wp2_with fail
                go_ret
                exact ⟨⟨_, rfl, O3.out⟩, BL.out.trans (B.out.mono BL.out.size)⟩
end Go.Proofs.Ytelfcapjegncfaa
