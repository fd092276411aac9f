/- crossings. -/
import Derived.Test.YtelfcapjegncfaaSg
import Derived.Test.YtelfcapjegncfaaQd
set_option linter.unusedSimpArgs false
set_option linter.unusedVariables false
set_option maxRecDepth 100000
namespace Go.Proofs.Ytelfcapjegncfaa
open Go.RowKit Go.Deep Go.PlainAid

/-- What crossings tells of an order. -/
def CrC (l : List Nat) : Prop := ∀ (w : World) (a : Option Addr) (c : Nat), VL w a (ivs l) → Calls Try.prog 21 #[.slice a l.length c] w fun e w' => (∃ v cs, e = .returned v ∧ w'.ownsRow w.heap.size 4 1 v cs.length (bvs cs) ∧ cs.length = (net l.length).length ∧ runP (net l.length) cs (List.range l.length) = l) ∧ Below w.heap.size w w'
theorem cr_low {l : List Nat} (hp : PM l) (h : l.length < 2) : CrC l := by
  intro w a c hl
  have il : (l.length : Int) < 2 := by omega
  go_enter Try.func21, Try.ntmps21
  go_wp2_with fail
  go_ret
  refine ⟨⟨_, [], rfl, World.ownsRow_nil _ _ _ _, ?_, ?_⟩, Below.refl _ _⟩
  · unfold net; rw [gates_low (by rw [List.length_range]; exact h)]; rfl
  · unfold net
    rw [gates_low (by rw [List.length_range]; exact h)]
    show List.range l.length = l
    apply List.ext_getElem
    · simp
    · intro i h1 h2
      have := hp.lt l[i] (List.getElem_mem h2)
      simp
      omega
theorem cat_bo {W : World} {a1 a2 a3 a4 : Option Addr} {c1 c2 c3 c4 k q : Nat} {pk pq gE gO : List Bool} (h1 : VL W a1 (bvs pk)) (h2 : VL W a2 (bvs gE)) (h3 : VL W a3 (bvs gO)) (h4 : VL W a4 (bvs pq)) (n1 : a1 = none → c1 = 0) (n2 : a2 = none → c2 = 0) (n3 : a3 = none → c3 = 0) (n4 : a4 = none → c4 = 0) (l1 : pk.length = k) (l2 : pq.length = q) (b1 : k ≤ 256) (b2 : q ≤ 256) (b3 : gE.length ≤ 4096) (b4 : gO.length ≤ 4096) :
    Calls Try.prog 26 #[.slice (some ⟨W.heap.size, 0, none⟩) 4 4] (W.alloc (.cells #[.slice a1 k c1, .slice a2 gE.length c2, .slice a3 gO.length c3, .slice a4 q c4] 22)) fun e w' => (∃ v, e = .returned v ∧ w'.ownsRow W.heap.size 4 1 v (pk ++ gE ++ gO ++ pq).length (bvs (pk ++ gE ++ gO ++ pq))) ∧ Below W.heap.size (W.alloc (.cells #[.slice a1 k c1, .slice a2 gE.length c2, .slice a3 gO.length c3, .slice a4 q c4] 22)) w' := by
  obtain ⟨U, hU⟩ : ∃ U, U = W.alloc (.cells #[.slice a1 k c1, .slice a2 gE.length c2, .slice a3 gO.length c3, .slice a4 q c4] 22) := ⟨_, rfl⟩
  have hB : Below W.heap.size W U := by rw [hU]; exact (Below.refl _ _).alloc (Nat.le_refl _) _
  have I : IHolds U W.heap.size 22 [.slice a1 k c1, .slice a2 gE.length c2, .slice a3 gO.length c3, .slice a4 q c4] := by rw [hU]; exact IHolds.new _ _ _
  have hs : U.heap.size = W.heap.size + 1 := by rw [hU]; simp
  rw [← hU]
  clear hU
  have one : ∀ l : List Bool, ∀ u ∈ bvs l, u.oneCell' = true := fun l u hu => by
    unfold bvs at hu
    obtain ⟨b, _, rfl⟩ := List.mem_map.1 hu
    rfl
  have key := concat26 (w := U) (bC := W.heap.size) (cc := 4) (L := [(a1, c1, k, bvs pk), (a2, c2, gE.length, bvs gE), (a3, c3, gO.length, bvs gO), (a4, c4, q, bvs pq)]) rfl
    (fun i hi => by
      match i, hi with
      | 0, _ => exact I.cell 0 (by simp)
      | 1, _ => exact I.cell 1 (by simp)
      | 2, _ => exact I.cell 2 (by simp)
      | 3, _ => exact I.cell 3 (by simp))
    (fun i hi => by
      match i, hi with
      | 0, _ => exact ⟨h1.of_below hB, by show (bvs pk).length = k * 1; rw [bvs_len, l1]; omega, n1, by show k ≤ 65536; omega, one _⟩
      | 1, _ => exact ⟨h2.of_below hB, by show (bvs gE).length = gE.length * 1; rw [bvs_len]; omega, n2, by show gE.length ≤ 65536; omega, one _⟩
      | 2, _ => exact ⟨h3.of_below hB, by show (bvs gO).length = gO.length * 1; rw [bvs_len]; omega, n3, by show gO.length ≤ 65536; omega, one _⟩
      | 3, _ => exact ⟨h4.of_below hB, by show (bvs pq).length = q * 1; rw [bvs_len, l2]; omega, n4, by show q ≤ 65536; omega, one _⟩)
  refine key.mono ?_
  rintro e w' ⟨⟨v, rfl, ho⟩, hb⟩
  refine ⟨⟨v, rfl, ?_⟩, hb.mono (by omega)⟩
  have e1 : cnum [(a1, c1, k, bvs pk), (a2, c2, gE.length, bvs gE), (a3, c3, gO.length, bvs gO), (a4, c4, q, bvs pq)] = (pk ++ gE ++ gO ++ pq).length := by
    simp only [cnum, List.map_cons, List.map_nil, List.sum_cons, List.sum_nil, List.length_append, l1, l2]
    omega
  have e2 : cat [(a1, c1, k, bvs pk), (a2, c2, gE.length, bvs gE), (a3, c3, gO.length, bvs gO), (a4, c4, q, bvs pq)] = bvs (pk ++ gE ++ gO ++ pq) := by
    simp [cat, bvs_append]
  rw [e1, e2] at ho
  exact own_mono ho (by omega)
/-- What has gone each way, of the first i. -/
def f0 (l : List Nat) (S : Nat → Bool) (i : Nat) : List Nat := ((l.take i).filter (fun r => !S r)).map (· / 2)
def f1 (l : List Nat) (S : Nat → Bool) (i : Nat) : List Nat := ((l.take i).filter S).map (· / 2)
theorem f0_len (l : List Nat) (S : Nat → Bool) (i : Nat) : (f0 l S i).length ≤ i := by
  unfold f0
  rw [List.length_map]
  exact Nat.le_trans (List.length_filter_le _ _) (by simp; omega)
theorem f1_len (l : List Nat) (S : Nat → Bool) (i : Nat) : (f1 l S i).length ≤ i := by
  unfold f1
  rw [List.length_map]
  exact Nat.le_trans (List.length_filter_le _ _) (by simp; omega)
theorem f_true {l : List Nat} {S : Nat → Bool} {i : Nat} (hi : i < l.length) (h : S (oo l i) = true) : f0 l S (i + 1) = f0 l S i ∧ f1 l S (i + 1) = f1 l S i ++ [oo l i / 2] := by
  have e : l[i] = oo l i := (getD_at hi).symm
  unfold f0 f1
  rw [List.take_succ_eq_append_getElem hi, e, List.filter_append, List.filter_append]
  simp [h]
theorem f_false {l : List Nat} {S : Nat → Bool} {i : Nat} (hi : i < l.length) (h : S (oo l i) = false) : f0 l S (i + 1) = f0 l S i ++ [oo l i / 2] ∧ f1 l S (i + 1) = f1 l S i := by
  have e : l[i] = oo l i := (getD_at hi).symm
  unfold f0 f1
  rw [List.take_succ_eq_append_getElem hi, e, List.filter_append, List.filter_append]
  simp [h]
theorem f_all (l : List Nat) (S : Nat → Bool) : f0 l S l.length = w0 l S ∧ f1 l S l.length = w1 l S := by
  unfold f0 f1 w0 w1
  rw [List.take_length]
  exact ⟨rfl, rfl⟩
theorem bvs_range_succ (f : Nat → Bool) (i : Nat) : bvs ((List.range (i + 1)).map f) = bvs ((List.range i).map f) ++ [.bool (f i)] := by
  rw [List.range_succ, List.map_append, bvs_append]; rfl
theorem net_len {n : Nat} (h2 : 2 ≤ n) (hn : n ≤ 256) : (net n).length = n / 2 + (net (n / 2)).length + (net (n - n / 2)).length + (n - 1) / 2 := by
  unfold net
  rw [gates_step (by rw [List.length_range]; omega), List.length_append, List.length_append, List.length_append, prs_len, prs_len, List.length_range, gates_len 8 (ev (List.range n)) (by rw [ev_len, List.length_range]; omega), gates_len 8 (od (List.range n)) (by rw [od_len, List.length_range]; omega), gates_len 8 (List.range (n / 2)) (by rw [List.length_range]; omega), gates_len 8 (List.range (n - n / 2)) (by rw [List.length_range]; omega), ev_len, od_len, List.length_range, List.length_range, List.length_range]
set_option maxHeartbeats 8000000 in
theorem cr_step {l : List Nat} (hp : PM l) (h2 : 2 ≤ l.length) (hn : l.length ≤ 256) (HR : ∀ l', PM l' → l'.length < l.length → CrC l') : CrC l := by
  intro w a c hl
  have H24 : Hid (Calls Try.prog 24 #[.slice a l.length c] w fun e w' => (∃ B S, e = .returned (.slice (some ⟨B, 0, none⟩) l.length l.length) ∧ IHolds w' B 4 (tf S l.length) ∧ w.heap.size ≤ B ∧ Good l S) ∧ Below w.heap.size w w') := goingSecond24 hp (by omega) hn hl
  have HP : Hid (PM l) := hp
  have HV : Hid (VL w a (ivs l)) := hl
  have HRR : Hid (∀ l', PM l' → l'.length < l.length → CrC l') := HR
  have H25 : Hid (∀ V, Calls Try.prog 25 #[.slice a l.length c] V fun e w' => e = .returned (.int .i64 (((l.length - 1) / 2 : Nat) : Int)) ∧ w' = V) := fun V => lastGates25 (by omega) hn
  have il : ¬ (l.length : Int) < 2 := by omega
  obtain ⟨h, hh⟩ : ∃ h, h = l.length / 2 := ⟨_, rfl⟩
  have kh : Int.tdiv (l.length : Int) 2 = (h : Int) := by rw [hh]; rfl
  have HH : Hid (h = l.length / 2) := hh
  obtain ⟨q, hq⟩ : ∃ q, q = (l.length - 1) / 2 := ⟨_, rfl⟩
  rw [← hq] at H25
  have HQ : Hid (q = (l.length - 1) / 2) := hq
  have hh9 : 2 * h ≤ l.length := by omega
  have hq9 : 2 * q ≤ l.length := by omega
  have hq8 : 2 * q < l.length := by omega
  obtain ⟨i4, hi4, hz4, hy4, hb4⟩ := info_parts info4
  obtain ⟨i3, hi3, hz3, hy3, hb3⟩ := info_parts info3
  clear hp hl HR hh hq
  go_enter Try.func21, Try.ntmps21
  go_wp2_with (go_at_call 24; refine (H24.out).mono ?_; rintro e W1 ⟨⟨B, S, rfl, hI, hBl, hG⟩, hB⟩; have I1 : Hid (IHolds W1 B 4 (tf S l.length)) := hI; have G1 : Hid (Good l S) := hG; have B1 : Hid (Below w.heap.size w W1) := hB; have V1 : Hid (VL W1 a (ivs l)) := HV.out.of_below hB; clear hI hG hB H24)
  go_loopg [4, 6, 20] h (fun gk v4 v6 v20 wr => ∃ i : Nat, i + gk = h ∧ v20 = .int .i64 (i : Int) ∧ wr.ownsRow W1.heap.size 4 1 v4 i (bvs ((List.range i).map fun i => S (2 * i))) ∧ Below W1.heap.size W1 wr)
  case atStart => exact ⟨0, by omega, rfl, World.ownsRow_nil _ _ _ _, Below.refl _ _⟩
  case round =>
    obtain ⟨i, hig, rfl, hO, hB⟩ := hrel
    have O : Hid (wr.ownsRow W1.heap.size 4 1 u4 i (bvs ((List.range i).map fun i => S (2 * i)))) := hO
    have BB : Hid (Below W1.heap.size W1 wr) := hB
    clear hO hB
    by_cases hi : i < h
    · have ih : (i : Int) < (h : Int) := by omega
      obtain ⟨j, hj⟩ : ∃ j, j = 2 * i := ⟨_, rfl⟩
      have kj : 2 * (i : Int) = (j : Int) := by omega
      have hjl : j < l.length := by omega
      have jl : (j : Int) < (l.length : Int) := by omega
      have cj := (I1.out.of_below BB.out).cell j (by rw [tf_len]; exact hjl)
      rw [tf_at] at cj
      have HX : Hid (bvs ((List.range (i + 1)).map fun i => S (2 * i)) = bvs ((List.range i).map fun i => S (2 * i)) ++ [.bool (S j)]) := by show _ = _; rw [hj]; exact bvs_range_succ _ i
      clear hj
      generalize S j = t at *
      generalize bvs ((List.range i).map fun i => S (2 * i)) = X at *
      have O2 : Hid ((wr.alloc (.cells #[.bool t] 4)).ownsRow W1.heap.size 4 1 u4 i X) := O.out.alloc _
      have B2 : Hid (Below W1.heap.size W1 (wr.alloc (.cells #[.bool t] 4))) := BB.out.alloc BB.out.size _
      have C2 : Hid _ := one_new wr (.bool t) 4
      go_wp2_with (at_builtin; refine wpList_append_own _ rfl (.tmp 23) (.tmp 29) 22 rfl W1.heap.size 4 i4 (.bool false) 1 1 Try.underlying22 hi4 hz4 hy4 hb4 rfl (by decide) u4 i X rfl O2.out ⟨wr.heap.size, 0, none⟩ 1 1 [.bool t] rfl rfl C2.out (fun u hu => by simp at hu; subst hu; rfl) (by unfold maxLen; omega) (by omega) B2.out.size ?_; intro v5 w5 hown hgrow hn5; have O5 : Hid (w5.ownsRow W1.heap.size 4 1 v5 (i + 1) (X ++ [.bool t])) := hown; have B5 : Hid (Below W1.heap.size W1 w5) := B2.out.grown hgrow B2.out.size (fun k hk => (O2.out.lt k hk).1); clear hown hgrow hn5)
      go_roundg (gk - 1)
      case measure => omega
      case rel => exact ⟨i + 1, by omega, by go_num, by rw [HX.out]; exact O5.out, B5.out⟩
    · have ih : ¬ (i : Int) < (h : Int) := by omega
      obtain rfl : i = h := by omega
      obtain ⟨aF, cF, rfl, hVF, hNF⟩ := own_vl O.out
      have VF : Hid (VL wr aF (bvs ((List.range i).map fun i => S (2 * i)))) := hVF
      have NF : Hid (aF = none → cF = 0) := hNF
      have I2 : Hid (IHolds wr B 4 (tf S l.length)) := I1.out.of_below BB.out
      have V2 : Hid (VL wr a (ivs l)) := V1.out.of_below BB.out
      have B2 : Hid (Below w.heap.size w wr) := B1.out.trans (BB.out.mono B1.out.size)
      clear hVF hNF O BB I1 V1 B1 hi hig
      obtain ⟨W2, rfl⟩ : ∃ W2, W2 = wr := ⟨_, rfl⟩
      go_wp2_with (go_at_call 25; refine (H25.out _).mono ?_; rintro e ww ⟨rfl, hww⟩; obtain rfl := hww.symm; clear H25)
      go_loopg [5, 7, 34] q (fun gk v5 v7 v34 wr => ∃ k : Nat, k + gk = q ∧ v34 = .int .i64 (k : Int) ∧ wr.ownsRow W2.heap.size 4 1 v5 k (bvs ((List.range k).map fun i => S (oo l (2 * i)))) ∧ Below W2.heap.size W2 wr)
      case atStart => exact ⟨0, by omega, rfl, World.ownsRow_nil _ _ _ _, Below.refl _ _⟩
      case round =>
        obtain ⟨k, hkg, rfl, hO, hB⟩ := hrel
        have O : Hid (wr.ownsRow W2.heap.size 4 1 u5 k (bvs ((List.range k).map fun i => S (oo l (2 * i))))) := hO
        have BB : Hid (Below W2.heap.size W2 wr) := hB
        clear hO hB
        by_cases hk : k < q
        · have ik : (k : Int) < (q : Int) := by omega
          obtain ⟨j, hj⟩ : ∃ j, j = 2 * k := ⟨_, rfl⟩
          have kj : 2 * (k : Int) = (j : Int) := by omega
          have hjl : j < l.length := by omega
          have jl : (j : Int) < (l.length : Int) := by omega
          obtain ⟨b, o, rfl, q1⟩ := (V2.out.of_below BB.out).int j hjl
          have e1 : l[j] = oo l j := (getD_at hjl).symm
          rw [e1] at q1
          have hx : oo l j < l.length := HP.out.o_lt hjl
          have xl : (oo l j : Int) < (l.length : Int) := by omega
          have cj := (I2.out.of_below BB.out).cell (oo l j) (by rw [tf_len]; exact hx)
          rw [tf_at] at cj
          have HX : Hid (bvs ((List.range (k + 1)).map fun i => S (oo l (2 * i))) = bvs ((List.range k).map fun i => S (oo l (2 * i))) ++ [.bool (S (oo l j))]) := by show _ = _; rw [hj]; exact bvs_range_succ _ k
          clear hj e1
          generalize oo l j = x at *
          generalize S x = t at *
          generalize bvs ((List.range k).map fun i => S (oo l (2 * i))) = X at *
          have O2 : Hid ((wr.alloc (.cells #[.bool t] 4)).ownsRow W2.heap.size 4 1 u5 k X) := O.out.alloc _
          have B3 : Hid (Below W2.heap.size W2 (wr.alloc (.cells #[.bool t] 4))) := BB.out.alloc BB.out.size _
          have C2 : Hid _ := one_new wr (.bool t) 4
          go_wp2_with (at_builtin; refine wpList_append_own _ rfl (.tmp 37) (.tmp 46) 22 rfl W2.heap.size 4 i4 (.bool false) 1 1 Try.underlying22 hi4 hz4 hy4 hb4 rfl (by decide) u5 k X rfl O2.out ⟨wr.heap.size, 0, none⟩ 1 1 [.bool t] rfl rfl C2.out (fun u hu => by simp at hu; subst hu; rfl) (by unfold maxLen; omega) (by omega) B3.out.size ?_; intro v5 w5 hown hgrow hn5; have O5 : Hid (w5.ownsRow W2.heap.size 4 1 v5 (k + 1) (X ++ [.bool t])) := hown; have B5 : Hid (Below W2.heap.size W2 w5) := B3.out.grown hgrow B3.out.size (fun k hk => (O2.out.lt k hk).1); clear hown hgrow hn5)
          go_roundg (gk - 1)
          case measure => omega
          case rel => exact ⟨k + 1, by omega, by go_num, by rw [HX.out]; exact O5.out, B5.out⟩
        · have ik : ¬ (k : Int) < (q : Int) := by omega
          obtain rfl : k = q := by omega
          obtain ⟨aL, cL, rfl, hVL, hNL⟩ := own_vl O.out
          have VL3 : Hid (VL wr aL (bvs ((List.range k).map fun i => S (oo l (2 * i))))) := hVL
          have NL : Hid (aL = none → cL = 0) := hNL
          have VF3 : Hid (VL wr aF (bvs ((List.range i).map fun i => S (2 * i)))) := VF.out.of_below BB.out
          have I3 : Hid (IHolds wr B 4 (tf S l.length)) := I2.out.of_below BB.out
          have V3 : Hid (VL wr a (ivs l)) := V2.out.of_below BB.out
          have B3 : Hid (Below w.heap.size w wr) := B2.out.trans (BB.out.mono B2.out.size)
          clear hVL hNL O BB I2 V2 B2 VF hk hkg
          obtain ⟨W3, rfl⟩ : ∃ W3, W3 = wr := ⟨_, rfl⟩
          have G0 : Hid (GS W3 (W3.alloc (.cells #[.slice none 0 0, .slice none 0 0] 49)) 0 [] (f0 l S 0).length (ivs (f0 l S 0)) (f1 l S 0).length (ivs (f1 l S 0)) (.slice none 0 0) (.slice none 0 0) (.slice none 0 0)) := ⟨World.ownsRow_nil _ _ _ _, IHolds.new _ _ _, World.ownsRow_nil _ _ _ _, World.ownsRow_nil _ _ _ _, (fun g h => by cases h), (Below.refl _ W3).alloc (Nat.le_refl _) _⟩
          go_wp2_with fail
          go_loopg [10, 11, 51] l.length (fun gk v10 v11 v51 wr => ∃ (m : Nat) (v0 v1 : Value), m + gk = l.length ∧ v51 = .int .i64 (m : Int) ∧ GS W3 wr 0 [] (f0 l S m).length (ivs (f0 l S m)) (f1 l S m).length (ivs (f1 l S m)) (.slice none 0 0) v0 v1)
          case atStart => exact ⟨0, _, _, by omega, rfl, G0.out⟩
          case round =>
            obtain ⟨m, v0, v1, hmg, rfl, hG⟩ := hrel
            have GG : Hid (GS W3 wr 0 [] (f0 l S m).length (ivs (f0 l S m)) (f1 l S m).length (ivs (f1 l S m)) (.slice none 0 0) v0 v1) := hG
            clear hG G0
            by_cases hm : m < l.length
            · have im : (m : Int) < (l.length : Int) := by omega
              obtain ⟨b, o, rfl, q1⟩ := (V3.out.of_below GG.out.bl).int m hm
              have e1 : l[m] = oo l m := (getD_at hm).symm
              rw [e1] at q1
              have hx : oo l m < l.length := HP.out.o_lt hm
              have xl : (oo l m : Int) < (l.length : Int) := by omega
              have cj := (I3.out.of_below GG.out.bl).cell (oo l m) (by rw [tf_len]; exact hx)
              rw [tf_at] at cj
              have k0 := GG.out.box.cell 0 (by simp)
              have k1 := GG.out.box.cell 1 (by simp)
              have FT : Hid (S (oo l m) = true → f0 l S (m + 1) = f0 l S m ∧ f1 l S (m + 1) = f1 l S m ++ [oo l m / 2]) := f_true hm
              have FF : Hid (S (oo l m) = false → f0 l S (m + 1) = f0 l S m ++ [oo l m / 2] ∧ f1 l S (m + 1) = f1 l S m) := f_false hm
              have L0 := f0_len l S m
              have L1 := f1_len l S m
              obtain ⟨y, hy⟩ : ∃ y, y = oo l m / 2 := ⟨_, rfl⟩
              have ky : Int.tdiv (oo l m : Int) 2 = (y : Int) := by rw [hy]; rfl
              have hy9 : y ≤ 256 := by omega
              rw [← hy] at FT FF
              clear hy e1
              generalize oo l m = x at *
              generalize hF0 : f0 l S m = F0 at *
              generalize hF1 : f1 l S m = F1 at *
              clear hF0 hF1
              have Ga : Hid (GS W3 (wr.alloc (.cells #[.int .i64 (y : Int)] 3)) 0 [] F0.length (ivs F0) F1.length (ivs F1) (.slice none 0 0) v0 v1) := GG.out.alloc _
              cases hS : S x with
              | false =>
                rw [hS] at cj
                obtain ⟨E0, E1⟩ := FF.out hS
                have E0' : Hid (f0 l S (m + 1) = F0 ++ [y]) := E0
                have E1' : Hid (f1 l S (m + 1) = F1) := E1
                clear hS E0 E1 FT FF GG k1
                go_wp2_with (at_builtin; refine wpList_append_lies _ rfl (.tmp 62) (.tmp 65) 29 rfl W3.heap.size 3 i3 (.int .i64 0) 1 8 Try.underlying29 hi3 hz3 hy3 hb3 rfl (by decide) v0 F0.length (ivs F0) rfl Ga.out.r0 ⟨wr.heap.size, 0, none⟩ 1 1 [.int .i64 (y : Int)] rfl rfl (one_new wr _ 3) (fun u hu => by simp at hu; subst hu; rfl) (by omega) (by unfold maxLen; omega) (by omega) Ga.out.bl.size _ rfl ?_; intro g1 cc1 wb hown hgrow hat hlt; obtain ⟨hbx, hgs⟩ := Ga.out.app0 hown hgrow hat; have Gb : Hid (GS W3 (wb.setCell ⟨W3.heap.size, 0, none⟩ (.slice (some ⟨g1, 0, none⟩) (F0.length + 1) cc1)) 0 [] (F0.length + 1) (ivs F0 ++ [.int .i64 (y : Int)]) F1.length (ivs F1) (.slice none 0 0) (.slice (some ⟨g1, 0, none⟩) (F0.length + 1) cc1) v1) := hgs; have hcb := hbx.cell 0 (by simp); have hfb := hbx.frozen 0; clear hown hgrow hat hlt hgs hbx)
                go_roundg (gk - 1)
                case measure => omega
                case rel => exact ⟨m + 1, _, _, by omega, by go_num, by rw [E0'.out, E1'.out, ivs_append, List.length_append]; exact Gb.out⟩
              | true =>
                rw [hS] at cj
                obtain ⟨E0, E1⟩ := FT.out hS
                have E0' : Hid (f0 l S (m + 1) = F0) := E0
                have E1' : Hid (f1 l S (m + 1) = F1 ++ [y]) := E1
                clear hS E0 E1 FT FF GG k0
                go_wp2_with (at_builtin; refine wpList_append_lies _ rfl (.tmp 62) (.tmp 65) 29 rfl W3.heap.size 3 i3 (.int .i64 0) 1 8 Try.underlying29 hi3 hz3 hy3 hb3 rfl (by decide) v1 F1.length (ivs F1) rfl Ga.out.r1 ⟨wr.heap.size, 0, none⟩ 1 1 [.int .i64 (y : Int)] rfl rfl (one_new wr _ 3) (fun u hu => by simp at hu; subst hu; rfl) (by omega) (by unfold maxLen; omega) (by omega) Ga.out.bl.size _ rfl ?_; intro g1 cc1 wb hown hgrow hat hlt; obtain ⟨hbx, hgs⟩ := Ga.out.app1 hown hgrow hat; have Gb : Hid (GS W3 (wb.setCell ⟨W3.heap.size, 1, none⟩ (.slice (some ⟨g1, 0, none⟩) (F1.length + 1) cc1)) 0 [] F0.length (ivs F0) (F1.length + 1) (ivs F1 ++ [.int .i64 (y : Int)]) (.slice none 0 0) v0 (.slice (some ⟨g1, 0, none⟩) (F1.length + 1) cc1)) := hgs; have hcb := hbx.cell 1 (by simp); have hfb := hbx.frozen 1; clear hown hgrow hat hlt hgs hbx)
                go_roundg (gk - 1)
                case measure => omega
                case rel => exact ⟨m + 1, _, _, by omega, by go_num, by rw [E0'.out, E1'.out, ivs_append, List.length_append]; exact Gb.out⟩
            · have im : ¬ (m : Int) < (l.length : Int) := by omega
              obtain rfl : m = l.length := by omega
              obtain ⟨eA, eB⟩ := f_all l S
              rw [eA, eB] at GG
              clear eA eB hm hmg im
              obtain ⟨a0, c0, rfl, hV0, _⟩ := own_vl GG.out.r0
              obtain ⟨a1, c1, rfl, hV1, _⟩ := own_vl GG.out.r1
              have H0 : Hid (∀ V, Below wr.heap.size wr V → Calls Try.prog 21 #[.slice a0 (w0 l S).length c0] V fun e w' => (∃ v cs, e = .returned v ∧ w'.ownsRow V.heap.size 4 1 v cs.length (bvs cs) ∧ cs.length = (net (w0 l S).length).length ∧ runP (net (w0 l S).length) cs (List.range (w0 l S).length) = w0 l S) ∧ Below V.heap.size V w') := fun V hV => HRR.out _ (w0_PM HP.out G1.out) (by rw [w0_len G1.out]; omega) V a0 c0 (hV0.of_below hV)
              have H1 : Hid (∀ V, Below wr.heap.size wr V → Calls Try.prog 21 #[.slice a1 (w1 l S).length c1] V fun e w' => (∃ v cs, e = .returned v ∧ w'.ownsRow V.heap.size 4 1 v cs.length (bvs cs) ∧ cs.length = (net (w1 l S).length).length ∧ runP (net (w1 l S).length) cs (List.range (w1 l S).length) = w1 l S) ∧ Below V.heap.size V w') := fun V hV => HRR.out _ (w1_PM HP.out G1.out) (by rw [w1_len G1.out]; omega) V a1 c1 (hV1.of_below hV)
              have BX : Hid (∀ V, Below wr.heap.size wr V → (V.cell? ⟨W3.heap.size, 0, none⟩ = some (.slice a0 (w0 l S).length c0) ∧ V.cell? ⟨W3.heap.size, 1, none⟩ = some (.slice a1 (w1 l S).length c1))) := fun V hV => ⟨cell_keep (GG.out.box.cell 0 (by simp)) hV, cell_keep (GG.out.box.cell 1 (by simp)) hV⟩
              have BL : Hid (Below w.heap.size w wr) := B3.out.trans (GG.out.bl.mono B3.out.size)
              have VF4 : Hid (∀ V, Below wr.heap.size wr V → VL V aF (bvs ((List.range i).map fun i => S (2 * i)))) := fun V hV => (VF3.out.of_below GG.out.bl).of_below hV
              have VL4 : Hid (∀ V, Below wr.heap.size wr V → VL V aL (bvs ((List.range k).map fun i => S (oo l (2 * i))))) := fun V hV => (VL3.out.of_below GG.out.bl).of_below hV
              have TR : Hid (∀ V V', Below wr.heap.size wr V → Below V.heap.size V V' → Below wr.heap.size wr V') := fun V V' h1 h2 => h1.trans (h2.mono h1.size)
              clear hV0 hV1 GG VF3 VL3 V3 I3 B3
              have hw0 : Hid ((w0 l S).length = l.length / 2) := w0_len G1.out
              have hw1 : Hid ((w1 l S).length = l.length - l.length / 2) := w1_len G1.out
              generalize hm0 : (w0 l S).length = m0 at *
              generalize hm1 : (w1 l S).length = m1 at *
              have hn0 : Hid ((net m0).length ≤ 4096) := net_le (by have := hw0.out; omega)
              have hn1 : Hid ((net m1).length ≤ 4096) := net_le (by have := hw1.out; omega)
              clear hm0 hm1
              go_wp2_with fail
              go_region_held3 (fun V => V.cell? ⟨W3.heap.size, 0, none⟩ = some (.slice a0 m0 c0) ∧ V.cell? ⟨W3.heap.size, 1, none⟩ = some (.slice a1 m1 c1))
                (first | exact BX.out _ (Below.refl _ wr).drew | exact BX.out _ BA.out | exact BX.out _ BB.out | exact BX.out _ BC.out | exact BX.out _ BD.out | assumption | fail)
                (first
                  | (go_at_call 21; refine (H0.out _ (Below.refl _ wr).drew).mono ?_; rintro e wA ⟨⟨vE, cs0, rfl, hO, hl0, hr0⟩, hB⟩; obtain ⟨aE, cE, rfl, hVE, hnE⟩ := own_vl hO; have BA : Hid (Below wr.heap.size wr wA) := TR.out _ _ (Below.refl _ wr).drew hB; have VE : Hid (VL wA aE (bvs cs0)) := hVE; have NE : Hid (aE = none → cE = 0) := hnE; have LE0 : Hid (cs0.length = (net m0).length) := hl0; have RE : Hid (runP (net m0) cs0 (List.range m0) = w0 l S) := hr0; clear hO hB hVE hnE H0 hl0 hr0)
                  | (go_at_call 21; refine (H1.out _ BA.out).mono ?_; rintro e wB ⟨⟨vO, cs1, rfl, hO, hl1, hr1⟩, hB⟩; obtain ⟨aO, cO, rfl, hVO, hnO⟩ := own_vl hO; have BB : Hid (Below wr.heap.size wr wB) := TR.out _ _ BA.out hB; have VO : Hid (VL wB aO (bvs cs1)) := hVO; have NO : Hid (aO = none → cO = 0) := hnO; replace VE : Hid (VL wB aE (bvs cs0)) := VE.out.of_below hB; have LO : Hid (cs1.length = (net m1).length) := hl1; have RO : Hid (runP (net m1) cs1 (List.range m1) = w1 l S) := hr1; have BC : Hid (Below wr.heap.size wr (wB.alloc (.cells #[.slice aF i cF, .slice aE cs0.length cE, .slice aO cs1.length cO, .slice aL k cL] 22))) := BB.out.alloc BB.out.size _; have CC : Hid (Calls Try.prog 26 #[.slice (some ⟨wB.heap.size, 0, none⟩) 4 4] (wB.alloc (.cells #[.slice aF i cF, .slice aE cs0.length cE, .slice aO cs1.length cO, .slice aL k cL] 22)) _) := cat_bo (VF4.out _ BB.out) VE.out VO.out (VL4.out _ BB.out) NF.out NE.out NO.out NL.out (by simp) (by simp) (by omega) (by omega) (by have := hn0.out; have := LE0.out; omega) (by have := hn1.out; have := LO.out; omega); clear hO hB hVO hnO H1 hl1 hr1)
                  | (go_at_call 26; refine (CC.out).mono ?_; rintro e wD ⟨⟨vD, rfl, hO⟩, hB⟩; have BD : Hid (Below wr.heap.size wr wD) := BC.out.trans (hB.mono BB.out.size); have OD : Hid (wD.ownsRow wB.heap.size 4 1 vD _ (bvs (((List.range i).map fun i => S (2 * i)) ++ cs0 ++ cs1 ++ ((List.range k).map fun i => S (oo l (2 * i)))))) := hO; clear hO hB)
                  | fail)
              go_wp2_with fail
              go_ret
              refine ⟨⟨_, _, rfl, own_mono OD.out (Nat.le_trans BL.out.size BB.out.size), ?_, ?_⟩, BL.out.trans (BD.out.mono BL.out.size)⟩
              · have e0 := hw0.out
                have e1 := hw1.out
                have e2 := net_len h2 hn
                rw [e2]
                simp only [List.length_append, List.length_map, List.length_range]
                rw [LE0.out, LO.out, e0, e1, HH.out, HQ.out]
              · have := waksman HP.out G1.out h2 (c0 := cs0) (c1 := cs1) (by rw [← hw0.out]; exact LE0.out) (by rw [← hw1.out]; exact LO.out) (by rw [← hw0.out]; exact RE.out) (by rw [← hw1.out]; exact RO.out)
                unfold fB lB at this
                rw [← HH.out, ← HQ.out] at this
                exact this
theorem cr_all : ∀ (f : Nat) (l : List Nat), l.length ≤ f → l.length ≤ 256 → PM l → CrC l
  | f, l, hf, hn, hp => by
    by_cases h : l.length < 2
    · exact cr_low hp h
    · match f, hf with
      | 0, hf => omega
      | f + 1, hf => exact cr_step hp (by omega) hn (fun l' hp' hl' => cr_all f l' (by omega) (by omega) hp')
end Go.Proofs.Ytelfcapjegncfaa
