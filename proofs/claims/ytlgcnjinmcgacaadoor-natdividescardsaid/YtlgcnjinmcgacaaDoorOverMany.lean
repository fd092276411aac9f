/- The walk of over with a divisor of two limbs or more. -/
import Derived.Test.YtlgcnjinmcgacaaDoorOver
set_option linter.unusedSimpArgs false
set_option linter.unusedVariables false
namespace Go.Proofs.YtlgcnjinmcgacaaDoor
open Go.RowKit Go.Deep

theorem rep_reset (j a q : Nat) (Q : List Nat) (y : Int) (hy : y = (q : Int)) : (zs (List.replicate j 0 ++ (a :: Q))).set j (.int .i64 y) = zs (List.replicate j 0 ++ (q :: Q)) := by
  subst hy
  rw [zs_append, zs_append, List.set_append_right _ _ (by simp [zs]), zs_cons, zs_cons]
  simp [zs]
theorem put_right {D y yq ym : Nat} (h : D * yq + ym = y) : (y : Int) + -(yq : Int) * (D : Int) = (ym : Int) := by
  have : (y : Int) = (D : Int) * (yq : Int) + (ym : Int) := by rw [← h]; push_cast; rfl
  rw [this]; grind
theorem put_high {D y yq ym : Nat} (h : D * yq + ym = y) (hm : ym < D) : (y : Int) + -((yq + 1 : Nat) : Int) * (D : Int) = -((D - ym : Nat) : Int) := by
  have h1 : (y : Int) = (D : Int) * (yq : Int) + (ym : Int) := by rw [← h]; push_cast; rfl
  have h2 : ((D - ym : Nat) : Int) = (D : Int) - (ym : Int) := by omega
  rw [h1, h2]; push_cast; grind

set_option maxRecDepth 100000 in
set_option maxHeartbeats 4000000 in
theorem over_many (w : World) (a1 a2 : Option Addr) (cap1 cap2 n d : Nat) (h1 : Row w a1 (dg 1000000000 n)) (h2 : Row w a2 (dg 1000000000 d)) (b1 : (dg 1000000000 n).length ≤ 1000000) (b2 : 2 ≤ (dg 1000000000 d).length) (hle : d ≤ n) :
    Calls Tryd.prog 67 #[.slice a1 (dg 1000000000 n).length cap1, .slice a2 (dg 1000000000 d).length cap2] w fun e w' => (∃ v1 v2, e = .returned (.tuple #[v1, v2]) ∧ NumV w' 1000000000 (n / d) v1 ∧ NumV w' 1000000000 (n % d) v2) ∧ Below w.heap.size w w' := by
  have hkl := dg_len_mono bigBase hle
  have HC : Hid (Calls Tryd.prog 59 #[.slice a1 (dg 1000000000 n).length cap1, .slice a2 (dg 1000000000 d).length cap2] w fun e w' => e = .returned (.int .i64 (cmp3 (n : Int) (d : Int))) ∧ ∃ k, w' = w.drewN k) := compare_any w a1 a2 cap1 cap2 n d h1 h2 b1 (by omega)
  have hc : ¬ cmp3 (n : Int) (d : Int) < 0 := by unfold cmp3; split <;> (try split) <;> omega
  have hd0 : d ≠ 0 := fun e => by rw [e, dg_zero] at b2; simp at b2
  obtain ⟨top, htop⟩ : ∃ top, top = (dg 1000000000 d).getD ((dg 1000000000 d).length - 1) 0 := ⟨_, rfl⟩
  obtain ⟨s, hs⟩ : ∃ s, s = 1000000000 / (top + 1) := ⟨_, rfl⟩
  obtain ⟨s0, s9, slen, stop⟩ := scale_len bigBase hd0 s top htop hs
  obtain ⟨bb, oo, rfl, ccx⟩ := h2 0 (by omega)
  clear ccx
  have cc := h2.cellAt ((dg 1000000000 d).length - 1) (by omega)
  rw [← htop] at cc
  have es : (1000000000 : Int) / ((top : Int) + 1) = (s : Int) := by
    rw [hs]; exact (Int.natCast_ediv 1000000000 (top + 1)).symm
  have HS1 : Hid (∀ W, Below w.heap.size w W → Calls Tryd.prog 99 #[.slice a1 (dg 1000000000 n).length cap1, .int .i64 (s : Int)] W fun e w' => (∃ p : List Nat, e = .returned (.slice (some ⟨W.heap.size, 0, none⟩) ((dg 1000000000 n).length + 1) ((dg 1000000000 n).length + 1)) ∧ p.length = (dg 1000000000 n).length + 1 ∧ (∀ d ∈ p, d < 1000000000) ∧ vl 1000000000 p = n * s ∧ IHolds w' W.heap.size 2 (zs p)) ∧ Below W.heap.size W w') := fun W hW => scaled_any W a1 cap1 n s (h1.of_below hW) b1 s9
  have HS2 : Hid (∀ W, Below w.heap.size w W → Calls Tryd.prog 99 #[.slice (some ⟨bb, oo, none⟩) (dg 1000000000 d).length cap2, .int .i64 (s : Int)] W fun e w' => (∃ p : List Nat, e = .returned (.slice (some ⟨W.heap.size, 0, none⟩) ((dg 1000000000 d).length + 1) ((dg 1000000000 d).length + 1)) ∧ p.length = (dg 1000000000 d).length + 1 ∧ (∀ d ∈ p, d < 1000000000) ∧ vl 1000000000 p = d * s ∧ IHolds w' W.heap.size 2 (zs p)) ∧ Below W.heap.size W w') := fun W hW => scaled_any W _ cap2 d s (h2.of_below hW) (by omega) s9
  have HST : Hid (∀ R : List Nat, R.length = (dg 1000000000 n).length + 1 → (∀ x ∈ R, x < 1000000000) → vl 1000000000 R = n * s → DivS 1000000000 (n * s) (d * s) (dg 1000000000 d).length ((dg 1000000000 n).length - (dg 1000000000 d).length + 1) R []) := fun R g1 g2 g3 => DivS.start bigBase s0 (by omega) hkl g1 g2 g3
  have HEND : Hid (∀ k R Q, DivS 1000000000 (n * s) (d * s) k 0 R Q → vl 1000000000 Q = n / d ∧ vl 1000000000 R = n % d * s) := fun k R Q h => h.done s0
  have HMS : Hid (n % d * s / s = n % d) := Nat.mul_div_cancel _ s0
  have HDP : Hid (0 < d * s) := Nat.mul_pos (by omega) s0
  have HDlt : Hid (d * s < 1000000000 ^ (dg 1000000000 d).length) := by
    have := lt_pow_dg bigBase (d * s)
    rw [slen] at this
    exact this
  have HDm : Hid (∀ x ∈ dg 1000000000 (d * s), x < 1000000000) := dg_mem bigBase _
  have HDv : Hid (vl 1000000000 (dg 1000000000 (d * s)) = d * s) := vl_dg bigBase _
  have HDt : Hid ((dg 1000000000 (d * s)).getD ((dg 1000000000 d).length - 1) 0 ≠ 0) := by
    rcases dg_topped bigBase (d * s) with h | h
    · rw [h] at slen; simp at slen; omega
    · rw [slen] at h; exact h
  have HRl : Hid ((dg 1000000000 (n % d * s)).length ≤ 2000000) := by
    refine Nat.le_trans (dg_len_mono bigBase (show n % d * s ≤ d * s from Nat.mul_le_mul_right _ (Nat.le_of_lt (Nat.mod_lt _ (by omega))))) ?_
    rw [slen]; omega
  have HNS : Hid (∀ W a k' cap, NumV W 1000000000 (d * s) (.slice a k' cap) → (dg 1000000000 d).length = k' ∧ Row W a (dg 1000000000 (d * s))) := fun W a k' cap h => by
    obtain ⟨g1, _, g3⟩ := h.slice
    rw [slen] at g1
    exact ⟨g1.symm, g3⟩
  have HOL : Hid (∀ W v, NumV W 1000000000 (n % d * s) v → Calls Tryd.prog 98 #[v, .int .i64 (s : Int)] W fun e w' => (∃ v2 y, e = .returned (.tuple #[v2, .int .i64 y]) ∧ NumV w' 1000000000 (n % d) v2) ∧ Below W.heap.size W w') := fun W v h => by
    obtain ⟨a, cap, rfl, g1, g2⟩ := h
    refine (overLimb_any W a cap (n % d * s) s g2 HRl.out s0 s9).mono ?_
    rintro e w' ⟨⟨v2, he, hv2⟩, hb⟩
    rw [HMS.out] at hv2
    exact ⟨⟨v2, _, he, hv2⟩, hb⟩
  have SL : Hid ((dg 1000000000 (d * s)).length = (dg 1000000000 d).length) := slen
  clear htop hs h1 h2 slen
  generalize hln : (dg 1000000000 n).length = ln at *
  generalize hk : (dg 1000000000 d).length = k at *
  generalize cmp3 (n : Int) (d : Int) = c at *
  clear hln hk
  generalize dg 1000000000 (d * s) = dl at *
  generalize hND : d * s = D at *
  generalize hNN : n * s = N at *
  generalize hrr : n % d * s = rr at *
  generalize n % d = r at *
  generalize n / d = q at *
  clear hND hNN hrr
  have ik : ((k : Int) - 1).toNat = k - 1 := by omega
  have hk1 : ((k : Int) == 1) = false := beq_eq_false_iff_ne.2 (by omega)
  have htp : (0 : Int) < (top : Int) + 1 := by omega
  obtain ⟨M, hM, hmk⟩ : ∃ M : Nat, M = ln - k + 1 ∧ ∀ w, (Instr.makeSlice 67 (.int .i64 ((ln : Int) - (k : Int) + 1)) (.int .i64 ((ln : Int) - (k : Int) + 1))).run Tryd.prog w = .ok (.slice (some ⟨w.heap.size, 0, none⟩) M M) (w.alloc (.cells (zs (List.replicate M 0)).toArray 2)) :=
    ⟨ln - k + 1, rfl, fun w => makeNum' _ _ (by omega) (by omega) w⟩
  have HM : Hid (M = ln - k + 1) := hM
  have hMb : M ≤ 1000001 := by omega
  rw [← hM] at HST
  clear hM
  go_enter Tryd.func67, Tryd.ntmps67
  go_wp2_with fail
  refine HC.out.mono ?_
  rintro e w1 ⟨rfl, j, rfl⟩
  go_wp2_with fail
  refine (HS1.out _ (below_drawn w j)).mono ?_
  rintro e w2 ⟨⟨R0, rfl, hR1, hR2, hR3, hR4⟩, hb⟩
  have B2 : Hid (Below w.heap.size w w2) := (below_drawn w j).trans hb
  have HR0 : Hid (DivS 1000000000 N D k M R0 []) := HST.out R0 hR1 hR2 hR3
  have HI2 : Hid (IHolds w2 w.heap.size 2 (zs R0)) := hR4
  have HL0 : Hid (R0.length = ln + 1) := hR1
  have hsz2 : Hid (w.heap.size < w2.heap.size) := hR4.lt
  clear hb hR1 hR2 hR3 hR4 HST HS1 HC cc
  go_wp2_with fail
  refine (HS2.out _ B2.out).mono ?_
  rintro e w3 ⟨⟨D0, rfl, hD1, hD2, hD3, hD4⟩, hb⟩
  have B3 : Hid (Below w.heap.size w w3) := B2.out.trans (hb.mono B2.out.size)
  have HI3 : Hid (IHolds w3 w.heap.size 2 (zs R0)) := HI2.out.of_below hb
  have HTR : Hid (Calls Tryd.prog 90 #[.slice (some ⟨w2.heap.size, 0, none⟩) (k + 1) (k + 1)] w3 fun e w' => (∃ k', e = .returned (.slice (some ⟨w2.heap.size, 0, none⟩) k' (k + 1)) ∧ NumV w3 1000000000 (vl 1000000000 D0) (.slice (some ⟨w2.heap.size, 0, none⟩) k' (k + 1))) ∧ w' = w3) := by
    have hr : Row w3 (some ⟨w2.heap.size, 0, none⟩) D0 := IHolds.row (pre := []) (post := []) (by rw [List.nil_append, List.append_nil]; exact hD4)
    have := trimmed_keep 1000000000 bigBase w3 (some ⟨w2.heap.size, 0, none⟩) D0 (k + 1) hr (by omega) hD2 (by omega)
    rw [hD1] at this
    exact this
  have hD4 : w2.heap.size < w3.heap.size := hD4.lt
  clear hb hD1 hD2 HI2 HS2
  go_wp2_with fail
  refine HTR.out.mono ?_
  rintro e w4 ⟨⟨k', rfl, hnv⟩, rfl⟩
  rw [hD3] at hnv
  clear HTR hD3
  have hsz4 : Hid (w2.heap.size < w4.heap.size) := hD4
  clear hD4
  obtain ⟨rfl, hrow⟩ := HNS.out _ _ _ _ hnv
  have HRow : Hid (Row w4 (some ⟨w2.heap.size, 0, none⟩) dl) := hrow
  clear hnv hrow HNS
  go_wp2_with fail
  have q1 : Hid (IHolds (w4.alloc (.cells (zs (List.replicate M 0)).toArray 2)) w4.heap.size 2 (zs (List.replicate M 0))) := IHolds.new w4 2 _
  have q2 : Hid (Below w4.heap.size w4 (w4.alloc (.cells (zs (List.replicate M 0)).toArray 2))) := (Below.refl _ w4).alloc (Nat.le_refl _) _
  have B5 : Hid (Below w.heap.size w (w4.alloc (.cells (zs (List.replicate M 0)).toArray 2))) := B3.out.trans (q2.out.mono B3.out.size)
  have HI5 : Hid (IHolds (w4.alloc (.cells (zs (List.replicate M 0)).toArray 2)) w.heap.size 2 (zs R0)) := HI3.out.of_below q2.out
  have HRow5 : Hid (Row (w4.alloc (.cells (zs (List.replicate M 0)).toArray 2)) (some ⟨w2.heap.size, 0, none⟩) dl) := HRow.out.of_below q2.out
  have hge : Hid (w.heap.size ≤ w4.heap.size) := B3.out.size
  clear hmk HI3 HRow q2 B3 B2
  generalize w4.alloc (.cells (zs (List.replicate M 0)).toArray 2) = W5 at *
  generalize w4.heap.size = bQ at *
  generalize w2.heap.size = bD at *
  have nRD : Hid (w.heap.size ≠ bD) := by have := hsz2.out; show ¬ _; omega
  have nRQ : Hid (w.heap.size ≠ bQ) := by have := hsz2.out; have := hsz4.out; show ¬ _; omega
  have nDQ : Hid (bD ≠ bQ) := by have := hsz4.out; show ¬ _; omega
  have HAp : Hid (∀ g, bD ≠ g → dl ≠ [] → Apart (some ⟨bD, 0, none⟩) g) := fun g hg _ k' o' he => by
    simp only [Option.some.injEq, Addr.mk.injEq] at he
    omega
  go_loopg [9] (M + 1) (fun gk v9 wr => ∃ (i : Nat) (R Q : List Nat), i + 1 = gk ∧ i ≤ M ∧ v9 = .int .i64 ((i : Int) - 1) ∧ i + Q.length = M ∧ R.length = ln + 1 ∧ DivS 1000000000 N D k i R Q ∧ IHolds wr w.heap.size 2 (zs R) ∧ IHolds wr bQ 2 (zs (List.replicate i 0 ++ Q)) ∧ Row wr (some ⟨bD, 0, none⟩) dl ∧ Below w.heap.size w wr)
  case atStart => exact ⟨M, R0, [], rfl, Nat.le_refl _, by first | rfl | go_num, by simp, HL0.out, HR0.out, HI5.out, by rw [List.append_nil]; exact q1.out, HRow5.out, B5.out⟩
  case round =>
    obtain ⟨i, R, Q, hgi, hiM, rfl, hQl, hRl, hS, hRI, hQI, hrow, hB⟩ := hrel
    clear q1 HI5 HRow5 B5 HR0 HL0
    have hMe := HM.out
    by_cases hpos : 0 < i
    · obtain ⟨j, rfl⟩ : ∃ j, i = j + 1 := ⟨i - 1, by omega⟩
      obtain ⟨p1, p2, p3, p4⟩ := hS.part bigBase HDlt.out
      have hjl : j + (k + 1) ≤ R.length := by omega
      have hthree := three R j (k + 1) hjl
      have hXl : (R.take j).length = j := by rw [List.length_take]; omega
      have hYl : ((R.drop j).take (k + 1)).length = k + 1 := by rw [List.length_take, List.length_drop]; omega
      have hYd : ∀ x ∈ (R.drop j).take (k + 1), x < 1000000000 := fun x hx => hS.low x (List.mem_of_mem_drop (List.mem_of_mem_take hx))
      have HSTEP : Hid (∀ p q, p.length = k + 1 → (∀ x ∈ p, x < 1000000000) → q = vl 1000000000 ((R.drop j).take (k + 1)) / D → vl 1000000000 p = vl 1000000000 ((R.drop j).take (k + 1)) % D → DivS 1000000000 N D k j (R.take j ++ p ++ R.drop (j + (k + 1))) (q :: Q)) := fun p q g1 g2 g3 g4 => hS.step bigBase HDlt.out HDP.out p q g1 g2 g3 g4
      have HZl : Hid (∀ p : List Nat, p.length = k + 1 → (R.take j ++ p ++ R.drop (j + (k + 1))).length = ln + 1) := fun p hp => by
        rw [List.length_append, List.length_append, hXl, hp, List.length_drop]; omega
      have HIp : Hid (IHolds wr w.heap.size 2 (zs (R.take j) ++ zs ((R.drop j).take (k + 1)) ++ zs (R.drop (j + (k + 1))))) := by
        show IHolds _ _ _ _
        rw [← zs_append, ← zs_append, ← hthree]; exact hRI
      generalize R.take j = X at *
      generalize (R.drop j).take (k + 1) = Y at *
      generalize R.drop (j + (k + 1)) = Z at *
      have HYl : Hid (Y.length = k + 1) := hYl
      have HYd : Hid (∀ x ∈ Y, x < 1000000000) := hYd
      have HXl : Hid ((zs X).length = j) := by show _ = _; rw [zs_length, hXl]
      have G : Guess 1000000000 Y dl (k - 2) := ⟨by omega, by have := SL.out; omega, hYd, HDm.out, by
        have := HDt.out
        rwa [show k - 2 + 1 = k - 1 by omega], by rw [HDv.out]; exact p1⟩
      have HGU : Hid (Calls Tryd.prog 100 #[.slice (some ⟨w.heap.size, j, none⟩) (k + 1) (ln + 1 - j), .slice (some ⟨bD, 0, none⟩) k (k + 1)] wr fun e w' => (∃ qh : Nat, e = .returned (.int .i64 (qh : Int)) ∧ (qh = vl 1000000000 Y / D ∨ qh = vl 1000000000 Y / D + 1)) ∧ ∃ j', w' = wr.drewN j') := by
        have hr : Row wr (some ⟨w.heap.size, j, none⟩) Y := by have := IHolds.row HIp.out; rw [HXl.out] at this; exact this
        have := guess_any wr w.heap.size j (ln + 1 - j) bD 0 (k + 1) k Y dl b2 (by omega) G hr hrow
        rw [HDv.out] at this
        exact this
      have HPUT : Hid (∀ (W : World) (Y' : List Nat) (t : Int), IHolds W w.heap.size 2 (zs X ++ zs Y' ++ zs Z) → Row W (some ⟨bD, 0, none⟩) dl → Y'.length = k + 1 → (∀ x ∈ Y', x < 1000000000) → (-1000000000 ≤ t ∧ t ≤ 1000000000) → Calls Tryd.prog 89 #[.slice (some ⟨w.heap.size, j, none⟩) (k + 1) (ln + 1 - j), .slice (some ⟨bD, 0, none⟩) k (k + 1), .int .i64 t] W fun e w' => ∃ (p : List Nat) (c : Int), e = .returned (.int .i64 c) ∧ Puts 1000000000 Y' dl t (k + 1) p c ∧ IHolds w' w.heap.size 2 (zs X ++ zs p ++ zs Z) ∧ But w.heap.size W w') := fun W Y' t g1 g2 g3 g4 g5 => by
        have := put_part W w.heap.size j (k + 1) (ln + 1 - j) 2 (zs X) (zs Z) Y' (some ⟨bD, 0, none⟩) (k + 1) dl t HXl.out g3 g1 g2 (HAp.out _ (fun h => nRD.out h.symm)) g4 HDm.out g5 (by omega)
        rw [SL.out] at this
        exact this
      have hq9 : vl 1000000000 Y / D < 1000000000 := by rw [Nat.div_lt_iff_lt_mul HDP.out, Nat.mul_comm]; exact p1
      have HDM : Hid (D * (vl 1000000000 Y / D) + vl 1000000000 Y % D = vl 1000000000 Y) := Nat.div_add_mod _ _
      have HML : Hid (vl 1000000000 Y % D < D) := Nat.mod_lt _ HDP.out
      have HQI : Hid (IHolds wr bQ 2 (zs (List.replicate (j + 1) 0 ++ Q))) := hQI
      have HRw : Hid (Row wr (some ⟨bD, 0, none⟩) dl) := hrow
      have HB : Hid (Below w.heap.size w wr) := hB
      have hjM : j < M := by omega
      have hjM' : (j : Int) < (M : Int) := by omega
      have ejj : (((j + 1 : Nat) : Int) - 1) = (j : Int) := by omega
      have ekk : j + k + 1 - j = k + 1 := by omega
      have hjk' : (j : Int) + (k : Int) + 1 ≤ (ln : Int) + 1 := by omega
      have hjk : j + k + 1 ≤ ln + 1 := by omega
      rw [ejj]
      clear hS hRI hQI hrow hB p1 p2 p3 p4 hthree hXl hYl hYd G hRl hjl hMe
      go_wp2_with fail
      refine HGU.out.mono ?_
      rintro e w6 ⟨⟨qh, rfl, hqh⟩, j', rfl⟩
      clear HGU
      have c3 : (wr.drewN j').cell? ⟨bQ, j, none⟩ = some (I 0) := by
        have e : List.replicate (j + 1) 0 ++ Q = List.replicate j 0 ++ (0 :: Q) := by rw [List.replicate_succ']; simp
        have := HQI.out
        rw [e] at this
        show wr.cell? _ = _
        rw [this.cell j (by simp [zs] <;> omega)]
        simp [zs]
      have f3 : (wr.drewN j').frozen? ⟨bQ, j, none⟩ = false := HQI.out.frozen _
      have I6 : Hid (IHolds (wr.drewN j') w.heap.size 2 (zs X ++ zs Y ++ zs Z)) := HIp.out
      have Q6 : Hid (IHolds (wr.drewN j') bQ 2 (zs (List.replicate (j + 1) 0 ++ Q))) := HQI.out
      have R6 : Hid (Row (wr.drewN j') (some ⟨bD, 0, none⟩) dl) := HRw.out.drew j'
      have B6 : Hid (Below w.heap.size w (wr.drewN j')) := ⟨HB.out.os, HB.out.tape, HB.out.output, HB.out.size, HB.out.block⟩
      clear HIp HQI HRw HB
      generalize wr.drewN j' = w6 at *
      have hqh9 : qh ≤ 1000000000 := by
        generalize vl 1000000000 Y / D = qq at *
        omega
      have Q7 : Hid (IHolds (w6.setCell ⟨bQ, j, none⟩ (.int .i64 (qh : Int))) bQ 2 (zs (List.replicate j 0 ++ (qh :: Q)))) := by
        have := Q6.out.set j (.int .i64 (qh : Int))
        rw [rep_set j qh Q _ rfl] at this
        exact this
      have bt7 : But bQ w6 (w6.setCell ⟨bQ, j, none⟩ (.int .i64 (qh : Int))) := (But.refl _ _).setCell _ _
      have I7 : Hid (IHolds (w6.setCell ⟨bQ, j, none⟩ (.int .i64 (qh : Int))) w.heap.size 2 (zs X ++ zs Y ++ zs Z)) := I6.out.of_but bt7 nRQ.out
      have R7 : Hid (Row (w6.setCell ⟨bQ, j, none⟩ (.int .i64 (qh : Int))) (some ⟨bD, 0, none⟩) dl) := R6.out.of_but (HAp.out _ nDQ.out) bt7
      have B7 : Hid (Below w.heap.size w (w6.setCell ⟨bQ, j, none⟩ (.int .i64 (qh : Int)))) := B6.out.setCell hge.out _
      have c7 : (w6.setCell ⟨bQ, j, none⟩ (.int .i64 (qh : Int))).cell? ⟨bQ, j, none⟩ = some (I qh) := by
        rw [Q7.out.cell j (by simp [zs] <;> omega)]
        simp [zs]
      clear bt7 I6 Q6 R6 B6
      go_wp2_with fail
      clear c3 f3
      generalize w6.setCell ⟨bQ, j, none⟩ (.int .i64 (qh : Int)) = w7 at *
      have hDB : D < 1000000000 ^ (k + 1) := Nat.lt_of_lt_of_le HDlt.out (Nat.pow_le_pow_right (by omega) (by omega))
      have hdl := SL.out
      refine (HPUT.out w7 Y (-(qh : Int)) I7.out R7.out HYl.out HYd.out (by omega)).mono ?_
      rintro e w8 ⟨p, c', rfl, hp, hpI, hpB⟩
      have Q8 : Hid (IHolds w8 bQ 2 (zs (List.replicate j 0 ++ (qh :: Q)))) := Q7.out.of_but hpB (fun h => nRQ.out h.symm)
      have R8 : Hid (Row w8 (some ⟨bD, 0, none⟩) dl) := R7.out.of_but (HAp.out _ (fun h => nRD.out h.symm)) hpB
      have B8 : Hid (Below w.heap.size w w8) := B7.out.trans (hpB.below B7.out.size (Nat.le_refl _))
      have HpI : Hid (IHolds w8 w.heap.size 2 (zs X ++ zs p ++ zs Z)) := hpI
      have HpL : Hid (p.length = k + 1) := hp.len
      have HpD : Hid (∀ x ∈ p, x < 1000000000) := hp.low
      have HDV := HDv.out
      have hYl := HYl.out
      clear Q7 R7 B7 I7 c7 hpI hpB
      rcases hqh with hqq | hqq
      · have hdn := hp.done (by omega) (by omega) (vl 1000000000 Y % D) (by rw [HDV, hqq]; exact put_right HDM.out) (Nat.lt_trans HML.out hDB)
        obtain ⟨rfl, hpv⟩ := hdn
        have S8 : Hid (DivS 1000000000 N D k j (X ++ p ++ Z) (qh :: Q)) := HSTEP.out p qh HpL.out HpD.out hqq hpv
        have I8 : Hid (IHolds w8 w.heap.size 2 (zs (X ++ p ++ Z))) := by show IHolds _ _ _ _; rw [zs_append, zs_append]; exact HpI.out
        have L8 : Hid ((X ++ p ++ Z).length = ln + 1) := HZl.out p HpL.out
        have LQ : Hid (j + (qh :: Q).length = M) := by show _ = _; rw [List.length_cons]; omega
        clear hp hqq hpv HSTEP HDM HML hq9 HDV hYl hdl HPUT
        go_wp2_with fail
        go_roundg (gk - 1)
        case measure => omega
        case rel => exact ⟨j, X ++ p ++ Z, qh :: Q, by omega, by omega, by first | rfl | go_num, LQ.out, L8.out, S8.out, I8.out, Q8.out, R8.out, B8.out⟩
      · have hdn := hp.under (by omega) (by omega) (D - vl 1000000000 Y % D) (by have := HML.out; omega) (by rw [HDV, hqq]; exact put_high HDM.out HML.out) (by omega)
        obtain ⟨rfl, hpv⟩ := hdn
        have HPV : Hid (vl 1000000000 p + D = vl 1000000000 Y % D + 1000000000 ^ (k + 1)) := by have := HML.out; show _ = _; omega
        have HML2 : Hid (vl 1000000000 Y % D < 1000000000 ^ (k + 1)) := Nat.lt_trans HML.out hDB
        have HPU2 := HPUT.out w8 p 1 HpI.out R8.out HpL.out HpD.out (by omega)
        have HPUH : Hid (Calls Tryd.prog 89 #[.slice (some ⟨w.heap.size, j, none⟩) (k + 1) (ln + 1 - j), .slice (some ⟨bD, 0, none⟩) k (k + 1), .int .i64 1] w8 fun e w' => ∃ (p2 : List Nat) (c : Int), e = .returned (.int .i64 c) ∧ Puts 1000000000 p dl 1 (k + 1) p2 c ∧ IHolds w' w.heap.size 2 (zs X ++ zs p2 ++ zs Z) ∧ But w.heap.size w8 w') := HPU2
        have HQQ : Hid (qh = vl 1000000000 Y / D + 1) := hqq
        clear hp hqq hpv HPU2 HPUT hq9 HDM HML
        go_wp2_with fail
        refine HPUH.out.mono ?_
        rintro e w9 ⟨p2, c2, rfl, hp2, hI2, hB2⟩
        have hpv2 := hp2.past (by have := HpL.out; omega) (by omega) (vl 1000000000 Y % D) (by rw [HDV]; exact HPV.out) HML2.out
        obtain ⟨yq, hyq⟩ : ∃ yq, yq = vl 1000000000 Y / D := ⟨_, rfl⟩
        have S9 : Hid (DivS 1000000000 N D k j (X ++ p2 ++ Z) (yq :: Q)) := HSTEP.out p2 yq hp2.len hp2.low hyq hpv2
        have I9 : IHolds w9 w.heap.size 2 (zs (X ++ p2 ++ Z)) := by rw [zs_append, zs_append]; exact hI2
        have L9 : Hid ((X ++ p2 ++ Z).length = ln + 1) := HZl.out p2 hp2.len
        have LQ : Hid (j + (yq :: Q).length = M) := by show _ = _; rw [List.length_cons]; omega
        have Q9 : IHolds w9 bQ 2 (zs (List.replicate j 0 ++ (qh :: Q))) := Q8.out.of_but hB2 (fun h => nRQ.out h.symm)
        have R9 : Row w9 (some ⟨bD, 0, none⟩) dl := R8.out.of_but (HAp.out _ (fun h => nRD.out h.symm)) hB2
        have B9 : Below w.heap.size w w9 := B8.out.trans (hB2.below B8.out.size (Nat.le_refl _))
        have c9 : w9.cell? ⟨bQ, j, none⟩ = some (I qh) := by
          rw [Q9.cell j (by simp [zs] <;> omega)]
          simp [zs]
        have f9 : w9.frozen? ⟨bQ, j, none⟩ = false := Q9.frozen _
        have eqh : (qh : Int) - 1 = (yq : Int) := by have := HQQ.out; rw [← hyq] at this; omega
        have bt : But bQ w9 (w9.setCell ⟨bQ, j, none⟩ (.int .i64 (yq : Int))) := (But.refl _ _).setCell _ _
        have Q10 : Hid (IHolds (w9.setCell ⟨bQ, j, none⟩ (.int .i64 (yq : Int))) bQ 2 (zs (List.replicate j 0 ++ (yq :: Q)))) := by
          have := Q9.set j (.int .i64 (yq : Int))
          rw [rep_reset j qh yq Q _ rfl] at this
          exact this
        have I10 : Hid (IHolds (w9.setCell ⟨bQ, j, none⟩ (.int .i64 (yq : Int))) w.heap.size 2 (zs (X ++ p2 ++ Z))) := I9.of_but bt nRQ.out
        have R10 : Hid (Row (w9.setCell ⟨bQ, j, none⟩ (.int .i64 (yq : Int))) (some ⟨bD, 0, none⟩) dl) := R9.of_but (HAp.out _ nDQ.out) bt
        have B10 : Hid (Below w.heap.size w (w9.setCell ⟨bQ, j, none⟩ (.int .i64 (yq : Int)))) := B9.setCell hge.out _
        clear hp2 hI2 hB2 hpv2 hyq I9 Q9 R9 B9 bt HPUH Q8 R8 B8 HpI HpL HpD HPV HML2 HQQ HDV hYl hdl HSTEP
        go_wp2_with fail
        go_roundg (gk - 1)
        case measure => omega
        case rel => exact ⟨j, X ++ p2 ++ Z, yq :: Q, by omega, by omega, by first | rfl | go_num, LQ.out, L9.out, S9.out, I10.out, Q10.out, R10.out, B10.out⟩
    · obtain rfl : i = 0 := by omega
      obtain ⟨e1, e2⟩ := HEND.out k R Q hS
      have HQ : Hid (vl 1000000000 Q = q) := e1
      have HRr : Hid (vl 1000000000 R = rr) := e2
      have HRd : Hid (∀ x ∈ R, x < 1000000000) := hS.low
      have HQd : Hid (∀ x ∈ Q, x < 1000000000) := hS.lowQ
      have HQl : Hid (Q.length = M) := by show _ = _; omega
      have HRl2 : Hid (R.length = ln + 1) := hRl
      have HRI : Hid (IHolds wr w.heap.size 2 (zs R)) := hRI
      have HQI : Hid (IHolds wr bQ 2 (zs Q)) := by show IHolds _ _ _ _; simpa using hQI
      have HB : Hid (Below w.heap.size w wr) := hB
      clear e1 e2 hS hRI hQI hB hrow hRl hQl hMe
      go_wp2_with fail
      refine (trimmed_at wr w.heap.size (ln + 1) (ln + 1) 2 R HRI.out HRl2.out (Nat.le_refl _) HRd.out (by omega)).mono ?_
      rintro e W3 ⟨⟨v, rfl, hv⟩, rfl⟩
      rw [HRr.out] at hv
      have HVV : Hid (NumV W3 1000000000 rr v) := hv
      clear hv
      go_wp2_with fail
      refine (HOL.out W3 v HVV.out).mono ?_
      rintro e W4 ⟨⟨v2, y2, rfl, hv2⟩, hb2⟩
      have HV2 : Hid (NumV W4 1000000000 r v2) := hv2
      have HQI4 : Hid (IHolds W4 bQ 2 (zs Q)) := HQI.out.of_below hb2
      have HB4 : Hid (Below w.heap.size w W4) := HB.out.trans (hb2.mono HB.out.size)
      clear hv2 hb2
      go_wp2_with fail
      simp only [Sem.run_pure, Result.andThen_ok]
      go_wp2_with fail
      refine (trimmed_at W4 bQ M M 2 Q HQI4.out HQl.out (Nat.le_refl _) HQd.out (by omega)).mono ?_
      rintro e W5 ⟨⟨v3, rfl, hv3⟩, rfl⟩
      rw [HQ.out] at hv3
      have HV3 : Hid (NumV W5 1000000000 q v3) := hv3
      clear hv3
      go_wp2_with fail
      go_ret2
      exact ⟨⟨v3, v2, rfl, HV3.out, HV2.out⟩, HB4.out⟩

/-- Division, of values that are numbers, by what is not 0. -/
theorem overV {W : World} {n d : Nat} {v1 v2 : Value} (h1 : NumV W 1000000000 n v1) (h2 : NumV W 1000000000 d v2) (hd : d ≠ 0) (b1 : (dg 1000000000 n).length ≤ 1000000) (b2 : (dg 1000000000 d).length ≤ 1000000) :
    Calls Tryd.prog 67 #[v1, v2] W fun e w' => (∃ u1 u2, e = .returned (.tuple #[u1, u2]) ∧ NumV w' 1000000000 (n / d) u1 ∧ NumV w' 1000000000 (n % d) u2) ∧ Below W.heap.size W w' := by
  obtain ⟨a1, c1, rfl, k1, r1⟩ := h1
  obtain ⟨a2, c2, rfl, k2, r2⟩ := h2
  by_cases hlt : n < d
  · exact over_low W a1 a2 c1 c2 n d r1 r2 b1 b2 hlt
  · have hl : (dg 1000000000 d).length ≠ 0 := fun e => hd ((dg_length_zero bigBase).1 e)
    by_cases h1 : (dg 1000000000 d).length = 1
    · exact over_one W a1 a2 c1 c2 n d r1 r2 b1 h1 (by omega)
    · exact over_many W a1 a2 c1 c2 n d r1 r2 b1 (by omega) (by omega)
end Go.Proofs.YtlgcnjinmcgacaaDoor
