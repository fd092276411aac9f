/- The walk of the law WireSlips. -/
import Derived.Test.YtlogilmeefcipaaSlipB
import Derived.Deep.RegionHeld
import Derived.Deep.RegionHeld3
set_option linter.unusedSimpArgs false
set_option linter.unusedVariables false
set_option maxRecDepth 100000
namespace Go.Proofs.Ytlogilmeefcipaa
open Go.RowKit Go.Deep Go.PlainAid

theorem y1 {α : Type} {xs : List α} {i : Nat} (h : i < xs.toArray.size) : xs.toArray[i] = xs[i]'(by simpa using h) := List.getElem_toArray h
theorem y2 {α : Type} (a : α) (l : List α) (i : Nat) (h : i + 1 < (a :: l).length) : (a :: l)[i + 1] = l[i]'(by simpa using h) := List.getElem_cons_succ a l i h
theorem y3 {α : Type} (a : α) (l : List α) (h : 0 < (a :: l).length) : (a :: l)[0] = a := List.getElem_cons_zero a l h
theorem y4 {α : Type} {l : List α} {i : Nat} {a : α} : l.toArray.setIfInBounds i a = (l.set i a).toArray := List.setIfInBounds_toArray _ _ _
theorem y5 {α : Type} {x : α} {l : List α} {a : α} : (x :: l).set 0 a = a :: l := List.set_cons_zero
theorem y6 {α : Type} {x : α} {l : List α} {n : Nat} {a : α} : (x :: l).set (n + 1) a = x :: l.set n a := List.set_cons_succ
theorem y7 {α : Type} {xs : Array α} : xs.toList.toArray = xs := Array.toArray_toList
theorem tk {P : Program} {md : Region.Mode} {ops : Array Oper} {Q : Exit → Act → World → Prop} {S : World → Prop} {i : Nat} {oi : Oper} {v : Value} {fuel : Nat} {listed : Array Bool} {a : Act} {w : World} (hi : ops[i]? = some oi)
    (hs : (Region.noSelect ops && (Region.free md ops listed i && (Region.ready md ops listed).contains i)) = true)
    (hQ : ∀ c a w, Q (.panic c) (a.put oi.dst v) w → Q (.panic c) a w) (hw : Region.wanted oi (yielded ops a.tmps) = true) (hy : ∀ w, S w → (execOp a.eval oi).run P w = .ok (.value v) w) (hS : S w)
    (h : wpAnyH P md ops Q S fuel (listed.setIfInBounds i true) (a.put oi.dst v) w) : wpAnyH P md ops Q S (fuel + 1) listed a w := by
  simp only [Bool.and_eq_true] at hs
  exact wpAnyH_take hi hs.1 hs.2.1 hs.2.2 hQ (Or.inl ⟨hw, hy⟩) hS h

theorem below_drew1 {w W : World} (h : Below w.heap.size w W) : Below w.heap.size w W.drew := h.trans ⟨rfl, rfl, rfl, Nat.le_refl _, fun _ _ => rfl⟩
theorem conv_one (w : World) (o : Nat) (ho : o < 256) : (convert 35 9 (.slice (some ⟨w.heap.size, 0, none⟩) 1 1)).run Try.prog (w.alloc (.cells #[.int .u8 (o : Int)] 5)) = .ok (.string ⟨#[UInt8.ofNat o]⟩) (w.alloc (.cells #[.int .u8 (o : Int)] 5)) := by
  have h : BH (w.alloc (.cells #[.int .u8 (o : Int)] 5)) w.heap.size [o] := by
    show (w.heap.push _)[w.heap.size]? = _
    simp
  have h2 := convert_owned (h.owned (B := w.heap.size) (Nat.le_refl _) (by simp))
  exact h2
theorem extract_le (s : ByteArray) (a b : Nat) : (s.extract a b).size ≤ s.size := by
  rw [ByteArray.size_extract]; omega
set_option maxHeartbeats 4000000 in
theorem wireSlips_walk (b : ByteArray) (z : Int) (o : Nat) (ho : o < 256) (hz1 : -9223372036854775808 ≤ z) (hz2 : z ≤ 9223372036854775807) (w : World) :
    Calls Try.prog 5 #[.string b, .int .i64 z, .int .u8 (o : Int)] w fun e w' => e = .returned (.bool true) ∧ Below w.heap.size w w' := by
  by_cases h64 : 64 < b.size
  · have k64 : (64 : Int) < (b.size : Int) := by omega
    go_enter Try.func5, Try.ntmps5
    go_wp2_with fail
    go_ret
    exact ⟨rfl, Below.refl _ _⟩
  have k64 : ¬ (64 : Int) < (b.size : Int) := by omega
  have hn : (valsC b).length = (bareB b).size := (bare_size b).symm
  have hn9 : (bareB b).size ≤ 104 := by rw [← hn, valsC_length]; unfold sgn; omega
  have C10 : Hid (∀ W, Calls Try.prog 10 #[.string b] W fun e w' => e = .returned (.tuple #[.string (FB (valsC b)), .int .i64 0]) ∧ Below W.heap.size W w') := fun W => letters_ok W b (by omega)
  have fs : (FB (valsC b)).size ≤ 1000 := by have := FB_size (valsC b); omega
  have C12 : Hid (∀ W, Calls Try.prog 12 #[.string (FB (valsC b))] W fun e w' => e = .returned (.tuple #[.string b, .int .i64 0]) ∧ Below W.heap.size W w') := fun W => by
    have := from_any W (FB (valsC b)) (by omega)
    rw [round_trip (by omega)] at this
    exact this
  have C13 : Hid (∀ W, Calls Try.prog 13 #[.string (FB (valsC b))] W fun e w' => e = .returned (.string (bareB b)) ∧ Below W.heap.size W w') := fun W => by
    have := bare_any W (FB (valsC b)) (by omega)
    rw [FB_filter (valsC_lt b)] at this
    exact this
  have SL1 : Hid (∀ k, k < (bareB b).size → o ≠ 45 → sv o ≠ sv (bt (bareB b) k) → ∃ x1 x2, x2 ≠ (0 : Int) ∧ Hid (∀ W, Calls Try.prog 12 #[.string ((bareB b).extract 0 k ++ ⟨#[UInt8.ofNat o]⟩ ++ (bareB b).extract (k + 1) (bareB b).size)] W fun e w' => e = .returned (.tuple #[.string x1, .int .i64 x2]) ∧ Below W.heap.size W w')) := fun k hk h45 hne => by
    have hs := slip1 (b := b) (k := k) ho h45 (by omega) hne
    refine ⟨_, _, ?_, fun W => from_any W _ ?_⟩
    · exact_mod_cast hs
    · rw [ByteArray.size_append, ByteArray.size_append]
      have h1 := extract_le (bareB b) 0 k
      have h2 := extract_le (bareB b) (k + 1) (bareB b).size
      have h3 : (⟨#[UInt8.ofNat o]⟩ : ByteArray).size = 1 := rfl
      omega
  have SL2a : Hid (∀ k, k + 1 < (bareB b).size → bt (bareB b) k ≠ bt (bareB b) (k + 1) → ∃ x1 x2, x2 ≠ (0 : Int) ∧ Hid (∀ W, Calls Try.prog 12 #[.string ((bareB b).extract 0 k ++ (bareB b).extract (k + 1) (k + 2) ++ (bareB b).extract k (k + 1) ++ (bareB b).extract (k + 2) (bareB b).size)] W fun e w' => e = .returned (.tuple #[.string x1, .int .i64 x2]) ∧ Below W.heap.size W w')) := fun k hk hne => by
    have hs := slip2 (b := b) (k := k) (by omega) hne
    refine ⟨_, _, ?_, fun W => from_any W _ ?_⟩
    · exact_mod_cast hs
    · rw [ByteArray.size_append, ByteArray.size_append, ByteArray.size_append]
      have h1 := extract_le (bareB b) 0 k
      have h2 := extract_le (bareB b) (k + 1) (k + 2)
      have h3 := extract_le (bareB b) k (k + 1)
      have h4 := extract_le (bareB b) (k + 2) (bareB b).size
      omega
  have hsb := get_bs (bareB b)
  clear hn
  generalize FB (valsC b) = fb at *
  generalize bareB b = lB at *
  go_enter Try.func5, Try.ntmps5
  go_wp2_with fail
  refine (C10.out w).mono ?_
  rintro e W1 ⟨rfl, hb⟩
  have B : Hid (Below w.heap.size w W1) := hb
  clear hb
  go_wp2_with fail
  refine (C12.out W1).mono ?_
  rintro e W2 ⟨rfl, hb⟩
  replace B : Hid (Below w.heap.size w W2) := B.out.trans (hb.mono B.out.size)
  clear hb
  go_wp2_with fail
  refine (C13.out W2).mono ?_
  rintro e W3 ⟨rfl, hb⟩
  replace B : Hid (Below w.heap.size w W3) := B.out.trans (hb.mono B.out.size)
  clear hb C10 C12 C13
  by_cases hneg : z < 0
  · go_wp2_with fail
    go_ret
    exact ⟨rfl, B.out⟩
  obtain ⟨k, rfl⟩ : ∃ k : Nat, z = (k : Int) := ⟨z.toNat, by omega⟩
  by_cases hge : lB.size ≤ k
  · have kge : (lB.size : Int) ≤ (k : Int) := by omega
    go_wp2_with fail
    go_ret
    exact ⟨rfl, B.out⟩
  have kge : ¬ (lB.size : Int) ≤ (k : Int) := by omega
  by_cases h45 : o = 45
  · have k45 : (o : Int) = 45 := by omega
    clear h45
    go_wp2_with fail
    go_ret
    exact ⟨rfl, B.out⟩
  have k45 : ((o : Int) == 45) = false := beq_eq_false_iff_ne.2 (by omega)
  go_upto_region 12 with fail
  clear k45 kge hneg
  have CV1 : Hid (∀ W, Calls Try.prog 14 #[.int .u8 (o : Int)] W fun e w' => e = .returned (.int .i64 (sv o)) ∧ w' = W) := fun W => refValue_same W o ho
  have CV2 : Hid (∀ W, Calls Try.prog 14 #[.int .u8 (bt lB k : Int)] W fun e w' => e = .returned (.int .i64 (sv (bt lB k))) ∧ w' = W) := fun W => refValue_same W _ (bt_lt _ _)
  have SL1k : Hid (sv o ≠ sv (bt lB k) → ∃ x1 x2, x2 ≠ (0 : Int) ∧ Hid (∀ W, Calls Try.prog 12 #[.string (lB.extract 0 k ++ ⟨#[UInt8.ofNat o]⟩ ++ lB.extract (k + 1) lB.size)] W fun e w' => e = .returned (.tuple #[.string x1, .int .i64 x2]) ∧ Below W.heap.size W w')) := fun h => SL1.out k (by omega) h45 h
  obtain ⟨k1, hk1⟩ : ∃ k1, k1 = k + 1 := ⟨_, rfl⟩
  obtain ⟨k2, hk2⟩ : ∃ k2, k2 = k + 2 := ⟨_, rfl⟩
  have SL2 : Hid (k + 1 < lB.size → ¬ bt lB k = bt lB k1 → ∃ x1 x2, x2 ≠ (0 : Int) ∧ Hid (∀ W, Calls Try.prog 12 #[.string (lB.extract 0 k ++ lB.extract k1 k2 ++ lB.extract k k1 ++ lB.extract k2 lB.size)] W fun e w' => e = .returned (.tuple #[.string x1, .int .i64 x2]) ∧ Below W.heap.size W w')) := fun h h2 => by
    rw [hk1] at h2
    rw [hk1, hk2]
    exact SL2a.out k h h2
  rw [← hk1] at SL1k
  have kk1 : (k : Int) + 1 = (k1 : Int) := by omega
  have kw1 : IntKind.i64.wrap ((k : Int) + 1) = (k1 : Int) := by rw [IntKind.wrap_i64]; omega
  have kw1' : IntKind.i64.wrap (k1 : Int) = (k1 : Int) := by rw [IntKind.wrap_i64]; omega
  have kn : (k : Int) < (lB.size : Int) := by omega
  have kn2 : (k : Int) ≤ (lB.size : Int) := by omega
  have k1n : (k1 : Int) ≤ (lB.size : Int) := by omega
  have kk12 : (k : Int) ≤ (k1 : Int) := by omega
  have kk23 : (k1 : Int) ≤ (k2 : Int) := by omega
  have c1 := bt_lt lB k
  have sA0 := extract_le lB 0 k
  have sA1 := extract_le lB k1 lB.size
  have sP1 := extract_le lB k1 k2
  have sP2 := extract_le lB k k1
  have sP3 := extract_le lB k2 lB.size
  obtain ⟨A0, hA0⟩ : ∃ A, A = lB.extract 0 k := ⟨_, rfl⟩
  obtain ⟨A1, hA1⟩ : ∃ A, A = lB.extract k1 lB.size := ⟨_, rfl⟩
  obtain ⟨P1, hP1⟩ : ∃ A, A = lB.extract k1 k2 := ⟨_, rfl⟩
  obtain ⟨P2, hP2⟩ : ∃ A, A = lB.extract k k1 := ⟨_, rfl⟩
  obtain ⟨P3, hP3⟩ : ∃ A, A = lB.extract k2 lB.size := ⟨_, rfl⟩
  rw [← hA0, ← hA1] at SL1k
  rw [← hA0, ← hP1, ← hP2, ← hP3] at SL2
  rw [← hA0] at sA0
  rw [← hA1] at sA1
  rw [← hP1] at sP1
  rw [← hP2] at sP2
  rw [← hP3] at sP3
  have eA0 : lB.extract 0 k = A0 := hA0.symm
  have eA1 : lB.extract k1 lB.size = A1 := hA1.symm
  have eP1 : lB.extract k1 k2 = P1 := hP1.symm
  have eP2 : lB.extract k k1 = P2 := hP2.symm
  have eP3 : lB.extract k2 lB.size = P3 := hP3.symm
  have kk2 : (k : Int) + 2 = (k2 : Int) := by omega
  clear hA0 hA1 hP1 hP2 hP3 SL1 SL2a hk1 hk2
  have hbk : ∀ h : k < lB.size, ((lB[k]'h).toNat : Int) = (bt lB k : Int) := fun h => hsb k h
  have hbk1 : ∀ h : k1 < lB.size, ((lB[k1]'h).toNat : Int) = (bt lB k1 : Int) := fun h => hsb k1 h
  have d1 := bt_lt lB k1
  clear hsb
  generalize sv o = q1 at *
  generalize sv (bt lB k) = q2 at *
  generalize bt lB k = ca at *
  generalize bt lB k1 = cb at *
  go_quiet (first | (go_at_call_of 14 o; exact Calls.quiet_of_same (CV1.out _)) | (go_at_call_of 14 ca; exact Calls.quiet_of_same (CV2.out _)))
  replace B : Hid (Below w.heap.size w (W3.drewN nq)) := B.out.trans ⟨rfl, rfl, rfl, Nat.le_refl _, fun _ _ => rfl⟩
  generalize W3.drewN nq = WX at *
  by_cases hd : q1 = q2
  · have kd : (q1 != q2) = false := by simpa using hd
    clear SL1k hd CV1 CV2
    go_wp2_with fail
    have B0 : Hid (Below w.heap.size w WX) := B.out
    generalize WX = WT at *
    by_cases h2 : k + 1 < lB.size
    · have g1 : (k1 : Int) < (lB.size : Int) := by omega
      by_cases hb2 : ca = cb
      · have g2 : ((ca : Int) != (cb : Int)) = false := by simp; omega
        go_quiet (fail)
        have B9 : Hid (Below w.heap.size w (WT.drewN nq)) := B0.out.trans ⟨rfl, rfl, rfl, Nat.le_refl _, fun _ _ => rfl⟩
        generalize WT.drewN nq = WZ at *
        clear hb2
        go_wp2_with fail
        go_ret
        exact ⟨rfl, B9.out⟩
      · have g2 : ((ca : Int) != (cb : Int)) = true := by simp; omega
        obtain ⟨ya, yb, hy, CY⟩ := SL2.out h2 hb2
        have HY : Hid (yb ≠ 0) := hy
        have ky : (yb == 0) = false := beq_eq_false_iff_ne.2 hy
        have kw2 : IntKind.i64.wrap ((k : Int) + 2) = (k2 : Int) := by rw [IntKind.wrap_i64]; omega
        have kw2' : IntKind.i64.wrap (k2 : Int) = (k2 : Int) := by rw [IntKind.wrap_i64]; omega
        have k2n : (k2 : Int) ≤ (lB.size : Int) := by omega
        go_quiet (fail)
        have B5 : Hid (Below w.heap.size w (WT.drewN nq)) := B0.out.trans ⟨rfl, rfl, rfl, Nat.le_refl _, fun _ _ => rfl⟩
        generalize WT.drewN nq = WY at *
        clear hb2 g2 hy
        go_wp2_with fail
        refine wp_region_held_drew (S := fun _ => True) (by kernel_rfl) trivial (fun hHeld1 => ?_)
        have B6 : Hid (Below w.heap.size w WY.drew) := below_drew1 B5.out
        generalize WY.drew = U5 at *
        refine tk (i := 0) (v := (.string lB)) rfl (by kernel_rfl) (fun _ _ _ h => h) rfl ?_ hHeld1 ?_
        · intro W hS; go_simp
        simp only [Act.put, y1, y2, y3, y4, y5, y6, y7]
        refine tk (i := 1) (v := (.int .i64 (k : Int))) rfl (by kernel_rfl) (fun _ _ _ h => h) rfl ?_ hHeld1 ?_
        · intro W hS; go_simp
        simp only [Act.put, y1, y2, y3, y4, y5, y6, y7]
        refine tk (i := 2) (v := (.string A0)) rfl (by kernel_rfl) (fun _ _ _ h => h) rfl ?_ hHeld1 ?_
        · intro W hS; go_simp
        simp only [Act.put, y1, y2, y3, y4, y5, y6, y7]
        refine tk (i := 3) (v := (.string lB)) rfl (by kernel_rfl) (fun _ _ _ h => h) rfl ?_ hHeld1 ?_
        · intro W hS; go_simp
        simp only [Act.put, y1, y2, y3, y4, y5, y6, y7]
        refine tk (i := 4) (v := (.int .i64 (k : Int))) rfl (by kernel_rfl) (fun _ _ _ h => h) rfl ?_ hHeld1 ?_
        · intro W hS; go_simp
        simp only [Act.put, y1, y2, y3, y4, y5, y6, y7]
        refine tk (i := 5) (v := (.int .i64 (k1 : Int))) rfl (by kernel_rfl) (fun _ _ _ h => h) rfl ?_ hHeld1 ?_
        · intro W hS; go_simp
        simp only [Act.put, y1, y2, y3, y4, y5, y6, y7]
        refine tk (i := 6) (v := (.int .i64 (k : Int))) rfl (by kernel_rfl) (fun _ _ _ h => h) rfl ?_ hHeld1 ?_
        · intro W hS; go_simp
        simp only [Act.put, y1, y2, y3, y4, y5, y6, y7]
        refine tk (i := 7) (v := (.int .i64 (k2 : Int))) rfl (by kernel_rfl) (fun _ _ _ h => h) rfl ?_ hHeld1 ?_
        · intro W hS; go_simp
        simp only [Act.put, y1, y2, y3, y4, y5, y6, y7]
        refine tk (i := 8) (v := (.string P1)) rfl (by kernel_rfl) (fun _ _ _ h => h) rfl ?_ hHeld1 ?_
        · intro W hS; go_simp
        simp only [Act.put, y1, y2, y3, y4, y5, y6, y7]
        refine tk (i := 9) (v := (.string (A0 ++ P1))) rfl (by kernel_rfl) (fun _ _ _ h => h) rfl ?_ hHeld1 ?_
        · intro W hS; go_simp <;> (try simp only [ByteArray.size_append]) <;> omega
        simp only [Act.put, y1, y2, y3, y4, y5, y6, y7]
        refine tk (i := 10) (v := (.string lB)) rfl (by kernel_rfl) (fun _ _ _ h => h) rfl ?_ hHeld1 ?_
        · intro W hS; go_simp
        simp only [Act.put, y1, y2, y3, y4, y5, y6, y7]
        refine tk (i := 11) (v := (.int .i64 (k : Int))) rfl (by kernel_rfl) (fun _ _ _ h => h) rfl ?_ hHeld1 ?_
        · intro W hS; go_simp
        simp only [Act.put, y1, y2, y3, y4, y5, y6, y7]
        refine tk (i := 12) (v := (.int .i64 (k : Int))) rfl (by kernel_rfl) (fun _ _ _ h => h) rfl ?_ hHeld1 ?_
        · intro W hS; go_simp
        simp only [Act.put, y1, y2, y3, y4, y5, y6, y7]
        refine tk (i := 13) (v := (.int .i64 (k1 : Int))) rfl (by kernel_rfl) (fun _ _ _ h => h) rfl ?_ hHeld1 ?_
        · intro W hS; go_simp
        simp only [Act.put, y1, y2, y3, y4, y5, y6, y7]
        refine tk (i := 14) (v := (.string P2)) rfl (by kernel_rfl) (fun _ _ _ h => h) rfl ?_ hHeld1 ?_
        · intro W hS; go_simp
        simp only [Act.put, y1, y2, y3, y4, y5, y6, y7]
        refine tk (i := 15) (v := (.string (A0 ++ P1 ++ P2))) rfl (by kernel_rfl) (fun _ _ _ h => h) rfl ?_ hHeld1 ?_
        · intro W hS; go_simp <;> (try simp only [ByteArray.size_append]) <;> omega
        simp only [Act.put, y1, y2, y3, y4, y5, y6, y7]
        refine tk (i := 16) (v := (.string lB)) rfl (by kernel_rfl) (fun _ _ _ h => h) rfl ?_ hHeld1 ?_
        · intro W hS; go_simp
        simp only [Act.put, y1, y2, y3, y4, y5, y6, y7]
        refine tk (i := 17) (v := (.int .i64 (k : Int))) rfl (by kernel_rfl) (fun _ _ _ h => h) rfl ?_ hHeld1 ?_
        · intro W hS; go_simp
        simp only [Act.put, y1, y2, y3, y4, y5, y6, y7]
        refine tk (i := 18) (v := (.int .i64 (k2 : Int))) rfl (by kernel_rfl) (fun _ _ _ h => h) rfl ?_ hHeld1 ?_
        · intro W hS; go_simp
        simp only [Act.put, y1, y2, y3, y4, y5, y6, y7]
        refine tk (i := 19) (v := (.string P3)) rfl (by kernel_rfl) (fun _ _ _ h => h) rfl ?_ hHeld1 ?_
        · intro W hS; go_simp
        simp only [Act.put, y1, y2, y3, y4, y5, y6, y7]
        refine tk (i := 20) (v := (.string (A0 ++ P1 ++ P2 ++ P3))) rfl (by kernel_rfl) (fun _ _ _ h => h) rfl ?_ hHeld1 ?_
        · intro W hS; go_simp <;> (try simp only [ByteArray.size_append]) <;> omega
        simp only [Act.put, y1, y2, y3, y4, y5, y6, y7]
        refine wpAnyH_ready (rs := [21]) (by kernel_rfl) (by simp) ?_
        refine AllReadyH.cons rfl (fun K hK => ?_) AllReadyH.nil
        clear hHeld1
        go_simp
        refine (CY.out U5).mono ?_
        rintro e U6 ⟨rfl, hb⟩
        have B7 : Hid (Below w.heap.size w U6) := B6.out.trans (hb.mono B6.out.size)
        clear hb
        go_wp2_with fail
        refine hK.out _ _ trivial (fun hHeld2 => ?_)
        clear hK K
        try simp only [Act.put, y1, y2, y3, y4, y5, y6, y7]
        refine tk (i := 22) (v := (.tuple #[.string ya, .int .i64 yb])) rfl (by kernel_rfl) (fun _ _ _ h => h) rfl ?_ hHeld2 ?_
        · intro W hS; go_simp
        simp only [Act.put, y1, y2, y3, y4, y5, y6, y7]
        refine tk (i := 23) (v := (.string ya)) rfl (by kernel_rfl) (fun _ _ _ h => h) rfl ?_ hHeld2 ?_
        · intro W hS; go_simp
        simp only [Act.put, y1, y2, y3, y4, y5, y6, y7]
        refine tk (i := 24) (v := (.int .i64 yb)) rfl (by kernel_rfl) (fun _ _ _ h => h) rfl ?_ hHeld2 ?_
        · intro W hS; go_simp
        simp only [Act.put, y1, y2, y3, y4, y5, y6, y7]
        refine tk (i := 25) (v := (.int .i64 yb)) rfl (by kernel_rfl) (fun _ _ _ h => h) rfl ?_ hHeld2 ?_
        · intro W hS; go_simp
        simp only [Act.put, y1, y2, y3, y4, y5, y6, y7]
        refine wpAnyH_done (by kernel_rfl) ?_ _
        clear hHeld2
        go_wp2_with fail
        go_ret
        exact ⟨rfl, B7.out⟩
    · have g1 : ¬ (k1 : Int) < (lB.size : Int) := by omega
      go_quiet (fail)
      have B9 : Hid (Below w.heap.size w (WT.drewN nq)) := B0.out.trans ⟨rfl, rfl, rfl, Nat.le_refl _, fun _ _ => rfl⟩
      generalize WT.drewN nq = WZ at *
      go_wp2_with fail
      go_ret
      exact ⟨rfl, B9.out⟩
  · have kd : (q1 != q2) = true := by simpa using hd
    obtain ⟨x1, x2, hx, CX⟩ := SL1k.out hd
    have kx : (x2 == 0) = false := beq_eq_false_iff_ne.2 hx
    clear SL1k hd CV1 CV2
    go_wp2_with fail
    refine wp_region_held_drew (S := fun _ => True) (by kernel_rfl) trivial (fun hHeld1 => ?_)
    have B2 : Hid (Below w.heap.size w WX.drew) := below_drew1 B.out
    generalize WX.drew = U1 at *
    refine tk (i := 0) (v := (.string lB)) rfl (by kernel_rfl) (fun _ _ _ h => h) rfl ?_ hHeld1 ?_
    · intro W hS; go_simp
    simp only [Act.put, y1, y2, y3, y4, y5, y6, y7]
    refine tk (i := 1) (v := (.int .i64 (k : Int))) rfl (by kernel_rfl) (fun _ _ _ h => h) rfl ?_ hHeld1 ?_
    · intro W hS; go_simp
    simp only [Act.put, y1, y2, y3, y4, y5, y6, y7]
    refine tk (i := 2) (v := (.string A0)) rfl (by kernel_rfl) (fun _ _ _ h => h) rfl ?_ hHeld1 ?_
    · intro W hS; go_simp
    simp only [Act.put, y1, y2, y3, y4, y5, y6, y7]
    refine tk (i := 3) (v := (.int .u8 (o : Int))) rfl (by kernel_rfl) (fun _ _ _ h => h) rfl ?_ hHeld1 ?_
    · intro W hS; go_simp
    simp only [Act.put, y1, y2, y3, y4, y5, y6, y7]
    refine tk (i := 7) (v := (.string lB)) rfl (by kernel_rfl) (fun _ _ _ h => h) rfl ?_ hHeld1 ?_
    · intro W hS; go_simp
    simp only [Act.put, y1, y2, y3, y4, y5, y6, y7]
    refine tk (i := 8) (v := (.int .i64 (k : Int))) rfl (by kernel_rfl) (fun _ _ _ h => h) rfl ?_ hHeld1 ?_
    · intro W hS; go_simp
    simp only [Act.put, y1, y2, y3, y4, y5, y6, y7]
    refine tk (i := 9) (v := (.int .i64 (k1 : Int))) rfl (by kernel_rfl) (fun _ _ _ h => h) rfl ?_ hHeld1 ?_
    · intro W hS; go_simp
    simp only [Act.put, y1, y2, y3, y4, y5, y6, y7]
    refine tk (i := 10) (v := (.string A1)) rfl (by kernel_rfl) (fun _ _ _ h => h) rfl ?_ hHeld1 ?_
    · intro W hS; go_simp
    simp only [Act.put, y1, y2, y3, y4, y5, y6, y7]
    refine wpAnyH_ready (rs := [4]) (by kernel_rfl) (by simp) ?_
    refine AllReadyH.cons rfl (fun K hK => ?_) AllReadyH.nil
    clear hHeld1
    go_simp
    refine hK.out _ _ trivial (fun hHeld2 => ?_)
    clear hK K
    try simp only [Act.put, y1, y2, y3, y4, y5, y6, y7]
    have hcv := conv_one U1 o ho
    have B3 : Hid (Below w.heap.size w (U1.alloc (.cells #[.int .u8 (o : Int)] 5))) := B2.out.alloc B2.out.size _
    refine wpAnyH_ready (rs := [5]) (by kernel_rfl) (by simp) ?_
    refine AllReadyH.cons rfl (fun K hK => ?_) AllReadyH.nil
    clear hHeld2
    go_simp
    refine hK.out _ _ trivial (fun hHeld3 => ?_)
    clear hK K
    try simp only [Act.put, y1, y2, y3, y4, y5, y6, y7]
    clear hcv
    generalize U1.alloc (.cells #[.int .u8 (o : Int)] 5) = U2 at *
    refine tk (i := 6) (v := (.string (A0 ++ ⟨#[UInt8.ofNat o]⟩))) rfl (by kernel_rfl) (fun _ _ _ h => h) rfl ?_ hHeld3 ?_
    · intro W hS; go_simp <;> (try simp only [ByteArray.size_append]) <;> omega
    simp only [Act.put, y1, y2, y3, y4, y5, y6, y7]
    refine tk (i := 11) (v := (.string (A0 ++ ⟨#[UInt8.ofNat o]⟩ ++ A1))) rfl (by kernel_rfl) (fun _ _ _ h => h) rfl ?_ hHeld3 ?_
    · intro W hS; go_simp <;> (try simp only [ByteArray.size_append]) <;> omega
    simp only [Act.put, y1, y2, y3, y4, y5, y6, y7]
    refine wpAnyH_ready (rs := [12]) (by kernel_rfl) (by simp) ?_
    refine AllReadyH.cons rfl (fun K hK => ?_) AllReadyH.nil
    clear hHeld3
    go_simp
    refine (CX.out U2).mono ?_
    rintro e U3 ⟨rfl, hb⟩
    have B4 : Hid (Below w.heap.size w U3) := B3.out.trans (hb.mono B3.out.size)
    clear hb
    go_wp2_with fail
    refine hK.out _ _ trivial (fun hHeld4 => ?_)
    clear hK K
    try simp only [Act.put, y1, y2, y3, y4, y5, y6, y7]
    refine tk (i := 13) (v := (.tuple #[.string x1, .int .i64 x2])) rfl (by kernel_rfl) (fun _ _ _ h => h) rfl ?_ hHeld4 ?_
    · intro W hS; go_simp
    simp only [Act.put, y1, y2, y3, y4, y5, y6, y7]
    refine tk (i := 14) (v := (.string x1)) rfl (by kernel_rfl) (fun _ _ _ h => h) rfl ?_ hHeld4 ?_
    · intro W hS; go_simp
    simp only [Act.put, y1, y2, y3, y4, y5, y6, y7]
    refine tk (i := 15) (v := (.int .i64 x2)) rfl (by kernel_rfl) (fun _ _ _ h => h) rfl ?_ hHeld4 ?_
    · intro W hS; go_simp
    simp only [Act.put, y1, y2, y3, y4, y5, y6, y7]
    refine tk (i := 16) (v := (.int .i64 x2)) rfl (by kernel_rfl) (fun _ _ _ h => h) rfl ?_ hHeld4 ?_
    · intro W hS; go_simp
    simp only [Act.put, y1, y2, y3, y4, y5, y6, y7]
    refine wpAnyH_done (by kernel_rfl) ?_ _
    clear hHeld4
    go_wp2_with fail
    have B0 : Hid (Below w.heap.size w U3) := B4.out
    generalize U3 = WT at *
    by_cases h2 : k + 1 < lB.size
    · have g1 : (k1 : Int) < (lB.size : Int) := by omega
      by_cases hb2 : ca = cb
      · have g2 : ((ca : Int) != (cb : Int)) = false := by simp; omega
        go_quiet (fail)
        have B9 : Hid (Below w.heap.size w (WT.drewN nq)) := B0.out.trans ⟨rfl, rfl, rfl, Nat.le_refl _, fun _ _ => rfl⟩
        generalize WT.drewN nq = WZ at *
        clear hb2
        go_wp2_with fail
        go_ret
        exact ⟨rfl, B9.out⟩
      · have g2 : ((ca : Int) != (cb : Int)) = true := by simp; omega
        obtain ⟨ya, yb, hy, CY⟩ := SL2.out h2 hb2
        have HY : Hid (yb ≠ 0) := hy
        have ky : (yb == 0) = false := beq_eq_false_iff_ne.2 hy
        have kw2 : IntKind.i64.wrap ((k : Int) + 2) = (k2 : Int) := by rw [IntKind.wrap_i64]; omega
        have kw2' : IntKind.i64.wrap (k2 : Int) = (k2 : Int) := by rw [IntKind.wrap_i64]; omega
        have k2n : (k2 : Int) ≤ (lB.size : Int) := by omega
        go_quiet (fail)
        have B5 : Hid (Below w.heap.size w (WT.drewN nq)) := B0.out.trans ⟨rfl, rfl, rfl, Nat.le_refl _, fun _ _ => rfl⟩
        generalize WT.drewN nq = WY at *
        clear hb2 g2 hy
        go_wp2_with fail
        refine wp_region_held_drew (S := fun _ => True) (by kernel_rfl) trivial (fun hHeld1 => ?_)
        have B6 : Hid (Below w.heap.size w WY.drew) := below_drew1 B5.out
        generalize WY.drew = U5 at *
        refine tk (i := 0) (v := (.string lB)) rfl (by kernel_rfl) (fun _ _ _ h => h) rfl ?_ hHeld1 ?_
        · intro W hS; go_simp
        simp only [Act.put, y1, y2, y3, y4, y5, y6, y7]
        refine tk (i := 1) (v := (.int .i64 (k : Int))) rfl (by kernel_rfl) (fun _ _ _ h => h) rfl ?_ hHeld1 ?_
        · intro W hS; go_simp
        simp only [Act.put, y1, y2, y3, y4, y5, y6, y7]
        refine tk (i := 2) (v := (.string A0)) rfl (by kernel_rfl) (fun _ _ _ h => h) rfl ?_ hHeld1 ?_
        · intro W hS; go_simp
        simp only [Act.put, y1, y2, y3, y4, y5, y6, y7]
        refine tk (i := 3) (v := (.string lB)) rfl (by kernel_rfl) (fun _ _ _ h => h) rfl ?_ hHeld1 ?_
        · intro W hS; go_simp
        simp only [Act.put, y1, y2, y3, y4, y5, y6, y7]
        refine tk (i := 4) (v := (.int .i64 (k : Int))) rfl (by kernel_rfl) (fun _ _ _ h => h) rfl ?_ hHeld1 ?_
        · intro W hS; go_simp
        simp only [Act.put, y1, y2, y3, y4, y5, y6, y7]
        refine tk (i := 5) (v := (.int .i64 (k1 : Int))) rfl (by kernel_rfl) (fun _ _ _ h => h) rfl ?_ hHeld1 ?_
        · intro W hS; go_simp
        simp only [Act.put, y1, y2, y3, y4, y5, y6, y7]
        refine tk (i := 6) (v := (.int .i64 (k : Int))) rfl (by kernel_rfl) (fun _ _ _ h => h) rfl ?_ hHeld1 ?_
        · intro W hS; go_simp
        simp only [Act.put, y1, y2, y3, y4, y5, y6, y7]
        refine tk (i := 7) (v := (.int .i64 (k2 : Int))) rfl (by kernel_rfl) (fun _ _ _ h => h) rfl ?_ hHeld1 ?_
        · intro W hS; go_simp
        simp only [Act.put, y1, y2, y3, y4, y5, y6, y7]
        refine tk (i := 8) (v := (.string P1)) rfl (by kernel_rfl) (fun _ _ _ h => h) rfl ?_ hHeld1 ?_
        · intro W hS; go_simp
        simp only [Act.put, y1, y2, y3, y4, y5, y6, y7]
        refine tk (i := 9) (v := (.string (A0 ++ P1))) rfl (by kernel_rfl) (fun _ _ _ h => h) rfl ?_ hHeld1 ?_
        · intro W hS; go_simp <;> (try simp only [ByteArray.size_append]) <;> omega
        simp only [Act.put, y1, y2, y3, y4, y5, y6, y7]
        refine tk (i := 10) (v := (.string lB)) rfl (by kernel_rfl) (fun _ _ _ h => h) rfl ?_ hHeld1 ?_
        · intro W hS; go_simp
        simp only [Act.put, y1, y2, y3, y4, y5, y6, y7]
        refine tk (i := 11) (v := (.int .i64 (k : Int))) rfl (by kernel_rfl) (fun _ _ _ h => h) rfl ?_ hHeld1 ?_
        · intro W hS; go_simp
        simp only [Act.put, y1, y2, y3, y4, y5, y6, y7]
        refine tk (i := 12) (v := (.int .i64 (k : Int))) rfl (by kernel_rfl) (fun _ _ _ h => h) rfl ?_ hHeld1 ?_
        · intro W hS; go_simp
        simp only [Act.put, y1, y2, y3, y4, y5, y6, y7]
        refine tk (i := 13) (v := (.int .i64 (k1 : Int))) rfl (by kernel_rfl) (fun _ _ _ h => h) rfl ?_ hHeld1 ?_
        · intro W hS; go_simp
        simp only [Act.put, y1, y2, y3, y4, y5, y6, y7]
        refine tk (i := 14) (v := (.string P2)) rfl (by kernel_rfl) (fun _ _ _ h => h) rfl ?_ hHeld1 ?_
        · intro W hS; go_simp
        simp only [Act.put, y1, y2, y3, y4, y5, y6, y7]
        refine tk (i := 15) (v := (.string (A0 ++ P1 ++ P2))) rfl (by kernel_rfl) (fun _ _ _ h => h) rfl ?_ hHeld1 ?_
        · intro W hS; go_simp <;> (try simp only [ByteArray.size_append]) <;> omega
        simp only [Act.put, y1, y2, y3, y4, y5, y6, y7]
        refine tk (i := 16) (v := (.string lB)) rfl (by kernel_rfl) (fun _ _ _ h => h) rfl ?_ hHeld1 ?_
        · intro W hS; go_simp
        simp only [Act.put, y1, y2, y3, y4, y5, y6, y7]
        refine tk (i := 17) (v := (.int .i64 (k : Int))) rfl (by kernel_rfl) (fun _ _ _ h => h) rfl ?_ hHeld1 ?_
        · intro W hS; go_simp
        simp only [Act.put, y1, y2, y3, y4, y5, y6, y7]
        refine tk (i := 18) (v := (.int .i64 (k2 : Int))) rfl (by kernel_rfl) (fun _ _ _ h => h) rfl ?_ hHeld1 ?_
        · intro W hS; go_simp
        simp only [Act.put, y1, y2, y3, y4, y5, y6, y7]
        refine tk (i := 19) (v := (.string P3)) rfl (by kernel_rfl) (fun _ _ _ h => h) rfl ?_ hHeld1 ?_
        · intro W hS; go_simp
        simp only [Act.put, y1, y2, y3, y4, y5, y6, y7]
        refine tk (i := 20) (v := (.string (A0 ++ P1 ++ P2 ++ P3))) rfl (by kernel_rfl) (fun _ _ _ h => h) rfl ?_ hHeld1 ?_
        · intro W hS; go_simp <;> (try simp only [ByteArray.size_append]) <;> omega
        simp only [Act.put, y1, y2, y3, y4, y5, y6, y7]
        refine wpAnyH_ready (rs := [21]) (by kernel_rfl) (by simp) ?_
        refine AllReadyH.cons rfl (fun K hK => ?_) AllReadyH.nil
        clear hHeld1
        go_simp
        refine (CY.out U5).mono ?_
        rintro e U6 ⟨rfl, hb⟩
        have B7 : Hid (Below w.heap.size w U6) := B6.out.trans (hb.mono B6.out.size)
        clear hb
        go_wp2_with fail
        refine hK.out _ _ trivial (fun hHeld2 => ?_)
        clear hK K
        try simp only [Act.put, y1, y2, y3, y4, y5, y6, y7]
        refine tk (i := 22) (v := (.tuple #[.string ya, .int .i64 yb])) rfl (by kernel_rfl) (fun _ _ _ h => h) rfl ?_ hHeld2 ?_
        · intro W hS; go_simp
        simp only [Act.put, y1, y2, y3, y4, y5, y6, y7]
        refine tk (i := 23) (v := (.string ya)) rfl (by kernel_rfl) (fun _ _ _ h => h) rfl ?_ hHeld2 ?_
        · intro W hS; go_simp
        simp only [Act.put, y1, y2, y3, y4, y5, y6, y7]
        refine tk (i := 24) (v := (.int .i64 yb)) rfl (by kernel_rfl) (fun _ _ _ h => h) rfl ?_ hHeld2 ?_
        · intro W hS; go_simp
        simp only [Act.put, y1, y2, y3, y4, y5, y6, y7]
        refine tk (i := 25) (v := (.int .i64 yb)) rfl (by kernel_rfl) (fun _ _ _ h => h) rfl ?_ hHeld2 ?_
        · intro W hS; go_simp
        simp only [Act.put, y1, y2, y3, y4, y5, y6, y7]
        refine wpAnyH_done (by kernel_rfl) ?_ _
        clear hHeld2
        go_wp2_with fail
        go_ret
        exact ⟨rfl, B7.out⟩
    · have g1 : ¬ (k1 : Int) < (lB.size : Int) := by omega
      go_quiet (fail)
      have B9 : Hid (Below w.heap.size w (WT.drewN nq)) := B0.out.trans ⟨rfl, rfl, rfl, Nat.le_refl _, fun _ _ => rfl⟩
      generalize WT.drewN nq = WZ at *
      go_wp2_with fail
      go_ret
      exact ⟨rfl, B9.out⟩
end Go.Proofs.Ytlogilmeefcipaa
