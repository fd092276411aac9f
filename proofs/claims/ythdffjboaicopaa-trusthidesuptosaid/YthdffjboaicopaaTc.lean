/- Trust's weights, and what goes through values. -/
import Derived.Test.YthdffjboaicopaaTb
import Derived.Deep.RegionHeld
set_option linter.unusedSimpArgs false
set_option linter.unusedVariables false
set_option maxRecDepth 100000
namespace Go.Proofs.Ythdffjboaicopaa
open Go.RowKit Go.Deep Go.PlainAid

theorem wrap_small {t : Int} (h1 : -255 ≤ t) (h2 : t ≤ 255) : IntKind.i64.wrap t = t := by
  go_arith
/-- What is multiplied up over the other places. -/
def fo (nu : Int → ByteArray) (tm : ByteArray → ByteArray → ByteArray) (here x : Int) (P : List Int) : ByteArray := P.foldl (fun acc y => if y ≠ here then tm acc (nu (y - x)) else acc) (nu 1)
theorem fo_yes {nu : Int → ByteArray} {tm : ByteArray → ByteArray → ByteArray} {here x : Int} {P : List Int} {i : Nat} (h : i < P.length) (hy : P[i] ≠ here) : fo nu tm here x (P.take (i + 1)) = tm (fo nu tm here x (P.take i)) (nu (P[i] - x)) := by
  unfold fo
  rw [List.take_succ_eq_append_getElem h, List.foldl_append]
  simp [hy]
theorem fo_no {nu : Int → ByteArray} {tm : ByteArray → ByteArray → ByteArray} {here x : Int} {P : List Int} {i : Nat} (h : i < P.length) (hy : P[i] = here) : fo nu tm here x (P.take (i + 1)) = fo nu tm here x (P.take i) := by
  unfold fo
  rw [List.take_succ_eq_append_getElem h, List.foldl_append]
  simp [hy]
theorem fo_sc {nu : Int → ByteArray} {tm : ByteArray → ByteArray → ByteArray} {p : ByteArray → Prop} (h1 : ∀ k, p (nu k)) (h2 : ∀ s t, p s → p t → p (tm s t)) (here x : Int) (P : List Int) : p (fo nu tm here x P) := by
  unfold fo
  suffices ∀ (P : List Int) (a : ByteArray), p a → p (P.foldl (fun acc y => if y ≠ here then tm acc (nu (y - x)) else acc) a) from this P _ (h1 1)
  intro P
  induction P with
  | nil => exact fun a h => h
  | cons y P ih =>
    intro a h
    rw [List.foldl_cons]
    refine ih _ ?_
    split
    · exact h2 _ _ h (h1 _)
    · exact h
set_option maxHeartbeats 4000000 in
theorem weight24 {w : World} {z : Int} {a : Option Addr} {c : Nat} {P : List Int} {here x : Int} {nu : Int → ByteArray} {tm : ByteArray → ByteArray → ByteArray} {p : ByteArray → Prop} {r : ByteArray} (hn : P.length ≤ 16) (hP : ∀ y ∈ P, 0 ≤ y ∧ y ≤ 255) (hh : 0 ≤ here ∧ here ≤ 255) (hx : 0 ≤ x ∧ x ≤ 255) (hs : IL w a P)
    (h1 : ∀ k, p (nu k)) (h2 : ∀ s t, p s → p t → p (tm s t))
    (CN : Hid (∀ k, -255 ≤ k → k ≤ 255 → ∀ W, Calls Try.prog 14 #[.agg #[.int .i64 z], .int .i64 k] W fun e w' => e = .returned (.string (nu k)) ∧ Below W.heap.size W w'))
    (CT : Hid (∀ s t, p s → p t → ∀ W, Calls Try.prog 17 #[.agg #[.int .i64 z], .string s, .string t] W fun e w' => e = .returned (.string (tm s t)) ∧ Below W.heap.size W w'))
    (CO : Hid (∀ W, Calls Try.prog 37 #[.agg #[.int .i64 z], .string (fo nu tm here x P), .string (fo nu tm here here P)] W fun e w' => e = .returned (.string r) ∧ Below W.heap.size W w')) :
    Calls Try.prog 24 #[.agg #[.int .i64 z, .slice a P.length c], .int .i64 here, .int .i64 x] w fun e w' => e = .returned (.string r) ∧ Below w.heap.size w w' := by
  have HS : Hid (IL w a P) := hs
  have HP : Hid _ := hP
  have HA : Hid _ := fun Q => fo_sc (p := p) h1 h2 here x Q
  have HB : Hid _ := fun Q => fo_sc (p := p) h1 h2 here here Q
  have HN : Hid _ := h1
  have C1 : Hid (∀ W, Calls Try.prog 14 #[.agg #[.int .i64 z], .int .i64 1] W fun e w' => e = .returned (.string (nu 1)) ∧ Below W.heap.size W w') := fun W => CN.out 1 (by omega) (by omega) W
  have e0 : fo nu tm here x [] = nu 1 := rfl
  have e1 : fo nu tm here here [] = nu 1 := rfl
  have E0 : Hid _ := e0
  have E1 : Hid _ := e1
  obtain ⟨hh0, hh1⟩ := hh
  obtain ⟨hx0, hx1⟩ := hx
  clear hs hP h1 h2 e0 e1
  go_enter Try.func24, Try.ntmps24
  go_wp2_with fail
  obtain ⟨U1, hU1⟩ : ∃ X, X = (w.alloc (.cells #[.int .i64 z, .slice a P.length c] 31)) := ⟨_, rfl⟩
  have Jp : Hid (IHolds U1 (w.heap.size) 31 [.int .i64 z, .slice a P.length c]) := by
    have q := IHolds.new w 31 [.int .i64 z, .slice a P.length c]
    show IHolds _ _ _ _
    rw [hU1]
    exact q
  have B : Hid (Below w.heap.size w U1) := by
    show Below _ _ _
    rw [hU1]
    exact ((Below.refl _ w).alloc (Nat.le_refl _) _)
  rw [← hU1]
  clear hU1
  have hb := dB U1
  replace B := aB B hb
  replace Jp := aJ Jp hb
  clear hb
  refine wp_region_held_drew (S := fun W => (IHolds W (w.heap.size) 31 [.int .i64 z, .slice a P.length c])) (by kernel_rfl) Jp.out (fun hHeld1 => ?_)
  generalize U1.drew = U2 at *
  refine tk (i := 0) (v := .pointer (some ⟨w.heap.size, 0, none⟩)) rfl (by kernel_rfl) (fun _ _ _ h => h) rfl ?_ hHeld1 ?_
  · intro W hS; go_simp
  simp only [Act.put, y1, y2, y3, y4, y5, y6, y7]
  refine tk (i := 3) (v := .pointer (some ⟨w.heap.size, 0, none⟩)) rfl (by kernel_rfl) (fun _ _ _ h => h) rfl ?_ hHeld1 ?_
  · intro W hS; go_simp
  simp only [Act.put, y1, y2, y3, y4, y5, y6, y7]
  refine tk (i := 1) (v := .agg #[.int .i64 z]) rfl (by kernel_rfl) (fun _ _ _ h => h) rfl ?_ hHeld1 ?_
  · intro W hS; obtain ⟨zp_0, zp_1⟩ := c2 hS; go_simp
  simp only [Act.put, y1, y2, y3, y4, y5, y6, y7]
  refine tk (i := 4) (v := .agg #[.int .i64 z]) rfl (by kernel_rfl) (fun _ _ _ h => h) rfl ?_ hHeld1 ?_
  · intro W hS; obtain ⟨zp_0, zp_1⟩ := c2 hS; go_simp
  simp only [Act.put, y1, y2, y3, y4, y5, y6, y7]
  refine wpAnyH_ready (rs := [2]) (by kernel_rfl) (by simp) ?_
  refine AllReadyH.cons rfl (fun K hK => ?_) AllReadyH.nil
  clear hHeld1
  go_simp
  refine (C1.out U2).mono ?_
  rintro e U3 ⟨rfl, hb⟩
  replace B := aB B hb
  replace Jp := aJ Jp hb
  clear hb
  go_wp2_with fail
  refine hK.out _ _ (Jp.out) (fun hHeld2 => ?_)
  clear hK K
  try simp only [Act.put, y1, y2, y3, y4, y5, y6, y7]
  refine wpAnyH_ready (rs := [5]) (by kernel_rfl) (by simp) ?_
  refine AllReadyH.cons rfl (fun K hK => ?_) AllReadyH.nil
  clear hHeld2
  go_simp
  refine (C1.out U3).mono ?_
  rintro e U4 ⟨rfl, hb⟩
  replace B := aB B hb
  replace Jp := aJ Jp hb
  clear hb
  go_wp2_with fail
  refine hK.out _ _ (Jp.out) (fun hHeld3 => ?_)
  clear hK K
  try simp only [Act.put, y1, y2, y3, y4, y5, y6, y7]
  refine tk (i := 6) (v := .string (nu 1)) rfl (by kernel_rfl) (fun _ _ _ h => h) rfl ?_ hHeld3 ?_
  · intro W hS; go_simp
  simp only [Act.put, y1, y2, y3, y4, y5, y6, y7]
  refine tk (i := 7) (v := .string (nu 1)) rfl (by kernel_rfl) (fun _ _ _ h => h) rfl ?_ hHeld3 ?_
  · intro W hS; go_simp
  simp only [Act.put, y1, y2, y3, y4, y5, y6, y7]
  refine wpAnyH_done (by kernel_rfl) ?_ _
  clear hHeld3
  obtain ⟨zp_0, zp_1⟩ := cJ Jp
  go_wp2_with fail
  clear zp_0 zp_1
  generalize hW0 : U4 = W0 at *
  clear hW0
  go_loopg [7, 8, 10, 20] P.length (fun gk v7 v8 v10 v20 wr => ∃ i : Nat, i + gk = P.length ∧ v20 = .int .i64 (i : Int) ∧ v7 = .string (fo nu tm here x (P.take i)) ∧ v8 = .string (fo nu tm here here (P.take i)) ∧ Below w.heap.size w wr ∧ IHolds wr w.heap.size 31 [.int .i64 z, .slice a P.length c])
  case atStart => exact ⟨0, by omega, rfl, by rw [List.take_zero, E0.out], by rw [List.take_zero, E1.out], B.out, Jp.out⟩
  case round =>
    obtain ⟨i, hig, rfl, rfl, rfl, hB, hJ⟩ := hrel
    clear B Jp
    have B : Hid (Below w.heap.size w wr) := hB
    have Jp : Hid (IHolds wr w.heap.size 31 [.int .i64 z, .slice a P.length c]) := hJ
    clear hB hJ
    by_cases hi : i < P.length
    · obtain ⟨b, o, rfl, hc⟩ := HS.out.of_below B.out i hi
      have il : (i : Int) < (P.length : Int) := by omega
      obtain ⟨ya, yb⟩ := HP.out _ (List.getElem_mem hi)
      have HY : Hid (P[i] ≠ here → fo nu tm here x (P.take (i + 1)) = tm (fo nu tm here x (P.take i)) (nu (P[i] - x)) ∧ fo nu tm here here (P.take (i + 1)) = tm (fo nu tm here here (P.take i)) (nu (P[i] - here))) := fun h => ⟨fo_yes hi h, fo_yes hi h⟩
      have HZ : Hid (P[i] = here → fo nu tm here x (P.take (i + 1)) = fo nu tm here x (P.take i) ∧ fo nu tm here here (P.take (i + 1)) = fo nu tm here here (P.take i)) := fun h => ⟨fo_no hi h, fo_no hi h⟩
      have PA := HA.out (P.take i)
      have PB := HB.out (P.take i)
      generalize P[i] = y at *
      generalize fo nu tm here x (P.take i) = A at *
      generalize fo nu tm here here (P.take i) = D at *
      by_cases hy : y = here
      · obtain ⟨z1, z2⟩ := HZ.out hy
        have Z1 : Hid _ := z1
        have Z2 : Hid _ := z2
        have hb : (y != here) = false := by simpa using hy
        clear z1 z2 HY HZ hy PA PB
        go_wp2_with fail
        go_roundg (gk - 1)
        case measure => omega
        case rel => exact ⟨i + 1, by omega, by go_num, by rw [Z1.out], by rw [Z2.out], B.out, Jp.out⟩
      · obtain ⟨z1, z2⟩ := HY.out hy
        have Z1 : Hid _ := z1
        have Z2 : Hid _ := z2
        have hb : (y != here) = true := by simpa using hy
        have D1 : Hid (∀ W, Calls Try.prog 14 #[.agg #[.int .i64 z], .int .i64 (y - x)] W fun e w' => e = .returned (.string (nu (y - x))) ∧ Below W.heap.size W w') := fun W => CN.out _ (by omega) (by omega) W
        have D2 : Hid (∀ W, Calls Try.prog 17 #[.agg #[.int .i64 z], .string A, .string (nu (y - x))] W fun e w' => e = .returned (.string (tm A (nu (y - x)))) ∧ Below W.heap.size W w') := fun W => CT.out _ _ PA (HN.out _) W
        have D3 : Hid (∀ W, Calls Try.prog 14 #[.agg #[.int .i64 z], .int .i64 (y - here)] W fun e w' => e = .returned (.string (nu (y - here))) ∧ Below W.heap.size W w') := fun W => CN.out _ (by omega) (by omega) W
        have D4 : Hid (∀ W, Calls Try.prog 17 #[.agg #[.int .i64 z], .string D, .string (nu (y - here))] W fun e w' => e = .returned (.string (tm D (nu (y - here)))) ∧ Below W.heap.size W w') := fun W => CT.out _ _ PB (HN.out _) W
        have hw1 : IntKind.i64.wrap (y - x) = y - x := wrap_small (by omega) (by omega)
        have hw2 : IntKind.i64.wrap (y - here) = y - here := wrap_small (by omega) (by omega)
        clear z1 z2 HY HZ hy PA PB CN CT HA HB HN CO C1
        go_wp2_with fail
        clear hc
        have hb := dB wr
        replace B := aB B hb
        replace Jp := aJ Jp hb
        clear hb
        refine wp_region_held_drew (S := fun W => (IHolds W (w.heap.size) 31 [.int .i64 z, .slice (some ⟨b, o, none⟩) P.length c])) (by kernel_rfl) Jp.out (fun hHeld1 => ?_)
        generalize wr.drew = U501 at *
        refine tk (i := 0) (v := .pointer (some ⟨w.heap.size, 0, none⟩)) rfl (by kernel_rfl) (fun _ _ _ h => h) rfl ?_ hHeld1 ?_
        · intro W hS; go_simp
        simp only [Act.put, y1, y2, y3, y4, y5, y6, y7]
        refine tk (i := 2) (v := .string A) rfl (by kernel_rfl) (fun _ _ _ h => h) rfl ?_ hHeld1 ?_
        · intro W hS; go_simp
        simp only [Act.put, y1, y2, y3, y4, y5, y6, y7]
        refine tk (i := 3) (v := .pointer (some ⟨w.heap.size, 0, none⟩)) rfl (by kernel_rfl) (fun _ _ _ h => h) rfl ?_ hHeld1 ?_
        · intro W hS; go_simp
        simp only [Act.put, y1, y2, y3, y4, y5, y6, y7]
        refine tk (i := 5) (v := .int .i64 y) rfl (by kernel_rfl) (fun _ _ _ h => h) rfl ?_ hHeld1 ?_
        · intro W hS; go_simp
        simp only [Act.put, y1, y2, y3, y4, y5, y6, y7]
        refine tk (i := 6) (v := .int .i64 x) rfl (by kernel_rfl) (fun _ _ _ h => h) rfl ?_ hHeld1 ?_
        · intro W hS; go_simp
        simp only [Act.put, y1, y2, y3, y4, y5, y6, y7]
        refine tk (i := 1) (v := .agg #[.int .i64 z]) rfl (by kernel_rfl) (fun _ _ _ h => h) rfl ?_ hHeld1 ?_
        · intro W hS; obtain ⟨zp_0, zp_1⟩ := c2 hS; go_simp
        simp only [Act.put, y1, y2, y3, y4, y5, y6, y7]
        refine tk (i := 4) (v := .agg #[.int .i64 z]) rfl (by kernel_rfl) (fun _ _ _ h => h) rfl ?_ hHeld1 ?_
        · intro W hS; obtain ⟨zp_0, zp_1⟩ := c2 hS; go_simp
        simp only [Act.put, y1, y2, y3, y4, y5, y6, y7]
        refine tk (i := 7) (v := .int .i64 (y - x)) rfl (by kernel_rfl) (fun _ _ _ h => h) rfl ?_ hHeld1 ?_
        · intro W hS; go_simp
        simp only [Act.put, y1, y2, y3, y4, y5, y6, y7]
        refine wpAnyH_ready (rs := [8]) (by kernel_rfl) (by simp) ?_
        refine AllReadyH.cons rfl (fun K hK => ?_) AllReadyH.nil
        clear hHeld1
        go_simp
        refine (D1.out U501).mono ?_
        rintro e U502 ⟨rfl, hb⟩
        replace B := aB B hb
        replace Jp := aJ Jp hb
        clear hb
        go_wp2_with fail
        refine hK.out _ _ (Jp.out) (fun hHeld2 => ?_)
        clear hK K
        try simp only [Act.put, y1, y2, y3, y4, y5, y6, y7]
        refine wpAnyH_ready (rs := [9]) (by kernel_rfl) (by simp) ?_
        refine AllReadyH.cons rfl (fun K hK => ?_) AllReadyH.nil
        clear hHeld2
        go_simp
        refine (D2.out U502).mono ?_
        rintro e U503 ⟨rfl, hb⟩
        replace B := aB B hb
        replace Jp := aJ Jp hb
        clear hb
        go_wp2_with fail
        refine hK.out _ _ (Jp.out) (fun hHeld3 => ?_)
        clear hK K
        try simp only [Act.put, y1, y2, y3, y4, y5, y6, y7]
        refine tk (i := 10) (v := .string (tm A (nu (y - x)))) rfl (by kernel_rfl) (fun _ _ _ h => h) rfl ?_ hHeld3 ?_
        · intro W hS; go_simp
        simp only [Act.put, y1, y2, y3, y4, y5, y6, y7]
        refine wpAnyH_done (by kernel_rfl) ?_ _
        clear hHeld3
        go_wp2_with fail
        have hb := dB U503
        replace B := aB B hb
        replace Jp := aJ Jp hb
        clear hb
        refine wp_region_held_drew (S := fun W => (IHolds W (w.heap.size) 31 [.int .i64 z, .slice (some ⟨b, o, none⟩) P.length c])) (by kernel_rfl) Jp.out (fun hHeld4 => ?_)
        generalize U503.drew = U504 at *
        refine tk (i := 0) (v := .pointer (some ⟨w.heap.size, 0, none⟩)) rfl (by kernel_rfl) (fun _ _ _ h => h) rfl ?_ hHeld4 ?_
        · intro W hS; go_simp
        simp only [Act.put, y1, y2, y3, y4, y5, y6, y7]
        refine tk (i := 2) (v := .string D) rfl (by kernel_rfl) (fun _ _ _ h => h) rfl ?_ hHeld4 ?_
        · intro W hS; go_simp
        simp only [Act.put, y1, y2, y3, y4, y5, y6, y7]
        refine tk (i := 3) (v := .pointer (some ⟨w.heap.size, 0, none⟩)) rfl (by kernel_rfl) (fun _ _ _ h => h) rfl ?_ hHeld4 ?_
        · intro W hS; go_simp
        simp only [Act.put, y1, y2, y3, y4, y5, y6, y7]
        refine tk (i := 5) (v := .int .i64 y) rfl (by kernel_rfl) (fun _ _ _ h => h) rfl ?_ hHeld4 ?_
        · intro W hS; go_simp
        simp only [Act.put, y1, y2, y3, y4, y5, y6, y7]
        refine tk (i := 6) (v := .int .i64 here) rfl (by kernel_rfl) (fun _ _ _ h => h) rfl ?_ hHeld4 ?_
        · intro W hS; go_simp
        simp only [Act.put, y1, y2, y3, y4, y5, y6, y7]
        refine tk (i := 1) (v := .agg #[.int .i64 z]) rfl (by kernel_rfl) (fun _ _ _ h => h) rfl ?_ hHeld4 ?_
        · intro W hS; obtain ⟨zp_0, zp_1⟩ := c2 hS; go_simp
        simp only [Act.put, y1, y2, y3, y4, y5, y6, y7]
        refine tk (i := 4) (v := .agg #[.int .i64 z]) rfl (by kernel_rfl) (fun _ _ _ h => h) rfl ?_ hHeld4 ?_
        · intro W hS; obtain ⟨zp_0, zp_1⟩ := c2 hS; go_simp
        simp only [Act.put, y1, y2, y3, y4, y5, y6, y7]
        refine tk (i := 7) (v := .int .i64 (y - here)) rfl (by kernel_rfl) (fun _ _ _ h => h) rfl ?_ hHeld4 ?_
        · intro W hS; go_simp
        simp only [Act.put, y1, y2, y3, y4, y5, y6, y7]
        refine wpAnyH_ready (rs := [8]) (by kernel_rfl) (by simp) ?_
        refine AllReadyH.cons rfl (fun K hK => ?_) AllReadyH.nil
        clear hHeld4
        go_simp
        refine (D3.out U504).mono ?_
        rintro e U505 ⟨rfl, hb⟩
        replace B := aB B hb
        replace Jp := aJ Jp hb
        clear hb
        go_wp2_with fail
        refine hK.out _ _ (Jp.out) (fun hHeld5 => ?_)
        clear hK K
        try simp only [Act.put, y1, y2, y3, y4, y5, y6, y7]
        refine wpAnyH_ready (rs := [9]) (by kernel_rfl) (by simp) ?_
        refine AllReadyH.cons rfl (fun K hK => ?_) AllReadyH.nil
        clear hHeld5
        go_simp
        refine (D4.out U505).mono ?_
        rintro e U506 ⟨rfl, hb⟩
        replace B := aB B hb
        replace Jp := aJ Jp hb
        clear hb
        go_wp2_with fail
        refine hK.out _ _ (Jp.out) (fun hHeld6 => ?_)
        clear hK K
        try simp only [Act.put, y1, y2, y3, y4, y5, y6, y7]
        refine tk (i := 10) (v := .string (tm D (nu (y - here)))) rfl (by kernel_rfl) (fun _ _ _ h => h) rfl ?_ hHeld6 ?_
        · intro W hS; go_simp
        simp only [Act.put, y1, y2, y3, y4, y5, y6, y7]
        refine wpAnyH_done (by kernel_rfl) ?_ _
        clear hHeld6
        go_wp2_with fail
        go_roundg (gk - 1)
        case measure => omega
        case rel => exact ⟨i + 1, by omega, by go_num, by rw [Z1.out], by rw [Z2.out], B.out, Jp.out⟩
    · have il : ¬ (i : Int) < (P.length : Int) := by omega
      have e : P.take i = P := List.take_of_length_le (by omega)
      rw [e]
      clear e CN CT HA HB HN C1
      obtain ⟨q0, q1⟩ := Go.Proofs.Ythdffjboaicopaa.c2 Jp.out
      go_wp2_with (go_at_call 37; refine (CO.out _).mono ?_; rintro e w9 ⟨rfl, hB9⟩; have B9 : Hid (Below w.heap.size w w9) := B.out.trans (hB9.mono B.out.size); clear hB9)
      go_ret
      exact ⟨rfl, B9.out⟩
end Go.Proofs.Ythdffjboaicopaa
