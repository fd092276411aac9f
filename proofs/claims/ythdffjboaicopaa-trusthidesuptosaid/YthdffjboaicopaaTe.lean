/- What goes through values, and Through. -/
import Derived.Test.YthdffjboaicopaaTd
set_option linter.unusedSimpArgs false
set_option linter.unusedVariables false
set_option maxRecDepth 100000
namespace Go.Proofs.Ythdffjboaicopaa
open Go.RowKit Go.Deep Go.PlainAid

set_option maxHeartbeats 4000000 in
theorem through8 {w : World} {z x : Int} {a b : Option Addr} {n c d : Nat} {ws vs : List ByteArray} {pl tm : ByteArray → ByteArray → ByteArray} {z0 : ByteArray} (hn : n ≤ 16) (hw : ws.length = n) (hv : vs.length = n) (hs : SL w b vs)
    (C14 : ∀ W, Calls Try.prog 14 #[.agg #[.int .i64 z], .int .i64 0] W fun e w' => e = .returned (.string z0) ∧ Below W.heap.size W w')
    (C15 : ∀ W, Below w.heap.size w W → Calls Try.prog 15 #[.agg #[.int .i64 z, .slice a n c], .int .i64 x] W fun e w' => (∃ a' c', e = .returned (.slice a' n c') ∧ SL w' a' ws) ∧ Below W.heap.size W w')
    (CT : ∀ i (h : i < ws.length) (h' : i < vs.length) W, Calls Try.prog 17 #[.agg #[.int .i64 z], .string ws[i], .string vs[i]] W fun e w' => e = .returned (.string (tm ws[i] vs[i])) ∧ Below W.heap.size W w')
    (CP : ∀ i (h : i < ws.length) (h' : i < vs.length) W, Calls Try.prog 16 #[.agg #[.int .i64 z], .string (su pl tm z0 (ws.take i) (vs.take i)), .string (tm ws[i] vs[i])] W fun e w' => e = .returned (.string (pl (su pl tm z0 (ws.take i) (vs.take i)) (tm ws[i] vs[i]))) ∧ Below W.heap.size W w') :
    Calls Try.prog 8 #[.agg #[.int .i64 z, .slice a n c], .slice b n d, .int .i64 x] w fun e w' => e = .returned (.string (su pl tm z0 ws vs)) ∧ Below w.heap.size w w' := by
  have HS : Hid (SL w b vs) := hs
  have H14 : Hid _ := C14
  have H15 : Hid _ := C15
  have HT : Hid _ := CT
  have HP : Hid _ := CP
  have HW : Hid (ws.length = n) := hw
  have HV : Hid (vs.length = n) := hv
  have E0 : Hid (su pl tm z0 [] [] = z0) := rfl
  clear hs C14 C15 CT CP hw hv
  have J0 : Hid (IHolds (w.alloc (.cells #[.int .i64 z, .slice a n c] 31)) w.heap.size 31 [.int .i64 z, .slice a n c]) := IHolds.new w 31 [_, _]
  have B0 : Hid (Below w.heap.size w (w.alloc (.cells #[.int .i64 z, .slice a n c] 31))) := nB w _
  go_enter Try.func8, Try.ntmps8
  go_wp2_with (first
    | (go_at_call 14; refine (H14.out _).mono ?_; rintro e w1 ⟨rfl, hB1⟩; have B1 : Hid (Below w.heap.size w w1) := B0.out.trans (hB1.mono B0.out.size); have J1 : Hid (IHolds w1 w.heap.size 31 [.int .i64 z, .slice a n c]) := J0.out.of_below hB1; obtain ⟨q0, q1⟩ := c2 J1.out; clear hB1 B0 J0)
    | (go_at_call 15; refine (H15.out _ B1.out).mono ?_; rintro e w2 ⟨⟨a2, c2', rfl, hs2⟩, hB2⟩; have B2 : Hid (Below w.heap.size w w2) := B1.out.trans (hB2.mono B1.out.size); have J2 : Hid (IHolds w2 w.heap.size 31 [.int .i64 z, .slice a n c]) := J1.out.of_below hB2; have S2 : Hid (SL w2 a2 ws) := hs2; clear hB2 hs2 B1 J1))
  clear q0 q1
  go_loopg [7, 8, 9, 17] n (fun gk v7 v8 v9 v17 wr => ∃ i : Nat, i + gk = n ∧ v17 = .int .i64 (i : Int) ∧ v7 = .string (su pl tm z0 (ws.take i) (vs.take i)) ∧ Below w2.heap.size w2 wr)
  case atStart => exact ⟨0, by omega, rfl, by rw [List.take_zero, List.take_zero, E0.out], Below.refl _ _⟩
  case round =>
    obtain ⟨i, hig, rfl, rfl, hB⟩ := hrel
    have BB : Hid (Below w2.heap.size w2 wr) := hB
    clear hB
    have B : Hid (Below w.heap.size w wr) := B2.out.trans (BB.out.mono B2.out.size)
    have J : Hid (IHolds wr w.heap.size 31 [.int .i64 z, .slice a n c]) := J2.out.of_below BB.out
    by_cases hi : i < n
    · have hi1 : i < ws.length := by have := HW.out; omega
      have hi2 : i < vs.length := by have := HV.out; omega
      have il : (i : Int) < (n : Int) := by omega
      have T1 : Hid _ := HT.out i hi1 hi2
      have T2 : Hid _ := HP.out i hi1 hi2
      have T3 : Hid _ := su_take (pl := pl) (tm := tm) (z0 := z0) hi1 hi2
      obtain ⟨b1, o1, rfl, hc1⟩ := S2.out.of_below BB.out i hi1
      obtain ⟨b2, o2, rfl, hc2⟩ := HS.out.of_below B.out i hi2
      have K2 : Hid _ := hc2
      generalize ws[i] = s at *
      generalize vs[i] = t at *
      generalize su pl tm z0 (ws.take i) (vs.take i) = A at *
      clear HT HP H14 H15 hi1 hi2
      go_wp2_with fail
      clear hc1 hc2
      refine wp_region_held_drew (S := fun W => IHolds W w.heap.size 31 [.int .i64 z, .slice a n c] ∧ W.cell? ⟨b2, o2 + i, none⟩ = some (.string t)) (by kernel_rfl) ⟨J.out, K2.out⟩ (fun hHeld => ?_)
      refine tk (i := 0) (v := .pointer (some ⟨w.heap.size, 0, none⟩)) rfl (by kernel_rfl) (fun _ _ _ h => h) rfl ?_ hHeld ?_
      · intro W hS; go_simp
      simp only [Act.put, y1, y2, y3, y4, y5, y6, y7]
      refine tk (i := 1) (v := .agg #[.int .i64 z]) rfl (by kernel_rfl) (fun _ _ _ h => h) rfl ?_ hHeld ?_
      · intro W hS; obtain ⟨x0, x1⟩ := Go.Proofs.Ythdffjboaicopaa.c2 hS.1; clear hS; go_simp
      simp only [Act.put, y1, y2, y3, y4, y5, y6, y7]
      refine tk (i := 2) (v := .string A) rfl (by kernel_rfl) (fun _ _ _ h => h) rfl ?_ hHeld ?_
      · intro W hS; go_simp
      simp only [Act.put, y1, y2, y3, y4, y5, y6, y7]
      refine tk (i := 3) (v := .pointer (some ⟨w.heap.size, 0, none⟩)) rfl (by kernel_rfl) (fun _ _ _ h => h) rfl ?_ hHeld ?_
      · intro W hS; go_simp
      simp only [Act.put, y1, y2, y3, y4, y5, y6, y7]
      refine tk (i := 4) (v := .agg #[.int .i64 z]) rfl (by kernel_rfl) (fun _ _ _ h => h) rfl ?_ hHeld ?_
      · intro W hS; obtain ⟨x0, x1⟩ := Go.Proofs.Ythdffjboaicopaa.c2 hS.1; clear hS; go_simp
      simp only [Act.put, y1, y2, y3, y4, y5, y6, y7]
      refine tk (i := 5) (v := .string s) rfl (by kernel_rfl) (fun _ _ _ h => h) rfl ?_ hHeld ?_
      · intro W hS; go_simp
      simp only [Act.put, y1, y2, y3, y4, y5, y6, y7]
      refine tk (i := 6) (v := .slice (some ⟨b2, o2, none⟩) n d) rfl (by kernel_rfl) (fun _ _ _ h => h) rfl ?_ hHeld ?_
      · intro W hS; go_simp
      simp only [Act.put, y1, y2, y3, y4, y5, y6, y7]
      refine tk (i := 7) (v := .int .i64 (i : Int)) rfl (by kernel_rfl) (fun _ _ _ h => h) rfl ?_ hHeld ?_
      · intro W hS; go_simp
      simp only [Act.put, y1, y2, y3, y4, y5, y6, y7]
      refine tk (i := 8) (v := .pointer (some ⟨b2, o2 + i, none⟩)) rfl (by kernel_rfl) (fun _ _ _ h => h) rfl ?_ hHeld ?_
      · intro W hS; go_simp
      simp only [Act.put, y1, y2, y3, y4, y5, y6, y7]
      refine tk (i := 9) (v := .string t) rfl (by kernel_rfl) (fun _ _ _ h => h) rfl ?_ hHeld ?_
      · intro W hS; have x5 := hS.2; clear hS; go_simp
      simp only [Act.put, y1, y2, y3, y4, y5, y6, y7]
      refine wpAnyH_ready (rs := [10]) (by kernel_rfl) (by simp) ?_
      refine AllReadyH.cons rfl (fun K hK => ?_) AllReadyH.nil
      go_simp
      refine (T1.out _).mono ?_
      rintro e w3 ⟨rfl, hB3⟩
      have B3 : Hid (Below w2.heap.size w2 w3) := BB.out.drew.trans (hB3.mono BB.out.size)
      have J3 : Hid (IHolds w3 w.heap.size 31 [.int .i64 z, .slice a n c]) := (J.out.of_below (dB wr)).of_below hB3
      have K3 : Hid _ := cell_keep (cell_keep K2.out (dB wr)) hB3
      clear hB3 T1
      go_wp2_with fail
      refine hK.out _ _ ⟨J3.out, K3.out⟩ (fun hHeld2 => ?_)
      clear hK K hHeld
      try simp only [Act.put, y1, y2, y3, y4, y5, y6, y7]
      refine wpAnyH_ready (rs := [11]) (by kernel_rfl) (by simp) ?_
      refine AllReadyH.cons rfl (fun K hK => ?_) AllReadyH.nil
      go_simp
      refine (T2.out _).mono ?_
      rintro e w4 ⟨rfl, hB4⟩
      have B4 : Hid (Below w2.heap.size w2 w4) := B3.out.trans (hB4.mono B3.out.size)
      have J4 : Hid (IHolds w4 w.heap.size 31 [.int .i64 z, .slice a n c]) := J3.out.of_below hB4
      have K4 : Hid _ := cell_keep K3.out hB4
      clear hB4 T2
      go_wp2_with fail
      refine hK.out _ _ ⟨J4.out, K4.out⟩ (fun hHeld3 => ?_)
      clear hK K hHeld2
      try simp only [Act.put, y1, y2, y3, y4, y5, y6, y7]
      refine tk (i := 12) (v := .string (pl A (tm s t))) rfl (by kernel_rfl) (fun _ _ _ h => h) rfl ?_ hHeld3 ?_
      · intro W hS; clear hS; go_simp
      simp only [Act.put, y1, y2, y3, y4, y5, y6, y7]
      refine wpAnyH_done (by kernel_rfl) ?_ _
      clear hHeld3
      go_wp2_with fail
      go_roundg (gk - 1)
      case measure => omega
      case rel => exact ⟨i + 1, by omega, by go_num, by rw [T3.out], B4.out⟩
    · have il : ¬ (i : Int) < (n : Int) := by omega
      have e1 : ws.take i = ws := List.take_of_length_le (by have := HW.out; omega)
      have e2 : vs.take i = vs := List.take_of_length_le (by have := HV.out; omega)
      rw [e1, e2]
      clear e1 e2
      go_wp2_with fail
      go_ret
      exact ⟨rfl, B.out⟩
set_option maxHeartbeats 2000000 in
theorem thr_places {w : World} {z x : Int} {a b : Option Addr} {n m c d : Nat} {k : Int} (C5 : ∀ W, Below w.heap.size w W → Calls Try.prog 5 #[.int .i64 z, .slice a n c] W fun e w' => e = .returned (.tuple #[.agg #[.int .i64 0, .slice none 0 0], .int .i64 k]) ∧ Below W.heap.size W w') (hk : (k == 0) = false) (hk2 : (k != 0) = true) :
    Calls Try.prog 4 #[.int .i64 z, .slice a n c, .slice b m d, .int .i64 x] w fun e w' => e = .returned (.tuple #[.string ⟨#[]⟩, .int .i64 k]) ∧ Below w.heap.size w w' := by
  have H5 : Hid _ := C5
  clear C5
  go_enter Try.func4, Try.ntmps4
  go_wp2_with (first | (go_at_call 5; refine (H5.out _ (Below.refl _ _)).mono ?_; rintro e w1 ⟨rfl, hB1⟩; have B1 : Hid (Below w.heap.size w (w1.alloc (.cells #[.int .i64 0, .slice none 0 0] 31))) := hB1.alloc hB1.size _; have I1 : Hid (IHolds (w1.alloc (.cells #[.int .i64 0, .slice none 0 0] 31)) w1.heap.size 31 [.int .i64 0, .slice none 0 0]) := IHolds.new _ _ _; clear hB1 H5))
  go_ret2
  exact ⟨rfl, B1.out⟩
set_option maxHeartbeats 2000000 in
theorem thr_wrong {w : World} {z x : Int} {a b : Option Addr} {n m c d : Nat} {k : Int} (C5 : ∀ W, Below w.heap.size w W → Calls Try.prog 5 #[.int .i64 z, .slice a n c] W fun e w' => e = .returned (.tuple #[.agg #[.int .i64 z, .slice a n c], .int .i64 0]) ∧ Below W.heap.size W w') (C6 : ∀ W, Below w.heap.size w W → Calls Try.prog 6 #[.agg #[.int .i64 z, .slice a n c], .slice b m d] W fun e w' => e = .returned (.int .i64 k) ∧ Below W.heap.size W w') (hk : (k == 0) = false) (hk2 : (k != 0) = true) :
    Calls Try.prog 4 #[.int .i64 z, .slice a n c, .slice b m d, .int .i64 x] w fun e w' => e = .returned (.tuple #[.string ⟨#[]⟩, .int .i64 k]) ∧ Below w.heap.size w w' := by
  have H5 : Hid _ := C5
  have H6 : Hid _ := C6
  clear C5 C6
  go_enter Try.func4, Try.ntmps4
  go_wp2_with (first | (go_at_call 5; refine (H5.out _ (Below.refl _ _)).mono ?_; rintro e w1 ⟨rfl, hB1⟩; have B1 : Hid (Below w.heap.size w (w1.alloc (.cells #[.int .i64 z, .slice a n c] 31))) := hB1.alloc hB1.size _; have I1 : Hid (IHolds (w1.alloc (.cells #[.int .i64 z, .slice a n c] 31)) w1.heap.size 31 [.int .i64 z, .slice a n c]) := IHolds.new _ _ _; clear hB1 H5) | (go_at_call 6; refine (H6.out _ B1.out).mono ?_; rintro e w2 ⟨rfl, hB2⟩; have B2 : Hid (Below w.heap.size w w2) := B1.out.trans (hB2.mono B1.out.size); have I2 : Hid (IHolds w2 w1.heap.size 31 [.int .i64 z, .slice a n c]) := I1.out.of_below hB2; clear hB2 H6))
  go_ret2
  exact ⟨rfl, B2.out⟩
set_option maxHeartbeats 2000000 in
theorem thr_range {w : World} {z x : Int} {a b : Option Addr} {n m c d : Nat} (C5 : ∀ W, Below w.heap.size w W → Calls Try.prog 5 #[.int .i64 z, .slice a n c] W fun e w' => e = .returned (.tuple #[.agg #[.int .i64 z, .slice a n c], .int .i64 0]) ∧ Below W.heap.size W w') (C6 : ∀ W, Below w.heap.size w W → Calls Try.prog 6 #[.agg #[.int .i64 z, .slice a n c], .slice b m d] W fun e w' => e = .returned (.int .i64 0) ∧ Below W.heap.size W w') (C7 : ∀ W, Calls Try.prog 7 #[.int .i64 x] W fun e w' => e = .returned (.bool true) ∧ Below W.heap.size W w') :
    Calls Try.prog 4 #[.int .i64 z, .slice a n c, .slice b m d, .int .i64 x] w fun e w' => e = .returned (.tuple #[.string ⟨#[]⟩, .int .i64 4]) ∧ Below w.heap.size w w' := by
  have H5 : Hid _ := C5
  have H6 : Hid _ := C6
  have H7 : Hid _ := C7
  clear C5 C6 C7
  go_enter Try.func4, Try.ntmps4
  go_wp2_with (first | (go_at_call 5; refine (H5.out _ (Below.refl _ _)).mono ?_; rintro e w1 ⟨rfl, hB1⟩; have B1 : Hid (Below w.heap.size w (w1.alloc (.cells #[.int .i64 z, .slice a n c] 31))) := hB1.alloc hB1.size _; have I1 : Hid (IHolds (w1.alloc (.cells #[.int .i64 z, .slice a n c] 31)) w1.heap.size 31 [.int .i64 z, .slice a n c]) := IHolds.new _ _ _; clear hB1 H5) | (go_at_call 6; refine (H6.out _ B1.out).mono ?_; rintro e w2 ⟨rfl, hB2⟩; have B2 : Hid (Below w.heap.size w w2) := B1.out.trans (hB2.mono B1.out.size); have I2 : Hid (IHolds w2 w1.heap.size 31 [.int .i64 z, .slice a n c]) := I1.out.of_below hB2; clear hB2 H6) | (go_at_call 7; refine (H7.out _).mono ?_; rintro e w3 ⟨rfl, hB3⟩; have B3 : Hid (Below w.heap.size w w3) := B2.out.trans (hB3.mono B2.out.size); have I3 : Hid (IHolds w3 w1.heap.size 31 [.int .i64 z, .slice a n c]) := I2.out.of_below hB3; obtain ⟨r0, r1⟩ := c2 I3.out; clear hB3 H7))
  go_ret2
  exact ⟨rfl, B3.out⟩
set_option maxHeartbeats 2000000 in
theorem thr_ok {w : World} {z x : Int} {a b : Option Addr} {n m c d : Nat} {r : ByteArray} (C5 : ∀ W, Below w.heap.size w W → Calls Try.prog 5 #[.int .i64 z, .slice a n c] W fun e w' => e = .returned (.tuple #[.agg #[.int .i64 z, .slice a n c], .int .i64 0]) ∧ Below W.heap.size W w') (C6 : ∀ W, Below w.heap.size w W → Calls Try.prog 6 #[.agg #[.int .i64 z, .slice a n c], .slice b m d] W fun e w' => e = .returned (.int .i64 0) ∧ Below W.heap.size W w') (C7 : ∀ W, Calls Try.prog 7 #[.int .i64 x] W fun e w' => e = .returned (.bool false) ∧ Below W.heap.size W w') (C8 : ∀ W, Below w.heap.size w W → Calls Try.prog 8 #[.agg #[.int .i64 z, .slice a n c], .slice b m d, .int .i64 x] W fun e w' => e = .returned (.string r) ∧ Below W.heap.size W w') :
    Calls Try.prog 4 #[.int .i64 z, .slice a n c, .slice b m d, .int .i64 x] w fun e w' => e = .returned (.tuple #[.string r, .int .i64 0]) ∧ Below w.heap.size w w' := by
  have H5 : Hid _ := C5
  have H6 : Hid _ := C6
  have H7 : Hid _ := C7
  have H8 : Hid _ := C8
  clear C5 C6 C7 C8
  go_enter Try.func4, Try.ntmps4
  go_wp2_with (first | (go_at_call 5; refine (H5.out _ (Below.refl _ _)).mono ?_; rintro e w1 ⟨rfl, hB1⟩; have B1 : Hid (Below w.heap.size w (w1.alloc (.cells #[.int .i64 z, .slice a n c] 31))) := hB1.alloc hB1.size _; have I1 : Hid (IHolds (w1.alloc (.cells #[.int .i64 z, .slice a n c] 31)) w1.heap.size 31 [.int .i64 z, .slice a n c]) := IHolds.new _ _ _; clear hB1 H5) | (go_at_call 6; refine (H6.out _ B1.out).mono ?_; rintro e w2 ⟨rfl, hB2⟩; have B2 : Hid (Below w.heap.size w w2) := B1.out.trans (hB2.mono B1.out.size); have I2 : Hid (IHolds w2 w1.heap.size 31 [.int .i64 z, .slice a n c]) := I1.out.of_below hB2; clear hB2 H6) | (go_at_call 7; refine (H7.out _).mono ?_; rintro e w3 ⟨rfl, hB3⟩; have B3 : Hid (Below w.heap.size w w3) := B2.out.trans (hB3.mono B2.out.size); have I3 : Hid (IHolds w3 w1.heap.size 31 [.int .i64 z, .slice a n c]) := I2.out.of_below hB3; obtain ⟨r0, r1⟩ := c2 I3.out; clear hB3 H7) | (go_at_call 8; refine (H8.out _ B3.out).mono ?_; rintro e w4 ⟨rfl, hB4⟩; have B4 : Hid (Below w.heap.size w w4) := B3.out.trans (hB4.mono B3.out.size); clear hB4 H8))
  go_ret2
  exact ⟨rfl, B4.out⟩
end Go.Proofs.Ythdffjboaicopaa
