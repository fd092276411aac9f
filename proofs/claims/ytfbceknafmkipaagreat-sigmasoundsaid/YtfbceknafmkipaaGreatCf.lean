/- Sigma's First and Back, with what they call; lists of lists beside each other. -/
import Derived.Test.YtfbceknafmkipaaGreatCe
import Derived.Test.YtfbceknafmkipaaGreatSl2
set_option linter.unusedSimpArgs false
set_option linter.unusedVariables false
set_option maxRecDepth 100000
namespace Go.Proofs.YtfbceknafmkipaaGreat
open Go.RowKit Go.Deep Go.PlainAid

set_option maxHeartbeats 2000000 in
theorem back16_ok {w : World} {a b : Option Addr} {n m c d : Nat} {z : Int} {u : ByteArray} {q : List (List ByteArray)} (C42 : ∀ W, Below w.heap.size w W → Calls Tryz.prog 14 #[.int .i64 z, .slice a n c] W fun e w' => e = .returned (.tuple #[.agg #[.int .i64 z, .slice a n c], .int .i64 0]) ∧ Below W.heap.size W w') (C43 : ∀ W, Below w.heap.size w W → Calls Tryz.prog 20 #[.agg #[.int .i64 z, .slice a n c], .slice b m d] W fun e w' => e = .returned (.int .i64 0) ∧ Below W.heap.size W w') (C44 : ∀ W, Calls Tryz.prog 24 #[.agg #[.int .i64 z], .string u] W fun e w' => e = .returned (.bool false) ∧ Below W.heap.size W w') (C45 : ∀ W, Below w.heap.size w W → Calls Tryz.prog 25 #[.agg #[.int .i64 z, .slice a n c], .string u, .slice b m d] W fun e w' => (∃ a' c', e = .returned (.slice a' n c') ∧ SLL w' a' q) ∧ Below W.heap.size W w') :
    Calls Tryz.prog 10 #[.int .i64 z, .slice a n c, .string u, .slice b m d] w fun e w' => (∃ a' c', e = .returned (.tuple #[.slice a' n c', .int .i64 0]) ∧ SLL w' a' q) ∧ Below w.heap.size w w' := by
  have H42 : Hid _ := C42
  have H43 : Hid _ := C43
  have H44 : Hid _ := C44
  have H45 : Hid _ := C45
  clear C42 C43 C44 C45
  go_enter Tryz.func10, Tryz.ntmps10
  go_wp2_with (first | (go_at_call 14; refine (H42.out _ (Below.refl _ _)).mono ?_; rintro e w1 ⟨rfl, hB1⟩; have B1 : Hid (Below w.heap.size w (w1.alloc (.cells #[.int .i64 z, .slice a n c] 41))) := hB1.alloc hB1.size _; have I1 : Hid (IHolds (w1.alloc (.cells #[.int .i64 z, .slice a n c] 41)) w1.heap.size 41 [.int .i64 z, .slice a n c]) := IHolds.new _ _ _; clear hB1 H42) | (go_at_call 20; refine (H43.out _ B1.out).mono ?_; rintro e w2 ⟨rfl, hB2⟩; have B2 : Hid (Below w.heap.size w w2) := B1.out.trans (hB2.mono B1.out.size); have I2 : Hid (IHolds w2 w1.heap.size 41 [.int .i64 z, .slice a n c]) := I1.out.of_below hB2; have q0 : w2.cell? ⟨w1.heap.size, 0, none⟩ = some (.int .i64 z) := I2.out.cell 0 (by simp); have q1 : w2.cell? ⟨w1.heap.size, 1, none⟩ = some (.slice a n c) := I2.out.cell 1 (by simp); clear hB2 H43) | (go_at_call 24; refine (H44.out _).mono ?_; rintro e w3 ⟨rfl, hB3⟩; have B3 : Hid (Below w.heap.size w w3) := B2.out.trans (hB3.mono B2.out.size); have I3 : Hid (IHolds w3 w1.heap.size 41 [.int .i64 z, .slice a n c]) := I2.out.of_below hB3; have r0 : w3.cell? ⟨w1.heap.size, 0, none⟩ = some (.int .i64 z) := I3.out.cell 0 (by simp); have r1 : w3.cell? ⟨w1.heap.size, 1, none⟩ = some (.slice a n c) := I3.out.cell 1 (by simp); clear hB3 H44) | (go_at_call 25; refine (H45.out _ B3.out).mono ?_; rintro e w4 ⟨⟨a', c', rfl, hs4⟩, hB4⟩; have B4 : Hid (Below w.heap.size w w4) := B3.out.trans (hB4.mono B3.out.size); have S4 : Hid (SLL w4 a' q) := hs4; clear hB4 hs4 H45))
  go_ret2
  exact ⟨⟨a', c', rfl, S4.out⟩, B4.out⟩
set_option maxHeartbeats 2000000 in
theorem back16_a {w : World} {a b : Option Addr} {n m c d : Nat} {z : Int} {u : ByteArray} (C42 : ∀ W, Below w.heap.size w W → Calls Tryz.prog 14 #[.int .i64 z, .slice a n c] W fun e w' => e = .returned (.tuple #[.agg #[.int .i64 z, .slice a n c], .int .i64 0]) ∧ Below W.heap.size W w') (C43 : ∀ W, Below w.heap.size w W → Calls Tryz.prog 20 #[.agg #[.int .i64 z, .slice a n c], .slice b m d] W fun e w' => e = .returned (.int .i64 6) ∧ Below W.heap.size W w') :
    Calls Tryz.prog 10 #[.int .i64 z, .slice a n c, .string u, .slice b m d] w fun e w' => e = .returned (.tuple #[.slice none 0 0, .int .i64 6]) ∧ Below w.heap.size w w' := by
  have H42 : Hid _ := C42
  have H43 : Hid _ := C43
  clear C42 C43
  go_enter Tryz.func10, Tryz.ntmps10
  go_wp2_with (first | (go_at_call 14; refine (H42.out _ (Below.refl _ _)).mono ?_; rintro e w1 ⟨rfl, hB1⟩; have B1 : Hid (Below w.heap.size w (w1.alloc (.cells #[.int .i64 z, .slice a n c] 41))) := hB1.alloc hB1.size _; have I1 : Hid (IHolds (w1.alloc (.cells #[.int .i64 z, .slice a n c] 41)) w1.heap.size 41 [.int .i64 z, .slice a n c]) := IHolds.new _ _ _; clear hB1 H42) | (go_at_call 20; refine (H43.out _ B1.out).mono ?_; rintro e w2 ⟨rfl, hB2⟩; have B2 : Hid (Below w.heap.size w w2) := B1.out.trans (hB2.mono B1.out.size); have I2 : Hid (IHolds w2 w1.heap.size 41 [.int .i64 z, .slice a n c]) := I1.out.of_below hB2; have q0 : w2.cell? ⟨w1.heap.size, 0, none⟩ = some (.int .i64 z) := I2.out.cell 0 (by simp); have q1 : w2.cell? ⟨w1.heap.size, 1, none⟩ = some (.slice a n c) := I2.out.cell 1 (by simp); clear hB2 H43))
  go_ret2
  exact ⟨rfl, B2.out⟩
set_option maxHeartbeats 2000000 in
theorem back16_c {w : World} {a b : Option Addr} {n m c d : Nat} {z : Int} {u : ByteArray} (C42 : ∀ W, Below w.heap.size w W → Calls Tryz.prog 14 #[.int .i64 z, .slice a n c] W fun e w' => e = .returned (.tuple #[.agg #[.int .i64 z, .slice a n c], .int .i64 0]) ∧ Below W.heap.size W w') (C43 : ∀ W, Below w.heap.size w W → Calls Tryz.prog 20 #[.agg #[.int .i64 z, .slice a n c], .slice b m d] W fun e w' => e = .returned (.int .i64 0) ∧ Below W.heap.size W w') (C44 : ∀ W, Calls Tryz.prog 24 #[.agg #[.int .i64 z], .string u] W fun e w' => e = .returned (.bool true) ∧ Below W.heap.size W w') :
    Calls Tryz.prog 10 #[.int .i64 z, .slice a n c, .string u, .slice b m d] w fun e w' => e = .returned (.tuple #[.slice none 0 0, .int .i64 6]) ∧ Below w.heap.size w w' := by
  have H42 : Hid _ := C42
  have H43 : Hid _ := C43
  have H44 : Hid _ := C44
  clear C42 C43 C44
  go_enter Tryz.func10, Tryz.ntmps10
  go_wp2_with (first | (go_at_call 14; refine (H42.out _ (Below.refl _ _)).mono ?_; rintro e w1 ⟨rfl, hB1⟩; have B1 : Hid (Below w.heap.size w (w1.alloc (.cells #[.int .i64 z, .slice a n c] 41))) := hB1.alloc hB1.size _; have I1 : Hid (IHolds (w1.alloc (.cells #[.int .i64 z, .slice a n c] 41)) w1.heap.size 41 [.int .i64 z, .slice a n c]) := IHolds.new _ _ _; clear hB1 H42) | (go_at_call 20; refine (H43.out _ B1.out).mono ?_; rintro e w2 ⟨rfl, hB2⟩; have B2 : Hid (Below w.heap.size w w2) := B1.out.trans (hB2.mono B1.out.size); have I2 : Hid (IHolds w2 w1.heap.size 41 [.int .i64 z, .slice a n c]) := I1.out.of_below hB2; have q0 : w2.cell? ⟨w1.heap.size, 0, none⟩ = some (.int .i64 z) := I2.out.cell 0 (by simp); have q1 : w2.cell? ⟨w1.heap.size, 1, none⟩ = some (.slice a n c) := I2.out.cell 1 (by simp); clear hB2 H43) | (go_at_call 24; refine (H44.out _).mono ?_; rintro e w3 ⟨rfl, hB3⟩; have B3 : Hid (Below w.heap.size w w3) := B2.out.trans (hB3.mono B2.out.size); have I3 : Hid (IHolds w3 w1.heap.size 41 [.int .i64 z, .slice a n c]) := I2.out.of_below hB3; have r0 : w3.cell? ⟨w1.heap.size, 0, none⟩ = some (.int .i64 z) := I3.out.cell 0 (by simp); have r1 : w3.cell? ⟨w1.heap.size, 1, none⟩ = some (.slice a n c) := I3.out.cell 1 (by simp); clear hB3 H44))
  go_ret2
  exact ⟨rfl, B3.out⟩
set_option maxHeartbeats 2000000 in
theorem sameLists18 {w : World} {a b : Option Addr} {l m : List (List ByteArray)} {c d : Nat} (hl : l.length ≤ 64) (hlr : ∀ i (h : i < l.length), (l[i]).length ≤ 64) (hlen : m.length = l.length) (hs : SLL w a l) (hm : SLL w b m) :
    Calls Tryz.prog 9 #[.slice a l.length c, .slice b m.length d] w fun e w' => e = .returned (.bool (decide (l = m))) ∧ Below w.heap.size w w' := by
  have HS : Hid (SLL w a l) := hs
  have HM : Hid (SLL w b m) := hm
  have HE : Hid (m.length = l.length) := hlen
  have HR : Hid _ := hlr
  rw [hlen]
  clear hs hm hlen hlr
  go_enter Tryz.func9, Tryz.ntmps9
  go_wp2_with fail
  go_loopg [5, 13] l.length (fun gk v5 v13 wr => ∃ i : Nat, i + gk = l.length ∧ v13 = .int .i64 (i : Int) ∧ Below w.heap.size w wr ∧ l.take i = m.take i)
  case atStart => exact ⟨0, by omega, rfl, Below.refl _ _, by simp⟩
  case round =>
    obtain ⟨i, hig, rfl, hB, hn⟩ := hrel
    have B : Hid (Below w.heap.size w wr) := hB
    have HN : Hid (l.take i = m.take i) := hn
    clear hB hn
    by_cases hi : i < l.length
    · have hi2 : i < m.length := by have := HE.out; omega
      obtain ⟨b1, o1, a1, c1, rfl, h1, s1⟩ := HS.out.of_below B.out i hi
      obtain ⟨b2, o2, a2, c2, rfl, h2, s2⟩ := HM.out.of_below B.out i hi2
      have il : (i : Int) < (l.length : Int) := by omega
      have HT : Hid (l[i] = m[i] → l.take (i + 1) = m.take (i + 1)) := fun h => by rw [List.take_succ_eq_append_getElem hi, List.take_succ_eq_append_getElem hi2, HN.out, h]
      have HF : Hid (l[i] ≠ m[i] → decide (l = m) = false) := fun h => decide_eq_false (fun e => h (by subst e; rfl))
      have HL1 : Hid ((l[i]).length ≤ 9223372036854775807) := by have := HR.out i hi; show _ ≤ _; omega
      have S1 : Hid (SL wr a1 l[i]) := s1
      have S2 : Hid (SL wr a2 m[i]) := s2
      have k1 : Hid _ := h1
      have k2 : Hid _ := h2
      clear s1 s2
      generalize l[i] = L1 at *
      generalize m[i] = L2 at *
      clear hi2
      by_cases hE : L1 = L2
      · have hcall : Hid (∀ W, Below wr.heap.size wr W → Calls Tryz.prog 23 #[.slice a1 L1.length c1, .slice a2 L2.length c2] W fun e w' => e = .returned (.bool true) ∧ Below W.heap.size W w') := fun W hW => by
          have q := same8 (w := W) (c := c1) (d := c2) HL1.out (S1.out.of_below hW) (S2.out.of_below hW)
          rw [decide_eq_true hE] at q
          exact q
        have HTT : Hid _ := HT.out hE
        clear HT HF S1 S2 HL1 hE
        generalize L1.length = n1 at *
        generalize L2.length = n2 at *
        go_wp2_with fail
        clear h1 h2
        refine wp_region_held_drew (S := fun W => W.cell? ⟨b1, o1 + i, none⟩ = some (.slice a1 n1 c1) ∧ W.cell? ⟨b2, o2 + i, none⟩ = some (.slice a2 n2 c2)) (by kernel_rfl) ⟨k1.out, k2.out⟩ (fun hHeld => ?_)
        refine tk (i := 0) (v := .slice (some ⟨b1, o1, none⟩) l.length c) rfl (by kernel_rfl) (fun _ _ _ h => h) rfl ?_ hHeld ?_
        · intro W hS; go_simp
        simp only [Act.put, y1, y2, y3, y4, y5, y6, y7]
        refine tk (i := 1) (v := .int .i64 (i : Int)) rfl (by kernel_rfl) (fun _ _ _ h => h) rfl ?_ hHeld ?_
        · intro W hS; go_simp
        simp only [Act.put, y1, y2, y3, y4, y5, y6, y7]
        refine tk (i := 2) (v := .pointer (some ⟨b1, o1 + i, none⟩)) rfl (by kernel_rfl) (fun _ _ _ h => h) rfl ?_ hHeld ?_
        · intro W hS; go_simp
        simp only [Act.put, y1, y2, y3, y4, y5, y6, y7]
        refine tk (i := 3) (v := .slice a1 n1 c1) rfl (by kernel_rfl) (fun _ _ _ h => h) rfl ?_ hHeld ?_
        · intro W hS; have x5 := hS.1; clear hS; go_simp
        simp only [Act.put, y1, y2, y3, y4, y5, y6, y7]
        refine tk (i := 4) (v := .slice (some ⟨b2, o2, none⟩) l.length d) rfl (by kernel_rfl) (fun _ _ _ h => h) rfl ?_ hHeld ?_
        · intro W hS; go_simp
        simp only [Act.put, y1, y2, y3, y4, y5, y6, y7]
        refine tk (i := 5) (v := .int .i64 (i : Int)) rfl (by kernel_rfl) (fun _ _ _ h => h) rfl ?_ hHeld ?_
        · intro W hS; go_simp
        simp only [Act.put, y1, y2, y3, y4, y5, y6, y7]
        refine tk (i := 6) (v := .pointer (some ⟨b2, o2 + i, none⟩)) rfl (by kernel_rfl) (fun _ _ _ h => h) rfl ?_ hHeld ?_
        · intro W hS; go_simp
        simp only [Act.put, y1, y2, y3, y4, y5, y6, y7]
        refine tk (i := 7) (v := .slice a2 n2 c2) rfl (by kernel_rfl) (fun _ _ _ h => h) rfl ?_ hHeld ?_
        · intro W hS; have x5 := hS.2; clear hS; go_simp
        simp only [Act.put, y1, y2, y3, y4, y5, y6, y7]
        refine wpAnyH_ready (rs := [8]) (by kernel_rfl) (by simp) ?_
        refine AllReadyH.cons rfl (fun K hK => ?_) AllReadyH.nil
        go_simp
        refine (hcall.out _ (dB wr)).mono ?_
        rintro e w3 ⟨rfl, hB3⟩
        have B3 : Hid (Below w.heap.size w w3) := B.out.drew.trans (hB3.mono B.out.size)
        have k3 : Hid _ := cell_keep (cell_keep k1.out (dB wr)) hB3
        have k4 : Hid _ := cell_keep (cell_keep k2.out (dB wr)) hB3
        clear hB3 hcall
        go_wp2_with fail
        refine hK.out _ _ ⟨k3.out, k4.out⟩ (fun hHeld2 => ?_)
        clear hK K hHeld
        try simp only [Act.put, y1, y2, y3, y4, y5, y6, y7]
        refine tk (i := 9) (v := .bool false) rfl (by kernel_rfl) (fun _ _ _ h => h) rfl ?_ hHeld2 ?_
        · intro W hS; clear hS; go_simp
        simp only [Act.put, y1, y2, y3, y4, y5, y6, y7]
        refine wpAnyH_done (by kernel_rfl) ?_ _
        clear hHeld2
        go_wp2_with fail
        go_roundg (gk - 1)
        case measure => omega
        case rel => exact ⟨i + 1, by omega, by go_num, B3.out, HTT.out⟩
      · have hcall : Hid (∀ W, Below wr.heap.size wr W → Calls Tryz.prog 23 #[.slice a1 L1.length c1, .slice a2 L2.length c2] W fun e w' => e = .returned (.bool false) ∧ Below W.heap.size W w') := fun W hW => by
          have q := same8 (w := W) (c := c1) (d := c2) HL1.out (S1.out.of_below hW) (S2.out.of_below hW)
          rw [decide_eq_false hE] at q
          exact q
        have HFF : Hid _ := HF.out hE
        clear HT HF S1 S2 HL1 hE
        generalize L1.length = n1 at *
        generalize L2.length = n2 at *
        go_wp2_with fail
        clear h1 h2
        refine wp_region_held_drew (S := fun W => W.cell? ⟨b1, o1 + i, none⟩ = some (.slice a1 n1 c1) ∧ W.cell? ⟨b2, o2 + i, none⟩ = some (.slice a2 n2 c2)) (by kernel_rfl) ⟨k1.out, k2.out⟩ (fun hHeld => ?_)
        refine tk (i := 0) (v := .slice (some ⟨b1, o1, none⟩) l.length c) rfl (by kernel_rfl) (fun _ _ _ h => h) rfl ?_ hHeld ?_
        · intro W hS; go_simp
        simp only [Act.put, y1, y2, y3, y4, y5, y6, y7]
        refine tk (i := 1) (v := .int .i64 (i : Int)) rfl (by kernel_rfl) (fun _ _ _ h => h) rfl ?_ hHeld ?_
        · intro W hS; go_simp
        simp only [Act.put, y1, y2, y3, y4, y5, y6, y7]
        refine tk (i := 2) (v := .pointer (some ⟨b1, o1 + i, none⟩)) rfl (by kernel_rfl) (fun _ _ _ h => h) rfl ?_ hHeld ?_
        · intro W hS; go_simp
        simp only [Act.put, y1, y2, y3, y4, y5, y6, y7]
        refine tk (i := 3) (v := .slice a1 n1 c1) rfl (by kernel_rfl) (fun _ _ _ h => h) rfl ?_ hHeld ?_
        · intro W hS; have x5 := hS.1; clear hS; go_simp
        simp only [Act.put, y1, y2, y3, y4, y5, y6, y7]
        refine tk (i := 4) (v := .slice (some ⟨b2, o2, none⟩) l.length d) rfl (by kernel_rfl) (fun _ _ _ h => h) rfl ?_ hHeld ?_
        · intro W hS; go_simp
        simp only [Act.put, y1, y2, y3, y4, y5, y6, y7]
        refine tk (i := 5) (v := .int .i64 (i : Int)) rfl (by kernel_rfl) (fun _ _ _ h => h) rfl ?_ hHeld ?_
        · intro W hS; go_simp
        simp only [Act.put, y1, y2, y3, y4, y5, y6, y7]
        refine tk (i := 6) (v := .pointer (some ⟨b2, o2 + i, none⟩)) rfl (by kernel_rfl) (fun _ _ _ h => h) rfl ?_ hHeld ?_
        · intro W hS; go_simp
        simp only [Act.put, y1, y2, y3, y4, y5, y6, y7]
        refine tk (i := 7) (v := .slice a2 n2 c2) rfl (by kernel_rfl) (fun _ _ _ h => h) rfl ?_ hHeld ?_
        · intro W hS; have x5 := hS.2; clear hS; go_simp
        simp only [Act.put, y1, y2, y3, y4, y5, y6, y7]
        refine wpAnyH_ready (rs := [8]) (by kernel_rfl) (by simp) ?_
        refine AllReadyH.cons rfl (fun K hK => ?_) AllReadyH.nil
        go_simp
        refine (hcall.out _ (dB wr)).mono ?_
        rintro e w3 ⟨rfl, hB3⟩
        have B3 : Hid (Below w.heap.size w w3) := B.out.drew.trans (hB3.mono B.out.size)
        have k3 : Hid _ := cell_keep (cell_keep k1.out (dB wr)) hB3
        have k4 : Hid _ := cell_keep (cell_keep k2.out (dB wr)) hB3
        clear hB3 hcall
        go_wp2_with fail
        refine hK.out _ _ ⟨k3.out, k4.out⟩ (fun hHeld2 => ?_)
        clear hK K hHeld
        try simp only [Act.put, y1, y2, y3, y4, y5, y6, y7]
        refine tk (i := 9) (v := .bool true) rfl (by kernel_rfl) (fun _ _ _ h => h) rfl ?_ hHeld2 ?_
        · intro W hS; clear hS; go_simp
        simp only [Act.put, y1, y2, y3, y4, y5, y6, y7]
        refine wpAnyH_done (by kernel_rfl) ?_ _
        clear hHeld2
        go_wp2_with fail
        go_ret
        exact ⟨by rw [HFF.out]; rfl, B3.out⟩
    · have il : ¬ (i : Int) < (l.length : Int) := by omega
      have e : i = l.length := by omega
      have hT : Hid (decide (l = m) = true) := decide_eq_true (by have h := HN.out; rw [e, List.take_length, List.take_of_length_le (Nat.le_of_eq HE.out)] at h; exact h)
      clear e
      go_wp2_with fail
      go_ret
      exact ⟨by rw [hT.out]; rfl, B.out⟩
end Go.Proofs.YtfbceknafmkipaaGreat
