/- Whether claims hold with secrets: the firsts of the secrets are the images. -/
import Derived.Test.YtfbceknafmkipaaGreatCa
import Derived.Test.YtfbceknafmkipaaGreatSl2
set_option linter.unusedSimpArgs false
set_option linter.unusedVariables false
set_option maxRecDepth 100000
namespace Go.Proofs.YtfbceknafmkipaaGreat
open Go.RowKit Go.Deep Go.PlainAid

set_option maxHeartbeats 1000000 in
theorem one58 {w : World} {a1 a2 b : Option Addr} {n1 c1 c2 d : Nat} {l m : List ByteArray} (hl : l.length ≤ 9223372036854775807) (hs : SL w a2 l) (hm : SL w b m) :
    Calls Tryz.prog 66 #[.agg #[.slice a1 n1 c1, .slice a2 l.length c2], .slice b m.length d] w fun e w' => e = .returned (.bool (decide (l = m))) ∧ Below w.heap.size w w' := by
  generalize hW : w.alloc (.cells #[.slice a1 n1 c1, .slice a2 l.length c2] 72) = U
  have B : Hid (Below w.heap.size w U) := by rw [← hW]; exact (Below.refl _ w).alloc (Nat.le_refl _) _
  have I1 : Hid (IHolds U w.heap.size 72 [.slice a1 n1 c1, .slice a2 l.length c2]) := by rw [← hW]; exact IHolds.new' _ 72 [_, _] rfl
  have hcall : Hid (∀ W, Below w.heap.size w W → Calls Tryz.prog 67 #[.slice a2 l.length c2, .slice b m.length d] W fun e w' => e = .returned (.bool (decide (l = m))) ∧ Below W.heap.size W w') := fun W hb => equal66 hl (hs.of_below hb) (hm.of_below hb)
  clear hs hm hl
  generalize decide (l = m) = t at *
  generalize l.length = n2 at *
  generalize m.length = n3 at *
  go_enter Tryz.func66, Tryz.ntmps66
  have q1 : U.cell? ⟨w.heap.size, 1, none⟩ = some (.slice a2 n2 c2) := I1.out.cell 1 (by simp)
  go_wp2_with (go_at_call 67; refine (hcall.out _ B.out).mono ?_; rintro e w1 ⟨rfl, hB1⟩)
  go_ret
  exact ⟨rfl, B.out.trans (hB1.mono B.out.size)⟩
set_option maxHeartbeats 2000000 in
theorem equal56 {w : World} {a b : Option Addr} {l : List Cl} {m : List (List ByteArray)} {c d : Nat} (hl : l.length ≤ 64) (hlr : ∀ i (h : i < l.length), (l[i]).2.length ≤ 9223372036854775807) (hlen : m.length = l.length) (hs : CM w a l) (hm : SLL w b m) :
    Calls Tryz.prog 65 #[.slice a l.length c, .slice b l.length d, .func (.func 66) #[] #[]] w fun e w' => e = .returned (.bool (decide (l.map Prod.snd = m))) ∧ Below w.heap.size w w' := by
  have HS : Hid (CM w a l) := hs
  have HM : Hid (SLL w b m) := hm
  have HE : Hid (m.length = l.length) := hlen
  have HR : Hid _ := hlr
  have k0 : ((l.length : Int) != (l.length : Int)) = false := by simp
  clear hs hm hlen hlr
  go_enter Tryz.func65, Tryz.ntmps65
  go_wp2_with fail
  go_loopg [7, 8, 9, 17] l.length (fun gk v7 v8 v9 v17 wr => ∃ i : Nat, i + gk = l.length ∧ v17 = .int .i64 (i : Int) ∧ Below w.heap.size w wr ∧ (l.take i).map Prod.snd = m.take i)
  case atStart => exact ⟨0, by omega, rfl, Below.refl _ _, by simp⟩
  case round =>
    obtain ⟨i, hig, rfl, hB, hn⟩ := hrel
    have B : Hid (Below w.heap.size w wr) := hB
    have HN : Hid ((l.take i).map Prod.snd = m.take i) := hn
    clear hB hn
    by_cases hi : i < l.length
    · have hi2 : i < m.length := by have := HE.out; omega
      obtain ⟨b1, o1, a1, c1, a2, c2, rfl, h1, h2, s1, s2⟩ := HS.out.of_below B.out i hi
      obtain ⟨b3, o3, a3, c3, rfl, h3, s3⟩ := HM.out.of_below B.out i hi2
      have il : (i : Int) < (l.length : Int) := by omega
      have HT : Hid ((l[i]).2 = m[i] → (l.take (i + 1)).map Prod.snd = m.take (i + 1)) := fun h => by rw [List.take_succ_eq_append_getElem hi, List.take_succ_eq_append_getElem hi2, List.map_append, HN.out, List.map_singleton, h]
      have HF : Hid ((l[i]).2 ≠ m[i] → decide (l.map Prod.snd = m) = false) := fun h => decide_eq_false (fun e => h (by subst e; simp))
      have HL1 : Hid ((l[i]).2.length ≤ 9223372036854775807) := HR.out i hi
      have S2 : Hid (SL wr a2 (l[i]).2) := s2
      have S3 : Hid (SL wr a3 m[i]) := s3
      clear s1 s2 s3
      generalize (l[i]).1.length = n1 at *
      generalize (l[i]).2 = L2 at *
      generalize m[i] = L3 at *
      clear hi2
      have U := wr.alloc (.cells #[.slice a1 n1 c1, .slice a2 L2.length c2] 72)
      clear U
      have BU : Hid (Below wr.heap.size wr (wr.alloc (.cells #[.slice a1 n1 c1, .slice a2 L2.length c2] 72))) := (Below.refl _ wr).alloc (Nat.le_refl _) _
      have h3' : Hid _ := h3
      have k3 : (wr.alloc (.cells #[.slice a1 n1 c1, .slice a2 L2.length c2] 72)).cell? ⟨b3, o3 + i, none⟩ = some (.slice a3 L3.length c3) := cell_keep h3 BU.out
      have IU : Hid (IHolds (wr.alloc (.cells #[.slice a1 n1 c1, .slice a2 L2.length c2] 72)) wr.heap.size 72 [.slice a1 n1 c1, .slice a2 L2.length c2]) := IHolds.new wr 72 [_, _]
      by_cases hE : L2 = L3
      · have hcall : Hid (Calls Tryz.prog 66 #[.agg #[.slice a1 n1 c1, .slice a2 L2.length c2], .slice a3 L3.length c3] (wr.alloc (.cells #[.slice a1 n1 c1, .slice a2 L2.length c2] 72)) fun e w' => e = .returned (.bool true) ∧ Below (wr.alloc (.cells #[.slice a1 n1 c1, .slice a2 L2.length c2] 72)).heap.size (wr.alloc (.cells #[.slice a1 n1 c1, .slice a2 L2.length c2] 72)) w') := by
          have q := one58 (a1 := a1) (n1 := n1) (c1 := c1) (c2 := c2) (d := c3) HL1.out (S2.out.of_below BU.out) (S3.out.of_below BU.out)
          rw [decide_eq_true hE] at q
          exact q
        have HTT : Hid _ := HT.out hE
        clear HT HF S2 S3 HL1 hE h3 h3'
        generalize L2.length = n2 at *
        generalize L3.length = n3 at *
        go_wp2_with (go_at_call 66; refine hcall.out.mono ?_; rintro e w3 ⟨rfl, hB3⟩)
        go_roundg (gk - 1)
        case measure => omega
        case rel => exact ⟨i + 1, by omega, by go_num, B.out.trans ((BU.out.trans (hB3.mono BU.out.size)).mono B.out.size), HTT.out⟩
      · have hcall : Hid (Calls Tryz.prog 66 #[.agg #[.slice a1 n1 c1, .slice a2 L2.length c2], .slice a3 L3.length c3] (wr.alloc (.cells #[.slice a1 n1 c1, .slice a2 L2.length c2] 72)) fun e w' => e = .returned (.bool false) ∧ Below (wr.alloc (.cells #[.slice a1 n1 c1, .slice a2 L2.length c2] 72)).heap.size (wr.alloc (.cells #[.slice a1 n1 c1, .slice a2 L2.length c2] 72)) w') := by
          have q := one58 (a1 := a1) (n1 := n1) (c1 := c1) (c2 := c2) (d := c3) HL1.out (S2.out.of_below BU.out) (S3.out.of_below BU.out)
          rw [decide_eq_false hE] at q
          exact q
        have HFF : Hid _ := HF.out hE
        clear HT HF S2 S3 HL1 hE h3 h3'
        generalize L2.length = n2 at *
        generalize L3.length = n3 at *
        go_wp2_with (go_at_call 66; refine hcall.out.mono ?_; rintro e w3 ⟨rfl, hB3⟩)
        go_ret
        exact ⟨by rw [HFF.out]; rfl, B.out.trans ((BU.out.trans (hB3.mono BU.out.size)).mono B.out.size)⟩
    · have il : ¬ (i : Int) < (l.length : Int) := by omega
      have e : i = l.length := by omega
      have hT : Hid (decide (l.map Prod.snd = m) = true) := decide_eq_true (by have h := HN.out; rw [e, List.take_length, List.take_of_length_le (Nat.le_of_eq HE.out)] at h; exact h)
      clear e
      go_wp2_with fail
      go_ret
      exact ⟨by rw [hT.out]; rfl, B.out⟩
set_option maxHeartbeats 1000000 in
theorem holds36 {w : World} {a b : Option Addr} {n m c d : Nat} {z : Int} {q : List (List ByteArray)} {t : Bool}
    (C57 : ∀ W, Below w.heap.size w W → Calls Tryz.prog 21 #[.agg #[.int .i64 z, .slice a n c], .slice b m d] W fun e w' => (∃ a' c', e = .returned (.slice a' n c') ∧ SLL w' a' q) ∧ Below W.heap.size W w')
    (C56 : ∀ W a' c', Below w.heap.size w W → SLL W a' q → Calls Tryz.prog 65 #[.slice a n c, .slice a' n c', .func (.func 66) #[] #[]] W fun e w' => e = .returned (.bool t) ∧ Below W.heap.size W w') :
    Calls Tryz.prog 32 #[.agg #[.int .i64 z, .slice a n c], .slice b m d] w fun e w' => e = .returned (.bool t) ∧ Below w.heap.size w w' := by
  have H57 : Hid _ := C57
  have H56 : Hid _ := C56
  clear C57 C56
  generalize hW : w.alloc (.cells #[.int .i64 z, .slice a n c] 41) = U
  have B : Hid (Below w.heap.size w U) := by rw [← hW]; exact (Below.refl _ w).alloc (Nat.le_refl _) _
  have I1 : Hid (IHolds U w.heap.size 41 [.int .i64 z, .slice a n c]) := by rw [← hW]; exact IHolds.new' _ 41 [_, _] rfl
  go_enter Tryz.func32, Tryz.ntmps32
  have k1 : Hid (U.cell? ⟨w.heap.size, 0, none⟩ = some (.int .i64 z)) := I1.out.cell 0 (by simp)
  have k2 : Hid (U.cell? ⟨w.heap.size, 1, none⟩ = some (.slice a n c)) := I1.out.cell 1 (by simp)
  go_wp2_with fail
  refine wp_region_held_drew (S := fun W => W.cell? ⟨w.heap.size, 0, none⟩ = some (.int .i64 z) ∧ W.cell? ⟨w.heap.size, 1, none⟩ = some (.slice a n c)) (by kernel_rfl) ⟨k1.out, k2.out⟩ (fun hHeld => ?_)
  refine tk (i := 0) (v := .pointer (some ⟨w.heap.size, 1, none⟩)) rfl (by kernel_rfl) (fun _ _ _ h => h) rfl ?_ hHeld ?_
  · intro W hS; go_simp
  simp only [Act.put, y1, y2, y3, y4, y5, y6, y7]
  refine tk (i := 1) (v := .slice a n c) rfl (by kernel_rfl) (fun _ _ _ h => h) rfl ?_ hHeld ?_
  · intro W hS; have x5 := hS.2; clear hS; go_simp
  simp only [Act.put, y1, y2, y3, y4, y5, y6, y7]
  refine tk (i := 2) (v := .agg #[.int .i64 z, .slice a n c]) rfl (by kernel_rfl) (fun _ _ _ h => h) rfl ?_ hHeld ?_
  · intro W hS; have x5 := hS.1; have x6 := hS.2; clear hS; go_simp
  simp only [Act.put, y1, y2, y3, y4, y5, y6, y7]
  refine tk (i := 3) (v := .slice b m d) rfl (by kernel_rfl) (fun _ _ _ h => h) rfl ?_ hHeld ?_
  · intro W hS; go_simp
  simp only [Act.put, y1, y2, y3, y4, y5, y6, y7]
  refine wpAnyH_ready (rs := [4]) (by kernel_rfl) (by simp) ?_
  refine AllReadyH.cons rfl (fun K hK => ?_) AllReadyH.nil
  go_simp
  refine (H57.out _ (B.out.trans ((dB U).mono B.out.size))).mono ?_
  rintro e w3 ⟨⟨a', c', rfl, hs3⟩, hB3⟩
  have B3 : Hid (Below w.heap.size w w3) := B.out.drew.trans (hB3.mono B.out.size)
  have k3 : Hid _ := cell_keep (cell_keep k1.out (dB U)) hB3
  have k4 : Hid _ := cell_keep (cell_keep k2.out (dB U)) hB3
  have S3 : Hid (SLL w3 a' q) := hs3
  clear hB3 hs3 H57
  go_wp2_with fail
  refine hK.out _ _ ⟨k3.out, k4.out⟩ (fun hHeld2 => ?_)
  clear hK K hHeld
  try simp only [Act.put, y1, y2, y3, y4, y5, y6, y7]
  refine wpAnyH_ready (rs := [5]) (by kernel_rfl) (by simp) ?_
  refine AllReadyH.cons rfl (fun K hK => ?_) AllReadyH.nil
  go_simp
  refine (H56.out _ a' c' B3.out S3.out).mono ?_
  rintro e w4 ⟨rfl, hB4⟩
  have B4 : Hid (Below w.heap.size w w4) := B3.out.trans (hB4.mono B3.out.size)
  have k5 : Hid _ := cell_keep k3.out hB4
  have k6 : Hid _ := cell_keep k4.out hB4
  clear hB4 H56
  go_wp2_with fail
  refine hK.out _ _ ⟨k5.out, k6.out⟩ (fun hHeld3 => ?_)
  clear hK K hHeld2
  try simp only [Act.put, y1, y2, y3, y4, y5, y6, y7]
  refine tk (i := 6) (v := .bool t) rfl (by kernel_rfl) (fun _ _ _ h => h) rfl ?_ hHeld3 ?_
  · intro W hS; clear hS; go_simp
  simp only [Act.put, y1, y2, y3, y4, y5, y6, y7]
  refine wpAnyH_done (by kernel_rfl) ?_ _
  clear hHeld3
  go_wp2_with fail
  go_ret
  exact ⟨rfl, B4.out⟩
set_option maxHeartbeats 1000000 in
theorem wrongSecrets17_a {w : World} {a b : Option Addr} {n m c d : Nat} {z k : Int} (hk : (k != 0) = true) (C10 : ∀ W, Below w.heap.size w W → Calls Tryz.prog 20 #[.agg #[.int .i64 z, .slice a n c], .slice b m d] W fun e w' => e = .returned (.int .i64 k) ∧ Below W.heap.size W w') :
    Calls Tryz.prog 15 #[.agg #[.int .i64 z, .slice a n c], .slice b m d] w fun e w' => e = .returned (.int .i64 k) ∧ Below w.heap.size w w' := by
  have H10 : Hid _ := C10
  clear C10
  generalize hW : w.alloc (.cells #[.int .i64 z, .slice a n c] 41) = U
  have B : Hid (Below w.heap.size w U) := by rw [← hW]; exact (Below.refl _ w).alloc (Nat.le_refl _) _
  have I1 : Hid (IHolds U w.heap.size 41 [.int .i64 z, .slice a n c]) := by rw [← hW]; exact IHolds.new' _ 41 [_, _] rfl
  go_enter Tryz.func15, Tryz.ntmps15
  have q0 : U.cell? ⟨w.heap.size, 0, none⟩ = some (.int .i64 z) := I1.out.cell 0 (by simp)
  have q1 : U.cell? ⟨w.heap.size, 1, none⟩ = some (.slice a n c) := I1.out.cell 1 (by simp)
  go_wp2_with (go_at_call 20; refine (H10.out _ B.out).mono ?_; rintro e w1 ⟨rfl, hB1⟩)
  go_ret
  exact ⟨rfl, B.out.trans (hB1.mono B.out.size)⟩
set_option maxHeartbeats 1000000 in
theorem wrongSecrets17 {w : World} {a b : Option Addr} {n m c d : Nat} {z : Int} {t : Bool} (C10 : ∀ W, Below w.heap.size w W → Calls Tryz.prog 20 #[.agg #[.int .i64 z, .slice a n c], .slice b m d] W fun e w' => e = .returned (.int .i64 0) ∧ Below W.heap.size W w')
    (C36 : ∀ W, Below w.heap.size w W → Calls Tryz.prog 32 #[.agg #[.int .i64 z, .slice a n c], .slice b m d] W fun e w' => e = .returned (.bool t) ∧ Below W.heap.size W w') :
    Calls Tryz.prog 15 #[.agg #[.int .i64 z, .slice a n c], .slice b m d] w fun e w' => e = .returned (.int .i64 (if t then 0 else 8)) ∧ Below w.heap.size w w' := by
  have H10 : Hid _ := C10
  have H36 : Hid _ := C36
  clear C10 C36
  generalize hW : w.alloc (.cells #[.int .i64 z, .slice a n c] 41) = U
  have B : Hid (Below w.heap.size w U) := by rw [← hW]; exact (Below.refl _ w).alloc (Nat.le_refl _) _
  have I1 : Hid (IHolds U w.heap.size 41 [.int .i64 z, .slice a n c]) := by rw [← hW]; exact IHolds.new' _ 41 [_, _] rfl
  go_enter Tryz.func15, Tryz.ntmps15
  have q0 : U.cell? ⟨w.heap.size, 0, none⟩ = some (.int .i64 z) := I1.out.cell 0 (by simp)
  have q1 : U.cell? ⟨w.heap.size, 1, none⟩ = some (.slice a n c) := I1.out.cell 1 (by simp)
  cases t <;>
  · go_wp2_with (first
      | (go_at_call 20; refine (H10.out _ B.out).mono ?_; rintro e w1 ⟨rfl, hB1⟩; have B1 : Hid (Below w.heap.size w w1) := B.out.trans (hB1.mono B.out.size); have r0 := cell_keep (I1.out.cell 0 (by simp)) hB1; have r1 := cell_keep (I1.out.cell 1 (by simp)) hB1; clear hB1)
      | (go_at_call 32; refine (H36.out _ B1.out).mono ?_; rintro e w2 ⟨rfl, hB2⟩; have B2 : Hid (Below w.heap.size w w2) := B1.out.trans (hB2.mono B1.out.size); clear hB2))
    go_ret
    exact ⟨rfl, B2.out⟩
set_option maxHeartbeats 1000000 in
theorem holds8 {w : World} {a b : Option Addr} {n m c d : Nat} {z k : Int} {t : Bool} (ht : (k == 0) = t) (C9 : ∀ W, Below w.heap.size w W → Calls Tryz.prog 14 #[.int .i64 z, .slice a n c] W fun e w' => e = .returned (.tuple #[.agg #[.int .i64 z, .slice a n c], .int .i64 0]) ∧ Below W.heap.size W w')
    (C17 : ∀ W, Below w.heap.size w W → Calls Tryz.prog 15 #[.agg #[.int .i64 z, .slice a n c], .slice b m d] W fun e w' => e = .returned (.int .i64 k) ∧ Below W.heap.size W w') :
    Calls Tryz.prog 5 #[.int .i64 z, .slice a n c, .slice b m d] w fun e w' => e = .returned (.bool t) ∧ Below w.heap.size w w' := by
  have H9 : Hid _ := C9
  have H17 : Hid _ := C17
  clear C9 C17
  go_enter Tryz.func5, Tryz.ntmps5
  go_wp2_with (first
    | (go_at_call 14; refine (H9.out _ (Below.refl _ _)).mono ?_; rintro e w1 ⟨rfl, hB1⟩; have B1 : Hid (Below w.heap.size w (w1.alloc (.cells #[.int .i64 z, .slice a n c] 41))) := hB1.alloc hB1.size _; have I1 : Hid (IHolds (w1.alloc (.cells #[.int .i64 z, .slice a n c] 41)) w1.heap.size 41 [.int .i64 z, .slice a n c]) := IHolds.new _ _ _; clear hB1 H9)
    | (go_at_call 15; refine (H17.out _ B1.out).mono ?_; rintro e w2 ⟨rfl, hB2⟩; have B2 : Hid (Below w.heap.size w w2) := B1.out.trans (hB2.mono B1.out.size); clear hB2))
  go_ret
  exact ⟨by rw [← ht]; rfl, B2.out⟩
end Go.Proofs.YtfbceknafmkipaaGreat
