/- Whether claims hold with secrets: the firsts of the secrets are the images. Sets of claims where nothing is wrong. Claims whatever they are: what is wrong with them. Powers of bases, and what comes back: the closures of sigma's sets. -/
import Derived.Test.YtmpiipcllgjhdaaGreatDoorY05
import Derived.Test.YtmpiipcllgjhdaaGreatDoorY02
set_option linter.unusedSimpArgs false
set_option linter.unusedVariables false
set_option maxRecDepth 100000
namespace Go.Proofs.YtmpiipcllgjhdaaGreatDoor
open Go.RowKit Go.Deep Go.PlainAid

set_option maxHeartbeats 1000000 in
theorem one58 {w : World} {a1 a2 b : Option Addr} {n1 c1 c2 d : Nat} {l m : List ByteArray} (hl : l.length ≤ 9223372036854775807) (hs : SL w a2 l) (hm : SL w b m) :
    Calls Tryz.prog 76 #[.agg #[.slice a1 n1 c1, .slice a2 l.length c2], .slice b m.length d] w fun e w' => e = .returned (.bool (decide (l = m))) ∧ Below w.heap.size w w' := by
  generalize hW : w.alloc (.cells #[.slice a1 n1 c1, .slice a2 l.length c2] 36) = U
  have B : Hid (Below w.heap.size w U) := by rw [← hW]; exact (Below.refl _ w).alloc (Nat.le_refl _) _
  have I1 : Hid (IHolds U w.heap.size 36 [.slice a1 n1 c1, .slice a2 l.length c2]) := by rw [← hW]; exact IHolds.new' _ 36 [_, _] rfl
  have hcall : Hid (∀ W, Below w.heap.size w W → Calls Tryz.prog 77 #[.slice a2 l.length c2, .slice b m.length d] W fun e w' => e = .returned (.bool (decide (l = m))) ∧ Below W.heap.size W w') := fun W hb => equal66 hl (hs.of_below hb) (hm.of_below hb)
  clear hs hm hl
  generalize decide (l = m) = t at *
  generalize l.length = n2 at *
  generalize m.length = n3 at *
  go_enter Tryz.func76, Tryz.ntmps76
  have q1 : U.cell? ⟨w.heap.size, 1, none⟩ = some (.slice a2 n2 c2) := I1.out.cell 1 (by simp)
  go_wp2_with (go_at_call 77; refine (hcall.out _ B.out).mono ?_; rintro e w1 ⟨rfl, hB1⟩)
  go_ret
  exact ⟨rfl, B.out.trans (hB1.mono B.out.size)⟩
set_option maxHeartbeats 2000000 in
theorem equal56 {w : World} {a b : Option Addr} {l : List Cl} {m : List (List ByteArray)} {c d : Nat} (hl : l.length ≤ 64) (hlr : ∀ i (h : i < l.length), (l[i]).2.length ≤ 9223372036854775807) (hlen : m.length = l.length) (hs : CM w a l) (hm : SLL w b m) :
    Calls Tryz.prog 75 #[.slice a l.length c, .slice b l.length d, .func (.func 76) #[] #[]] w fun e w' => e = .returned (.bool (decide (l.map Prod.snd = m))) ∧ Below w.heap.size w w' := by
  have HS : Hid (CM w a l) := hs
  have HM : Hid (SLL w b m) := hm
  have HE : Hid (m.length = l.length) := hlen
  have HR : Hid _ := hlr
  have k0 : ((l.length : Int) != (l.length : Int)) = false := by simp
  clear hs hm hlen hlr
  go_enter Tryz.func75, Tryz.ntmps75
  go_wp2_with fail
  go_loopg [7, 8, 9, 17] l.length (fun gk v7 v8 v9 v17 wr => ∃ i : Nat, i + gk = l.length ∧ v17 = .int .i64 (i : Int) ∧ Below w.heap.size w wr ∧ (l.take i).map Prod.snd = m.take i)
  case atStart => exact ⟨0, by omega, rfl, Below.refl _ _, by simp⟩
  case round =>
    obtain ⟨i, hig, rfl, hB, hn⟩ := hrel
    have B : Hid (Below w.heap.size w wr) := hB
    have HN : Hid ((l.take i).map Prod.snd = m.take i) := hn
    clear hB hn
    by_cases hi : i < l.length
    · have hi2 : i < m.length := by have := HE.out; omega
      obtain ⟨b1, o1, a1, c1, a2, c2, rfl, h1, h2, s1, s2⟩ := HS.out.of_below B.out i hi
      obtain ⟨b3, o3, a3, c3, rfl, h3, s3⟩ := HM.out.of_below B.out i hi2
      have il : (i : Int) < (l.length : Int) := by omega
      have HT : Hid ((l[i]).2 = m[i] → (l.take (i + 1)).map Prod.snd = m.take (i + 1)) := fun h => by rw [List.take_succ_eq_append_getElem hi, List.take_succ_eq_append_getElem hi2, List.map_append, HN.out, List.map_singleton, h]
      have HF : Hid ((l[i]).2 ≠ m[i] → decide (l.map Prod.snd = m) = false) := fun h => decide_eq_false (fun e => h (by subst e; simp))
      have HL1 : Hid ((l[i]).2.length ≤ 9223372036854775807) := HR.out i hi
      have S2 : Hid (SL wr a2 (l[i]).2) := s2
      have S3 : Hid (SL wr a3 m[i]) := s3.sk.sl
      clear s1 s2 s3
      generalize (l[i]).1.length = n1 at *
      generalize (l[i]).2 = L2 at *
      generalize m[i] = L3 at *
      clear hi2
      have U := wr.alloc (.cells #[.slice a1 n1 c1, .slice a2 L2.length c2] 36)
      clear U
      have BU : Hid (Below wr.heap.size wr (wr.alloc (.cells #[.slice a1 n1 c1, .slice a2 L2.length c2] 36))) := (Below.refl _ wr).alloc (Nat.le_refl _) _
      have h3' : Hid _ := h3
      have k3 : (wr.alloc (.cells #[.slice a1 n1 c1, .slice a2 L2.length c2] 36)).cell? ⟨b3, o3 + i, none⟩ = some (.slice a3 L3.length c3) := cell_keep h3 BU.out
      have IU : Hid (IHolds (wr.alloc (.cells #[.slice a1 n1 c1, .slice a2 L2.length c2] 36)) wr.heap.size 36 [.slice a1 n1 c1, .slice a2 L2.length c2]) := IHolds.new wr 36 [_, _]
      by_cases hE : L2 = L3
      · have hcall : Hid (Calls Tryz.prog 76 #[.agg #[.slice a1 n1 c1, .slice a2 L2.length c2], .slice a3 L3.length c3] (wr.alloc (.cells #[.slice a1 n1 c1, .slice a2 L2.length c2] 36)) fun e w' => e = .returned (.bool true) ∧ Below (wr.alloc (.cells #[.slice a1 n1 c1, .slice a2 L2.length c2] 36)).heap.size (wr.alloc (.cells #[.slice a1 n1 c1, .slice a2 L2.length c2] 36)) w') := by
          have q := one58 (a1 := a1) (n1 := n1) (c1 := c1) (c2 := c2) (d := c3) HL1.out (S2.out.of_below BU.out) (S3.out.of_below BU.out)
          rw [decide_eq_true hE] at q
          exact q
        have HTT : Hid _ := HT.out hE
        clear HT HF S2 S3 HL1 hE h3 h3'
        generalize L2.length = n2 at *
        generalize L3.length = n3 at *
        go_wp2_with (go_at_call 76; refine hcall.out.mono ?_; rintro e w3 ⟨rfl, hB3⟩)
        go_roundg (gk - 1)
        case measure => omega
        case rel => exact ⟨i + 1, by omega, by go_num, B.out.trans ((BU.out.trans (hB3.mono BU.out.size)).mono B.out.size), HTT.out⟩
      · have hcall : Hid (Calls Tryz.prog 76 #[.agg #[.slice a1 n1 c1, .slice a2 L2.length c2], .slice a3 L3.length c3] (wr.alloc (.cells #[.slice a1 n1 c1, .slice a2 L2.length c2] 36)) fun e w' => e = .returned (.bool false) ∧ Below (wr.alloc (.cells #[.slice a1 n1 c1, .slice a2 L2.length c2] 36)).heap.size (wr.alloc (.cells #[.slice a1 n1 c1, .slice a2 L2.length c2] 36)) w') := by
          have q := one58 (a1 := a1) (n1 := n1) (c1 := c1) (c2 := c2) (d := c3) HL1.out (S2.out.of_below BU.out) (S3.out.of_below BU.out)
          rw [decide_eq_false hE] at q
          exact q
        have HFF : Hid _ := HF.out hE
        clear HT HF S2 S3 HL1 hE h3 h3'
        generalize L2.length = n2 at *
        generalize L3.length = n3 at *
        go_wp2_with (go_at_call 76; refine hcall.out.mono ?_; rintro e w3 ⟨rfl, hB3⟩)
        go_ret
        exact ⟨by rw [HFF.out]; rfl, B.out.trans ((BU.out.trans (hB3.mono BU.out.size)).mono B.out.size)⟩
    · have il : ¬ (i : Int) < (l.length : Int) := by omega
      have e : i = l.length := by omega
      have hT : Hid (decide (l.map Prod.snd = m) = true) := decide_eq_true (by have h := HN.out; rw [e, List.take_length, List.take_of_length_le (Nat.le_of_eq HE.out)] at h; exact h)
      clear e
      go_wp2_with fail
      go_ret
      exact ⟨by rw [hT.out]; rfl, B.out⟩
set_option maxHeartbeats 1000000 in
theorem holds36 {w : World} {a b : Option Addr} {n m c d : Nat} {z : Int} {q : List (List ByteArray)} {t : Bool}
    (C57 : ∀ W, Below w.heap.size w W → Calls Tryz.prog 47 #[.agg #[.int .i64 z, .slice a n c], .slice b m d] W fun e w' => (∃ a' c', e = .returned (.slice a' n c') ∧ SLL w' a' q) ∧ Below W.heap.size W w')
    (C56 : ∀ W a' c', Below w.heap.size w W → SLL W a' q → Calls Tryz.prog 75 #[.slice a n c, .slice a' n c', .func (.func 76) #[] #[]] W fun e w' => e = .returned (.bool t) ∧ Below W.heap.size W w') :
    Calls Tryz.prog 42 #[.agg #[.int .i64 z, .slice a n c], .slice b m d] w fun e w' => e = .returned (.bool t) ∧ Below w.heap.size w w' := by
  have H57 : Hid _ := C57
  have H56 : Hid _ := C56
  clear C57 C56
  generalize hW : w.alloc (.cells #[.int .i64 z, .slice a n c] 53) = U
  have B : Hid (Below w.heap.size w U) := by rw [← hW]; exact (Below.refl _ w).alloc (Nat.le_refl _) _
  have I1 : Hid (IHolds U w.heap.size 53 [.int .i64 z, .slice a n c]) := by rw [← hW]; exact IHolds.new' _ 53 [_, _] rfl
  go_enter Tryz.func42, Tryz.ntmps42
  have k1 : Hid (U.cell? ⟨w.heap.size, 0, none⟩ = some (.int .i64 z)) := I1.out.cell 0 (by simp)
  have k2 : Hid (U.cell? ⟨w.heap.size, 1, none⟩ = some (.slice a n c)) := I1.out.cell 1 (by simp)
  go_wp2_with fail
  refine wp_region_held_drew (S := fun W => W.cell? ⟨w.heap.size, 0, none⟩ = some (.int .i64 z) ∧ W.cell? ⟨w.heap.size, 1, none⟩ = some (.slice a n c)) (by kernel_rfl) ⟨k1.out, k2.out⟩ (fun hHeld => ?_)
  refine tk (i := 0) (v := .pointer (some ⟨w.heap.size, 1, none⟩)) rfl (by kernel_rfl) (fun _ _ _ h => h) rfl ?_ hHeld ?_
  · intro W hS; go_simp
  simp only [Act.put, y1, y2, y3, y4, y5, y6, y7]
  refine tk (i := 1) (v := .slice a n c) rfl (by kernel_rfl) (fun _ _ _ h => h) rfl ?_ hHeld ?_
  · intro W hS; have x5 := hS.2; clear hS; go_simp
  simp only [Act.put, y1, y2, y3, y4, y5, y6, y7]
  refine tk (i := 2) (v := .agg #[.int .i64 z, .slice a n c]) rfl (by kernel_rfl) (fun _ _ _ h => h) rfl ?_ hHeld ?_
  · intro W hS; have x5 := hS.1; have x6 := hS.2; clear hS; go_simp
  simp only [Act.put, y1, y2, y3, y4, y5, y6, y7]
  refine tk (i := 3) (v := .slice b m d) rfl (by kernel_rfl) (fun _ _ _ h => h) rfl ?_ hHeld ?_
  · intro W hS; go_simp
  simp only [Act.put, y1, y2, y3, y4, y5, y6, y7]
  refine wpAnyH_ready (rs := [4]) (by kernel_rfl) (by simp) ?_
  refine AllReadyH.cons rfl (fun K hK => ?_) AllReadyH.nil
  go_simp
  refine (H57.out _ (B.out.trans ((dB U).mono B.out.size))).mono ?_
  rintro e w3 ⟨⟨a', c', rfl, hs3⟩, hB3⟩
  have B3 : Hid (Below w.heap.size w w3) := B.out.drew.trans (hB3.mono B.out.size)
  have k3 : Hid _ := cell_keep (cell_keep k1.out (dB U)) hB3
  have k4 : Hid _ := cell_keep (cell_keep k2.out (dB U)) hB3
  have S3 : Hid (SLL w3 a' q) := hs3
  clear hB3 hs3 H57
  go_wp2_with fail
  refine hK.out _ _ ⟨k3.out, k4.out⟩ (fun hHeld2 => ?_)
  clear hK K hHeld
  try simp only [Act.put, y1, y2, y3, y4, y5, y6, y7]
  refine wpAnyH_ready (rs := [5]) (by kernel_rfl) (by simp) ?_
  refine AllReadyH.cons rfl (fun K hK => ?_) AllReadyH.nil
  go_simp
  refine (H56.out _ a' c' B3.out S3.out).mono ?_
  rintro e w4 ⟨rfl, hB4⟩
  have B4 : Hid (Below w.heap.size w w4) := B3.out.trans (hB4.mono B3.out.size)
  have k5 : Hid _ := cell_keep k3.out hB4
  have k6 : Hid _ := cell_keep k4.out hB4
  clear hB4 H56
  go_wp2_with fail
  refine hK.out _ _ ⟨k5.out, k6.out⟩ (fun hHeld3 => ?_)
  clear hK K hHeld2
  try simp only [Act.put, y1, y2, y3, y4, y5, y6, y7]
  refine tk (i := 6) (v := .bool t) rfl (by kernel_rfl) (fun _ _ _ h => h) rfl ?_ hHeld3 ?_
  · intro W hS; clear hS; go_simp
  simp only [Act.put, y1, y2, y3, y4, y5, y6, y7]
  refine wpAnyH_done (by kernel_rfl) ?_ _
  clear hHeld3
  go_wp2_with fail
  go_ret
  exact ⟨rfl, B4.out⟩
set_option maxHeartbeats 1000000 in
theorem wrongSecrets17 {w : World} {a b : Option Addr} {n m c d : Nat} {z : Int} {t : Bool} (C10 : ∀ W, Below w.heap.size w W → Calls Tryz.prog 41 #[.agg #[.int .i64 z, .slice a n c], .slice b m d] W fun e w' => e = .returned (.int .i64 0) ∧ Below W.heap.size W w')
    (C36 : ∀ W, Below w.heap.size w W → Calls Tryz.prog 42 #[.agg #[.int .i64 z, .slice a n c], .slice b m d] W fun e w' => e = .returned (.bool t) ∧ Below W.heap.size W w') :
    Calls Tryz.prog 19 #[.agg #[.int .i64 z, .slice a n c], .slice b m d] w fun e w' => e = .returned (.int .i64 (if t then 0 else 8)) ∧ Below w.heap.size w w' := by
  have H10 : Hid _ := C10
  have H36 : Hid _ := C36
  clear C10 C36
  generalize hW : w.alloc (.cells #[.int .i64 z, .slice a n c] 53) = U
  have B : Hid (Below w.heap.size w U) := by rw [← hW]; exact (Below.refl _ w).alloc (Nat.le_refl _) _
  have I1 : Hid (IHolds U w.heap.size 53 [.int .i64 z, .slice a n c]) := by rw [← hW]; exact IHolds.new' _ 53 [_, _] rfl
  go_enter Tryz.func19, Tryz.ntmps19
  have q0 : U.cell? ⟨w.heap.size, 0, none⟩ = some (.int .i64 z) := I1.out.cell 0 (by simp)
  have q1 : U.cell? ⟨w.heap.size, 1, none⟩ = some (.slice a n c) := I1.out.cell 1 (by simp)
  cases t <;>
  · go_wp2_with (first
      | (go_at_call 41; refine (H10.out _ B.out).mono ?_; rintro e w1 ⟨rfl, hB1⟩; have B1 : Hid (Below w.heap.size w w1) := B.out.trans (hB1.mono B.out.size); have r0 := cell_keep (I1.out.cell 0 (by simp)) hB1; have r1 := cell_keep (I1.out.cell 1 (by simp)) hB1; clear hB1)
      | (go_at_call 42; refine (H36.out _ B1.out).mono ?_; rintro e w2 ⟨rfl, hB2⟩; have B2 : Hid (Below w.heap.size w w2) := B1.out.trans (hB2.mono B1.out.size); clear hB2))
    go_ret
    exact ⟨rfl, B2.out⟩
set_option maxHeartbeats 1000000 in
theorem holds8 {w : World} {a b : Option Addr} {n m c d : Nat} {z k : Int} {t : Bool} (ht : (k == 0) = t) (C9 : ∀ W, Below w.heap.size w W → Calls Tryz.prog 18 #[.int .i64 z, .slice a n c] W fun e w' => e = .returned (.tuple #[.agg #[.int .i64 z, .slice a n c], .int .i64 0]) ∧ Below W.heap.size W w')
    (C17 : ∀ W, Below w.heap.size w W → Calls Tryz.prog 19 #[.agg #[.int .i64 z, .slice a n c], .slice b m d] W fun e w' => e = .returned (.int .i64 k) ∧ Below W.heap.size W w') :
    Calls Tryz.prog 7 #[.int .i64 z, .slice a n c, .slice b m d] w fun e w' => e = .returned (.bool t) ∧ Below w.heap.size w w' := by
  have H9 : Hid _ := C9
  have H17 : Hid _ := C17
  clear C9 C17
  go_enter Tryz.func7, Tryz.ntmps7
  go_wp2_with (first
    | (go_at_call 18; refine (H9.out _ (Below.refl _ _)).mono ?_; rintro e w1 ⟨rfl, hB1⟩; have B1 : Hid (Below w.heap.size w (w1.alloc (.cells #[.int .i64 z, .slice a n c] 53))) := hB1.alloc hB1.size _; have I1 : Hid (IHolds (w1.alloc (.cells #[.int .i64 z, .slice a n c] 53)) w1.heap.size 53 [.int .i64 z, .slice a n c]) := IHolds.new _ _ _; clear hB1 H9)
    | (go_at_call 19; refine (H17.out _ B1.out).mono ?_; rintro e w2 ⟨rfl, hB2⟩; have B2 : Hid (Below w.heap.size w w2) := B1.out.trans (hB2.mono B1.out.size); clear hB2))
  go_ret
  exact ⟨by rw [← ht]; rfl, B2.out⟩
end Go.Proofs.YtmpiipcllgjhdaaGreatDoor
namespace Go.Proofs.YtmpiipcllgjhdaaGreatDoor
open Go.RowKit Go.Deep Go.PlainAid

/-- Claims with which nothing is wrong. -/
structure OkC (p : ByteArray → Bool) (l : List Cl) : Prop where
  pos : 0 < l.length
  most : l.length ≤ 64
  few : ∀ i (h : i < l.length), (l[i]).1.length ≤ 8 ∧ 0 < (l[i]).1.length ∧ (l[i]).2.length = (l[i]).1.length
  el : ∀ i (h : i < l.length), (l[i]).1.all p = true ∧ (l[i]).2.all p = true
set_option maxHeartbeats 2000000 in
theorem set83 {w : World} {a : Option Addr} {l : List Cl} {c : Nat} {z : Int} {p : ByteArray → Bool} (ok : OkC p l) (hs : CM w a l)
    (CN : ∀ s W, Calls Tryz.prog 138 #[.agg #[.int .i64 z], .string s] W fun e w' => e = .returned (.bool (!p s)) ∧ Below W.heap.size W w') :
    Calls Tryz.prog 40 #[.agg #[.int .i64 z], .slice a l.length c] w fun e w' => e = .returned (.tuple #[.agg #[.int .i64 z, .slice a l.length c], .int .i64 0]) ∧ Below w.heap.size w w' := by
  have hn := ok.most
  have hmf : ∀ (fn : Fn) (first cap : Array Value) (w : World), (Instr.makeFunc fn first cap).run Tryz.prog w = .ok (.func fn first cap) w := fun _ _ _ _ => rfl
  have H1 : Hid (∀ W, Below w.heap.size w W → Calls Tryz.prog 71 #[.slice a l.length c, .func (.func 72) #[] #[]] W fun e w' => e = .returned (.bool false) ∧ Below W.heap.size W w') := fun W hB => contains111_112 (by omega) (hs.of_below hB) (fun i hi a1 c1 a2 c2 V hV h1 h2 => tooLong112 (ok.few i hi).1 (by have := (ok.few i hi); omega))
  have H2 : Hid (∀ W, Below w.heap.size w W → Calls Tryz.prog 71 #[.slice a l.length c, .func (.func 73) #[] #[]] W fun e w' => e = .returned (.bool false) ∧ Below W.heap.size W w') := fun W hB => contains111_113 (by omega) (hs.of_below hB) (fun i hi a1 c1 a2 c2 V hV h1 h2 => by rw [(ok.few i hi).2.2]; exact uneven113 (ok.few i hi).2.1)
  have H3 : Hid (∀ W, Below w.heap.size w W → Calls Tryz.prog 71 #[.slice a l.length c, .func (.func 74) #[.agg #[.int .i64 z]] #[]] W fun e w' => e = .returned (.bool false) ∧ Below W.heap.size W w') := fun W hB => contains111_114 (by omega) (hs.of_below hB) (fun i hi a1 c1 a2 c2 V hV h1 h2 => strange114
    (fun X hX => by have q := elems127 (w := X) (c := c1) p (by have := (ok.few i hi).1; omega) (h1.of_below hX) CN; rw [(ok.el i hi).1] at q; exact q)
    (fun X hX => by have q := elems127 (w := X) (c := c2) p (by have := ok.few i hi; omega) (h2.of_below hX) CN; rw [(ok.el i hi).2] at q; exact q))
  have g1 : ¬ (64 : Int) < (l.length : Int) := by omega
  have g2 : ((l.length : Int) == 0) = false := beq_eq_false_iff_ne.2 (by have := ok.pos; omega)
  clear CN hs ok hn
  generalize l.length = n at *
  generalize hW : (w.alloc (.cells #[.int .i64 z] 51)).alloc (.cells #[.int .i64 0, .slice none 0 0] 53) = U
  have B : Hid (Below w.heap.size w U) := by rw [← hW]; exact ((Below.refl _ w).alloc (Nat.le_refl _) _).alloc (by simp) _
  have I0 : Hid (IHolds U w.heap.size 51 [.int .i64 z]) := by rw [← hW]; exact (IHolds.new w 51 [.int .i64 z]).alloc _
  have I1 : Hid (IHolds U (w.heap.size + 1) 53 [.int .i64 0, .slice none 0 0]) := by rw [← hW]; exact IHolds.new' _ 53 [_, _] (by simp)
  go_enter Tryz.func40, Tryz.ntmps40
  go_wp2_with (go_at_call 71; first
    | (refine (H1.out _ B.out).mono ?_; rintro e w1 ⟨rfl, hB1⟩; have B1 : Hid (Below w.heap.size w w1) := B.out.trans (hB1.mono B.out.size); have J0 : Hid (IHolds w1 w.heap.size 51 [.int .i64 z]) := I0.out.of_below hB1; have J1 : Hid (IHolds w1 (w.heap.size + 1) 53 [.int .i64 0, .slice none 0 0]) := I1.out.of_below hB1; clear hB1 H1)
    | (refine (H2.out _ B1.out).mono ?_; rintro e w2 ⟨rfl, hB2⟩; have B2 : Hid (Below w.heap.size w w2) := B1.out.trans (hB2.mono B1.out.size); have K0 : Hid (IHolds w2 w.heap.size 51 [.int .i64 z]) := J0.out.of_below hB2; have K1 : Hid (IHolds w2 (w.heap.size + 1) 53 [.int .i64 0, .slice none 0 0]) := J1.out.of_below hB2; have q0 : w2.cell? ⟨w.heap.size, 0, none⟩ = some (.int .i64 z) := K0.out.cell 0 (by simp); clear hB2 H2)
    | (refine (H3.out _ B2.out).mono ?_; rintro e w3 ⟨rfl, hB3⟩; have B3 : Hid (Below w.heap.size w w3) := B2.out.trans (hB3.mono B2.out.size); have L0 : Hid (IHolds w3 w.heap.size 51 [.int .i64 z]) := K0.out.of_below hB3; have L1 : Hid (IHolds w3 (w.heap.size + 1) 53 [.int .i64 0, .slice none 0 0]) := K1.out.of_below hB3; have r0 : w3.cell? ⟨w.heap.size, 0, none⟩ = some (.int .i64 z) := L0.out.cell 0 (by simp); have r1 : w3.cell? ⟨w.heap.size + 1, 0, none⟩ = some (.int .i64 0) := L1.out.cell 0 (by simp); have r2 : w3.cell? ⟨w.heap.size + 1, 1, none⟩ = some (.slice none 0 0) := L1.out.cell 1 (by simp); have f := L1.out.frozen; clear hB3 H3))
  have I9 : Hid (IHolds ((w3.setCell ⟨w.heap.size + 1, 0, none⟩ (.int .i64 z)).setCell ⟨w.heap.size + 1, 1, none⟩ (.slice a n c)) (w.heap.size + 1) 53 [.int .i64 z, .slice a n c]) := (L1.out.set 0 (.int .i64 z)).set 1 (.slice a n c)
  have B9 : Hid (Below w.heap.size w ((w3.setCell ⟨w.heap.size + 1, 0, none⟩ (.int .i64 z)).setCell ⟨w.heap.size + 1, 1, none⟩ (.slice a n c))) := (B3.out.setCell (by simp) _).setCell (by simp) _
  generalize (w3.setCell ⟨w.heap.size + 1, 0, none⟩ (.int .i64 z)).setCell ⟨w.heap.size + 1, 1, none⟩ (.slice a n c) = w9 at *
  have E0 : w9.cell? ⟨w.heap.size + 1, 0, none⟩ = some (.int .i64 z) := I9.out.cell 0 (by simp)
  have E1 : w9.cell? ⟨w.heap.size + 1, 1, none⟩ = some (.slice a n c) := I9.out.cell 1 (by simp)
  exact bodyPost_ret (v := .tuple #[.agg #[.int .i64 z, .slice a n c], .int .i64 0]) (by simp [results, Tryz.results40, go_sem, E0, E1]) rfl ⟨rfl, B9.out⟩
set_option maxHeartbeats 2000000 in
theorem setOf42 {w : World} {a : Option Addr} {n c : Nat} {z : Int} (CG : ∀ W, Calls Tryz.prog 39 #[.int .i64 z] W fun e w' => e = .returned (.tuple #[.agg #[.int .i64 z], .int .i64 0]) ∧ Below W.heap.size W w')
    (CS : ∀ W, Below w.heap.size w W → Calls Tryz.prog 40 #[.agg #[.int .i64 z], .slice a n c] W fun e w' => e = .returned (.tuple #[.agg #[.int .i64 z, .slice a n c], .int .i64 0]) ∧ Below W.heap.size W w') :
    Calls Tryz.prog 18 #[.int .i64 z, .slice a n c] w fun e w' => e = .returned (.tuple #[.agg #[.int .i64 z, .slice a n c], .int .i64 0]) ∧ Below w.heap.size w w' := by
  have HG : Hid _ := CG
  have HC : Hid _ := CS
  clear CG CS
  generalize hW : w.alloc (.cells #[.int .i64 0, .slice none 0 0] 53) = U
  have B : Hid (Below w.heap.size w U) := by rw [← hW]; exact (Below.refl _ w).alloc (Nat.le_refl _) _
  have I0 : Hid (IHolds U w.heap.size 53 [.int .i64 0, .slice none 0 0]) := by rw [← hW]; exact IHolds.new w 53 [.int .i64 0, .slice none 0 0]
  go_enter Tryz.func18, Tryz.ntmps18
  go_wp2_with (first
    | (go_at_call 39; refine (HG.out _).mono ?_; rintro e w1 ⟨rfl, hB1⟩; have B1 : Hid (Below w.heap.size w (w1.alloc (.cells #[.int .i64 z] 51))) := (B.out.trans (hB1.mono B.out.size)).alloc (B.out.trans (hB1.mono B.out.size)).size _; have J0 : Hid (IHolds (w1.alloc (.cells #[.int .i64 z] 51)) w.heap.size 53 [.int .i64 0, .slice none 0 0]) := (I0.out.of_below hB1).alloc _; clear hB1 HG)
    | (go_at_call 40; refine (HC.out _ B1.out).mono ?_; rintro e w2 ⟨rfl, hB2⟩; have B2 : Hid (Below w.heap.size w w2) := B1.out.trans (hB2.mono B1.out.size); have K0 : Hid (IHolds w2 w.heap.size 53 [.int .i64 0, .slice none 0 0]) := J0.out.of_below hB2; have q0 : w2.cell? ⟨w.heap.size, 0, none⟩ = some (.int .i64 0) := K0.out.cell 0 (by simp); have q1 : w2.cell? ⟨w.heap.size, 1, none⟩ = some (.slice none 0 0) := K0.out.cell 1 (by simp); have f := K0.out.frozen; clear hB2 HC))
  have I9 : Hid (IHolds ((w2.setCell ⟨w.heap.size, 0, none⟩ (.int .i64 z)).setCell ⟨w.heap.size, 1, none⟩ (.slice a n c)) w.heap.size 53 [.int .i64 z, .slice a n c]) := (K0.out.set 0 (.int .i64 z)).set 1 (.slice a n c)
  have B9 : Hid (Below w.heap.size w ((w2.setCell ⟨w.heap.size, 0, none⟩ (.int .i64 z)).setCell ⟨w.heap.size, 1, none⟩ (.slice a n c))) := (B2.out.setCell (Nat.le_refl _) _).setCell (Nat.le_refl _) _
  generalize (w2.setCell ⟨w.heap.size, 0, none⟩ (.int .i64 z)).setCell ⟨w.heap.size, 1, none⟩ (.slice a n c) = w9 at *
  have E0 : w9.cell? ⟨w.heap.size, 0, none⟩ = some (.int .i64 z) := I9.out.cell 0 (by simp)
  have E1 : w9.cell? ⟨w.heap.size, 1, none⟩ = some (.slice a n c) := I9.out.cell 1 (by simp)
  exact bodyPost_ret (v := .tuple #[.agg #[.int .i64 z, .slice a n c], .int .i64 0]) (by simp [results, Tryz.results18, go_sem, E0, E1]) rfl ⟨rfl, B9.out⟩
theorem wrong43 {w : World} {a b : Option Addr} {n c d : Nat} {z : Int} {t : Bool} (CS : ∀ W, Below w.heap.size w W → Calls Tryz.prog 59 #[.agg #[.int .i64 z], .slice b n d] W fun e w' => e = .returned (.bool t) ∧ Below W.heap.size W w') :
    Calls Tryz.prog 41 #[.agg #[.int .i64 z, .slice a n c], .slice b n d] w fun e w' => e = .returned (.int .i64 (if t then 0 else 6)) ∧ Below w.heap.size w w' := by
  have HC : Hid _ := CS
  clear CS
  have B : Hid (Below w.heap.size w (w.alloc (.cells #[.int .i64 z, .slice a n c] 53))) := (Below.refl _ w).alloc (Nat.le_refl _) _
  have k2 : ((n : Int) != (n : Int)) = false := by simp
  cases t with
  | true =>
    go_enter Tryz.func41, Tryz.ntmps41
    go_wp2_with (go_at_call 59; refine (HC.out _ B.out).mono ?_; rintro e w1 ⟨rfl, hB1⟩)
    go_ret
    exact ⟨rfl, B.out.trans (hB1.mono B.out.size)⟩
  | false =>
    go_enter Tryz.func41, Tryz.ntmps41
    go_wp2_with (go_at_call 59; refine (HC.out _ B.out).mono ?_; rintro e w1 ⟨rfl, hB1⟩)
    go_ret
    exact ⟨rfl, B.out.trans (hB1.mono B.out.size)⟩
end Go.Proofs.YtmpiipcllgjhdaaGreatDoor
namespace Go.Proofs.YtmpiipcllgjhdaaGreatDoor
open Go.RowKit Go.Deep Go.PlainAid

def tooL (t : Cl) : Bool := decide (8 < t.1.length) || decide (8 < t.2.length)
def unev (t : Cl) : Bool := decide (t.1.length = 0) || decide (t.2.length ≠ t.1.length)
def stra (p : ByteArray → Bool) (t : Cl) : Bool := !t.1.all p || !t.2.all p
theorem tooLong38 {w : World} {a1 a2 : Option Addr} {t : Cl} {c1 c2 : Nat} : Calls Tryz.prog 72 #[.agg #[.slice a1 t.1.length c1, .slice a2 t.2.length c2]] w fun e w' => e = .returned (.bool (tooL t)) ∧ Below w.heap.size w w' := by
  unfold tooL
  generalize t.1.length = n1
  generalize t.2.length = n2
  have J : Hid (Below w.heap.size w (w.alloc (.cells #[.slice a1 n1 c1, .slice a2 n2 c2] 36))) := (Below.refl _ w).alloc (Nat.le_refl _) _
  by_cases h1 : 8 < n1
  · have k1 : (8 : Int) < (n1 : Int) := by omega
    have hr : Hid ((decide (8 < n1) || decide (8 < n2)) = true) := by show _ = _; simp [h1]
    clear h1
    go_enter Tryz.func72, Tryz.ntmps72
    go_wp2_with fail
    go_ret
    exact ⟨by rw [hr.out]; rfl, J.out⟩
  · have k1 : ¬ (8 : Int) < (n1 : Int) := by omega
    by_cases h2 : 8 < n2
    · have k2 : (8 : Int) < (n2 : Int) := by omega
      have hr : Hid ((decide (8 < n1) || decide (8 < n2)) = true) := by show _ = _; simp [h2]
      clear h1 h2
      go_enter Tryz.func72, Tryz.ntmps72
      go_wp2_with fail
      go_ret
      exact ⟨by rw [hr.out]; rfl, J.out⟩
    · have k2 : ¬ (8 : Int) < (n2 : Int) := by omega
      have hr : Hid ((decide (8 < n1) || decide (8 < n2)) = false) := by show _ = _; simp [h1, h2]
      clear h1 h2
      go_enter Tryz.func72, Tryz.ntmps72
      go_wp2_with fail
      go_ret
      exact ⟨by rw [hr.out]; rfl, J.out⟩
theorem uneven39 {w : World} {a1 a2 : Option Addr} {t : Cl} {c1 c2 : Nat} : Calls Tryz.prog 73 #[.agg #[.slice a1 t.1.length c1, .slice a2 t.2.length c2]] w fun e w' => e = .returned (.bool (unev t)) ∧ Below w.heap.size w w' := by
  unfold unev
  generalize t.1.length = n1
  generalize t.2.length = n2
  have J : Hid (Below w.heap.size w (w.alloc (.cells #[.slice a1 n1 c1, .slice a2 n2 c2] 36))) := (Below.refl _ w).alloc (Nat.le_refl _) _
  by_cases h1 : n1 = 0
  · have k1 : ((n1 : Int) == 0) = true := by simp [h1]
    have hr : Hid ((decide (n1 = 0) || decide (n2 ≠ n1)) = true) := by show _ = _; simp [h1]
    clear h1
    go_enter Tryz.func73, Tryz.ntmps73
    go_wp2_with fail
    go_ret
    exact ⟨by rw [hr.out]; rfl, J.out⟩
  · have k1 : ((n1 : Int) == 0) = false := beq_eq_false_iff_ne.2 (by omega)
    by_cases h2 : n2 = n1
    · have k2 : ((n2 : Int) != (n1 : Int)) = false := by simp [h2]
      have hr : Hid ((decide (n1 = 0) || decide (n2 ≠ n1)) = false) := by show _ = _; simp [h1, h2]
      clear h1 h2
      go_enter Tryz.func73, Tryz.ntmps73
      go_wp2_with fail
      go_ret
      exact ⟨by rw [hr.out]; rfl, J.out⟩
    · have k2 : ((n2 : Int) != (n1 : Int)) = true := bne_iff_ne.2 (by omega)
      have hr : Hid ((decide (n1 = 0) || decide (n2 ≠ n1)) = true) := by show _ = _; simp [h2]
      clear h1 h2
      go_enter Tryz.func73, Tryz.ntmps73
      go_wp2_with fail
      go_ret
      exact ⟨by rw [hr.out]; rfl, J.out⟩
theorem strange40_a {w : World} {a1 a2 : Option Addr} {n1 n2 c1 c2 : Nat} {z : Int}
    (C1 : ∀ W, Below w.heap.size w W → Calls Tryz.prog 115 #[.agg #[.int .i64 z], .slice a1 n1 c1] W fun e w' => e = .returned (.bool false) ∧ Below W.heap.size W w') :
    Calls Tryz.prog 74 #[.agg #[.int .i64 z], .agg #[.slice a1 n1 c1, .slice a2 n2 c2]] w fun e w' => e = .returned (.bool true) ∧ Below w.heap.size w w' := by
  have H1 : Hid _ := C1
  clear C1
  generalize hW : (w.alloc (.cells #[.int .i64 z] 51)).alloc (.cells #[.slice a1 n1 c1, .slice a2 n2 c2] 36) = U
  have B : Hid (Below w.heap.size w U) := by rw [← hW]; exact ((Below.refl _ w).alloc (Nat.le_refl _) _).alloc (by simp) _
  have I0 : Hid (IHolds U w.heap.size 51 [.int .i64 z]) := by rw [← hW]; exact (IHolds.new w 51 [.int .i64 z]).alloc _
  have I1 : Hid (IHolds U (w.heap.size + 1) 36 [.slice a1 n1 c1, .slice a2 n2 c2]) := by rw [← hW]; exact IHolds.new' _ 36 [_, _] (by simp)
  go_enter Tryz.func74, Tryz.ntmps74
  have q0 : U.cell? ⟨w.heap.size, 0, none⟩ = some (.int .i64 z) := I0.out.cell 0 (by simp)
  have q1 : U.cell? ⟨w.heap.size + 1, 0, none⟩ = some (.slice a1 n1 c1) := I1.out.cell 0 (by simp)
  go_wp2_with (go_at_call 115; refine (H1.out _ B.out).mono ?_; rintro e w1 ⟨rfl, hB1⟩)
  go_ret
  exact ⟨rfl, B.out.trans (hB1.mono B.out.size)⟩
theorem strange40_b {w : World} {a1 a2 : Option Addr} {n1 n2 c1 c2 : Nat} {z : Int} {t : Bool}
    (C1 : ∀ W, Below w.heap.size w W → Calls Tryz.prog 115 #[.agg #[.int .i64 z], .slice a1 n1 c1] W fun e w' => e = .returned (.bool true) ∧ Below W.heap.size W w')
    (C2 : ∀ W, Below w.heap.size w W → Calls Tryz.prog 115 #[.agg #[.int .i64 z], .slice a2 n2 c2] W fun e w' => e = .returned (.bool t) ∧ Below W.heap.size W w') :
    Calls Tryz.prog 74 #[.agg #[.int .i64 z], .agg #[.slice a1 n1 c1, .slice a2 n2 c2]] w fun e w' => e = .returned (.bool (!t)) ∧ Below w.heap.size w w' := by
  have H1 : Hid _ := C1
  have H2 : Hid _ := C2
  clear C1 C2
  generalize hW : (w.alloc (.cells #[.int .i64 z] 51)).alloc (.cells #[.slice a1 n1 c1, .slice a2 n2 c2] 36) = U
  have B : Hid (Below w.heap.size w U) := by rw [← hW]; exact ((Below.refl _ w).alloc (Nat.le_refl _) _).alloc (by simp) _
  have I0 : Hid (IHolds U w.heap.size 51 [.int .i64 z]) := by rw [← hW]; exact (IHolds.new w 51 [.int .i64 z]).alloc _
  have I1 : Hid (IHolds U (w.heap.size + 1) 36 [.slice a1 n1 c1, .slice a2 n2 c2]) := by rw [← hW]; exact IHolds.new' _ 36 [_, _] (by simp)
  go_enter Tryz.func74, Tryz.ntmps74
  have q0 : U.cell? ⟨w.heap.size, 0, none⟩ = some (.int .i64 z) := I0.out.cell 0 (by simp)
  have q1 : U.cell? ⟨w.heap.size + 1, 0, none⟩ = some (.slice a1 n1 c1) := I1.out.cell 0 (by simp)
  go_wp2_with (go_at_call 115; first
    | (have zz := B.out; clear zz; refine (H1.out _ B.out).mono ?_; rintro e w1 ⟨rfl, hB1⟩; have B1 : Hid (Below w.heap.size w w1) := B.out.trans (hB1.mono B.out.size); have r0 := cell_keep (I0.out.cell 0 (by simp)) hB1; have r1 := cell_keep (I1.out.cell 1 (by simp)) hB1; clear hB1 B)
    | (refine (H2.out _ B1.out).mono ?_; rintro e w2 ⟨rfl, hB2⟩; have B2 : Hid (Below w.heap.size w w2) := B1.out.trans (hB2.mono B1.out.size); clear hB2 B1))
  go_ret
  exact ⟨rfl, B2.out⟩
theorem strange40 {w : World} {a1 a2 : Option Addr} {t : Cl} {c1 c2 : Nat} {z : Int} {p : ByteArray → Bool} (h1 : t.1.length ≤ 9223372036854775807) (h2 : t.2.length ≤ 9223372036854775807) (s1 : SL w a1 t.1) (s2 : SL w a2 t.2)
    (CN : ∀ s W, Calls Tryz.prog 138 #[.agg #[.int .i64 z], .string s] W fun e w' => e = .returned (.bool (!p s)) ∧ Below W.heap.size W w') :
    Calls Tryz.prog 74 #[.agg #[.int .i64 z], .agg #[.slice a1 t.1.length c1, .slice a2 t.2.length c2]] w fun e w' => e = .returned (.bool (stra p t)) ∧ Below w.heap.size w w' := by
  have C1 : ∀ W, Below w.heap.size w W → Calls Tryz.prog 115 #[.agg #[.int .i64 z], .slice a1 t.1.length c1] W fun e w' => e = .returned (.bool (t.1.all p)) ∧ Below W.heap.size W w' := fun X hX => elems127 p h1 (s1.of_below hX) CN
  have C2 : ∀ W, Below w.heap.size w W → Calls Tryz.prog 115 #[.agg #[.int .i64 z], .slice a2 t.2.length c2] W fun e w' => e = .returned (.bool (t.2.all p)) ∧ Below W.heap.size W w' := fun X hX => elems127 p h2 (s2.of_below hX) CN
  unfold stra
  cases h : t.1.all p with
  | false => rw [h] at C1; exact strange40_a C1
  | true =>
    rw [h] at C1
    simp only [Bool.not_true, Bool.false_or]
    exact strange40_b C1 C2
set_option maxHeartbeats 2000000 in
theorem index59_38 {w : World} {a : Option Addr} {l : List Cl} {c : Nat} (p : Cl → Bool) (hl : l.length ≤ 9223372036854775807) (hs : CM w a l)
    (CN : ∀ i (h : i < l.length) a1 c1 a2 c2 W, Below w.heap.size w W → SL W a1 (l[i]).1 → SL W a2 (l[i]).2 → Calls Tryz.prog 72 #[.agg #[.slice a1 (l[i]).1.length c1, .slice a2 (l[i]).2.length c2]] W fun e w' => e = .returned (.bool (p l[i])) ∧ Below W.heap.size W w') :
    Calls Tryz.prog 114 #[.slice a l.length c, .func (.func 72) #[] #[]] w fun e w' => (∃ r : Int, e = .returned (.int .i64 r) ∧ (decide (0 ≤ r)) = l.any p) ∧ Below w.heap.size w w' := by
  have HS : Hid (CM w a l) := hs
  have HL : Hid (l.length ≤ 9223372036854775807) := hl
  have HC : Hid _ := CN
  clear hs CN
  go_enter Tryz.func114, Tryz.ntmps114
  go_wp2_with fail
  go_loopg [5, 8] l.length (fun gk v5 v8 wr => ∃ i : Nat, i + gk = l.length ∧ v8 = .int .i64 (i : Int) ∧ Below w.heap.size w wr ∧ (l.take i).any p = false)
  case atStart => exact ⟨0, by omega, rfl, Below.refl _ _, by simp⟩
  case round =>
    obtain ⟨i, hig, rfl, hB, hn⟩ := hrel
    have B : Hid (Below w.heap.size w wr) := hB
    have HN : Hid ((l.take i).any p = false) := hn
    clear hB hn
    by_cases hi : i < l.length
    · obtain ⟨b, o, a1, c1, a2, c2, rfl, h1, h2, h3, h4⟩ := HS.out.of_below B.out i hi
      have il : (i : Int) < (l.length : Int) := by omega
      have hcall := HC.out i hi a1 c1 a2 c2 wr B.out h3 h4
      have HT : Hid _ := any_take p hi
      have HO : Hid _ := any_of p hi
      clear h3 h4
      generalize l[i] = t at *
      generalize t.1.length = n1 at *
      generalize t.2.length = n2 at *
      cases hp : p t with
      | true =>
        rw [hp] at hcall
        go_wp2_with (go_at_call 72; refine hcall.mono ?_; rintro e w3 ⟨rfl, hB3⟩)
        go_ret
        exact ⟨⟨_, rfl, by rw [HO.out hp]; simp⟩, B.out.trans (hB3.mono B.out.size)⟩
      | false =>
        rw [hp] at hcall
        go_wp2_with (go_at_call 72; refine hcall.mono ?_; rintro e w3 ⟨rfl, hB3⟩)
        go_roundg (gk - 1)
        case measure => omega
        case rel => exact ⟨i + 1, by omega, by go_num, B.out.trans (hB3.mono B.out.size), by rw [HT.out, HN.out, hp]; rfl⟩
    · have il : ¬ (i : Int) < (l.length : Int) := by omega
      have e : i = l.length := by omega
      have hn := HN.out
      rw [e, List.take_length] at hn
      clear e
      go_wp2_with fail
      go_ret
      exact ⟨⟨_, rfl, by first | (rw [hn]; decide) | decide⟩, B.out⟩
set_option maxHeartbeats 2000000 in
theorem contains37_38 {w : World} {a : Option Addr} {l : List Cl} {c : Nat} (p : Cl → Bool) (hl : l.length ≤ 9223372036854775807) (hs : CM w a l)
    (CN : ∀ i (h : i < l.length) a1 c1 a2 c2 W, Below w.heap.size w W → SL W a1 (l[i]).1 → SL W a2 (l[i]).2 → Calls Tryz.prog 72 #[.agg #[.slice a1 (l[i]).1.length c1, .slice a2 (l[i]).2.length c2]] W fun e w' => e = .returned (.bool (p l[i])) ∧ Below W.heap.size W w') :
    Calls Tryz.prog 71 #[.slice a l.length c, .func (.func 72) #[] #[]] w fun e w' => e = .returned (.bool (l.any p)) ∧ Below w.heap.size w w' := by
  have h := index59_38 (c := c) p hl hs CN
  clear hs CN
  generalize l.any p = t at *
  go_enter Tryz.func71, Tryz.ntmps71
  go_wp2_with (go_at_call 114; refine h.mono ?_; rintro e w1 ⟨⟨r, rfl, hr⟩, hB1⟩)
  go_ret
  exact ⟨by rw [← hr]; rfl, hB1⟩
set_option maxHeartbeats 2000000 in
theorem index59_39 {w : World} {a : Option Addr} {l : List Cl} {c : Nat} (p : Cl → Bool) (hl : l.length ≤ 9223372036854775807) (hs : CM w a l)
    (CN : ∀ i (h : i < l.length) a1 c1 a2 c2 W, Below w.heap.size w W → SL W a1 (l[i]).1 → SL W a2 (l[i]).2 → Calls Tryz.prog 73 #[.agg #[.slice a1 (l[i]).1.length c1, .slice a2 (l[i]).2.length c2]] W fun e w' => e = .returned (.bool (p l[i])) ∧ Below W.heap.size W w') :
    Calls Tryz.prog 114 #[.slice a l.length c, .func (.func 73) #[] #[]] w fun e w' => (∃ r : Int, e = .returned (.int .i64 r) ∧ (decide (0 ≤ r)) = l.any p) ∧ Below w.heap.size w w' := by
  have HS : Hid (CM w a l) := hs
  have HL : Hid (l.length ≤ 9223372036854775807) := hl
  have HC : Hid _ := CN
  clear hs CN
  go_enter Tryz.func114, Tryz.ntmps114
  go_wp2_with fail
  go_loopg [5, 8] l.length (fun gk v5 v8 wr => ∃ i : Nat, i + gk = l.length ∧ v8 = .int .i64 (i : Int) ∧ Below w.heap.size w wr ∧ (l.take i).any p = false)
  case atStart => exact ⟨0, by omega, rfl, Below.refl _ _, by simp⟩
  case round =>
    obtain ⟨i, hig, rfl, hB, hn⟩ := hrel
    have B : Hid (Below w.heap.size w wr) := hB
    have HN : Hid ((l.take i).any p = false) := hn
    clear hB hn
    by_cases hi : i < l.length
    · obtain ⟨b, o, a1, c1, a2, c2, rfl, h1, h2, h3, h4⟩ := HS.out.of_below B.out i hi
      have il : (i : Int) < (l.length : Int) := by omega
      have hcall := HC.out i hi a1 c1 a2 c2 wr B.out h3 h4
      have HT : Hid _ := any_take p hi
      have HO : Hid _ := any_of p hi
      clear h3 h4
      generalize l[i] = t at *
      generalize t.1.length = n1 at *
      generalize t.2.length = n2 at *
      cases hp : p t with
      | true =>
        rw [hp] at hcall
        go_wp2_with (go_at_call 73; refine hcall.mono ?_; rintro e w3 ⟨rfl, hB3⟩)
        go_ret
        exact ⟨⟨_, rfl, by rw [HO.out hp]; simp⟩, B.out.trans (hB3.mono B.out.size)⟩
      | false =>
        rw [hp] at hcall
        go_wp2_with (go_at_call 73; refine hcall.mono ?_; rintro e w3 ⟨rfl, hB3⟩)
        go_roundg (gk - 1)
        case measure => omega
        case rel => exact ⟨i + 1, by omega, by go_num, B.out.trans (hB3.mono B.out.size), by rw [HT.out, HN.out, hp]; rfl⟩
    · have il : ¬ (i : Int) < (l.length : Int) := by omega
      have e : i = l.length := by omega
      have hn := HN.out
      rw [e, List.take_length] at hn
      clear e
      go_wp2_with fail
      go_ret
      exact ⟨⟨_, rfl, by first | (rw [hn]; decide) | decide⟩, B.out⟩
set_option maxHeartbeats 2000000 in
theorem contains37_39 {w : World} {a : Option Addr} {l : List Cl} {c : Nat} (p : Cl → Bool) (hl : l.length ≤ 9223372036854775807) (hs : CM w a l)
    (CN : ∀ i (h : i < l.length) a1 c1 a2 c2 W, Below w.heap.size w W → SL W a1 (l[i]).1 → SL W a2 (l[i]).2 → Calls Tryz.prog 73 #[.agg #[.slice a1 (l[i]).1.length c1, .slice a2 (l[i]).2.length c2]] W fun e w' => e = .returned (.bool (p l[i])) ∧ Below W.heap.size W w') :
    Calls Tryz.prog 71 #[.slice a l.length c, .func (.func 73) #[] #[]] w fun e w' => e = .returned (.bool (l.any p)) ∧ Below w.heap.size w w' := by
  have h := index59_39 (c := c) p hl hs CN
  clear hs CN
  generalize l.any p = t at *
  go_enter Tryz.func71, Tryz.ntmps71
  go_wp2_with (go_at_call 114; refine h.mono ?_; rintro e w1 ⟨⟨r, rfl, hr⟩, hB1⟩)
  go_ret
  exact ⟨by rw [← hr]; rfl, hB1⟩
set_option maxHeartbeats 2000000 in
theorem index59_40 {w : World} {a : Option Addr} {l : List Cl} {c : Nat} {z : Int} (p : Cl → Bool) (hl : l.length ≤ 9223372036854775807) (hs : CM w a l)
    (CN : ∀ i (h : i < l.length) a1 c1 a2 c2 W, Below w.heap.size w W → SL W a1 (l[i]).1 → SL W a2 (l[i]).2 → Calls Tryz.prog 74 #[.agg #[.int .i64 z], .agg #[.slice a1 (l[i]).1.length c1, .slice a2 (l[i]).2.length c2]] W fun e w' => e = .returned (.bool (p l[i])) ∧ Below W.heap.size W w') :
    Calls Tryz.prog 114 #[.slice a l.length c, .func (.func 74) #[.agg #[.int .i64 z]] #[]] w fun e w' => (∃ r : Int, e = .returned (.int .i64 r) ∧ (decide (0 ≤ r)) = l.any p) ∧ Below w.heap.size w w' := by
  have HS : Hid (CM w a l) := hs
  have HL : Hid (l.length ≤ 9223372036854775807) := hl
  have HC : Hid _ := CN
  clear hs CN
  go_enter Tryz.func114, Tryz.ntmps114
  go_wp2_with fail
  go_loopg [5, 8] l.length (fun gk v5 v8 wr => ∃ i : Nat, i + gk = l.length ∧ v8 = .int .i64 (i : Int) ∧ Below w.heap.size w wr ∧ (l.take i).any p = false)
  case atStart => exact ⟨0, by omega, rfl, Below.refl _ _, by simp⟩
  case round =>
    obtain ⟨i, hig, rfl, hB, hn⟩ := hrel
    have B : Hid (Below w.heap.size w wr) := hB
    have HN : Hid ((l.take i).any p = false) := hn
    clear hB hn
    by_cases hi : i < l.length
    · obtain ⟨b, o, a1, c1, a2, c2, rfl, h1, h2, h3, h4⟩ := HS.out.of_below B.out i hi
      have il : (i : Int) < (l.length : Int) := by omega
      have hcall := HC.out i hi a1 c1 a2 c2 wr B.out h3 h4
      have HT : Hid _ := any_take p hi
      have HO : Hid _ := any_of p hi
      clear h3 h4
      generalize l[i] = t at *
      generalize t.1.length = n1 at *
      generalize t.2.length = n2 at *
      cases hp : p t with
      | true =>
        rw [hp] at hcall
        go_wp2_with (go_at_call 74; refine hcall.mono ?_; rintro e w3 ⟨rfl, hB3⟩)
        go_ret
        exact ⟨⟨_, rfl, by rw [HO.out hp]; simp⟩, B.out.trans (hB3.mono B.out.size)⟩
      | false =>
        rw [hp] at hcall
        go_wp2_with (go_at_call 74; refine hcall.mono ?_; rintro e w3 ⟨rfl, hB3⟩)
        go_roundg (gk - 1)
        case measure => omega
        case rel => exact ⟨i + 1, by omega, by go_num, B.out.trans (hB3.mono B.out.size), by rw [HT.out, HN.out, hp]; rfl⟩
    · have il : ¬ (i : Int) < (l.length : Int) := by omega
      have e : i = l.length := by omega
      have hn := HN.out
      rw [e, List.take_length] at hn
      clear e
      go_wp2_with fail
      go_ret
      exact ⟨⟨_, rfl, by first | (rw [hn]; decide) | decide⟩, B.out⟩
set_option maxHeartbeats 2000000 in
theorem contains37_40 {w : World} {a : Option Addr} {l : List Cl} {c : Nat} {z : Int} (p : Cl → Bool) (hl : l.length ≤ 9223372036854775807) (hs : CM w a l)
    (CN : ∀ i (h : i < l.length) a1 c1 a2 c2 W, Below w.heap.size w W → SL W a1 (l[i]).1 → SL W a2 (l[i]).2 → Calls Tryz.prog 74 #[.agg #[.int .i64 z], .agg #[.slice a1 (l[i]).1.length c1, .slice a2 (l[i]).2.length c2]] W fun e w' => e = .returned (.bool (p l[i])) ∧ Below W.heap.size W w') :
    Calls Tryz.prog 71 #[.slice a l.length c, .func (.func 74) #[.agg #[.int .i64 z]] #[]] w fun e w' => e = .returned (.bool (l.any p)) ∧ Below w.heap.size w w' := by
  have h := index59_40 (c := c) p hl hs CN
  clear hs CN
  generalize l.any p = t at *
  go_enter Tryz.func71, Tryz.ntmps71
  go_wp2_with (go_at_call 114; refine h.mono ?_; rintro e w1 ⟨⟨r, rfl, hr⟩, hB1⟩)
  go_ret
  exact ⟨by rw [← hr]; rfl, hB1⟩
end Go.Proofs.YtmpiipcllgjhdaaGreatDoor
namespace Go.Proofs.YtmpiipcllgjhdaaGreatDoor
open Go.RowKit Go.Deep Go.PlainAid

theorem zero85 {w : World} {z y : Int} {r : ByteArray} (h : ∀ W, Calls Tryz.prog 99 #[.int .i64 z, .int .i64 0] W fun e w' => e = .returned (.tuple #[.string r, .int .i64 y]) ∧ Below W.heap.size W w') :
    Calls Tryz.prog 56 #[.agg #[.int .i64 z]] w fun e w' => e = .returned (.string r) ∧ Below w.heap.size w w' := by
  have J : Hid (Below w.heap.size w (w.alloc (.cells #[.int .i64 z] 51))) := (Below.refl _ w).alloc (Nat.le_refl _) _
  go_enter Tryz.func56, Tryz.ntmps56
  go_wp2_with (go_at_call 99; refine (h _).mono ?_; rintro e w1 ⟨rfl, hB1⟩)
  go_ret
  exact ⟨rfl, J.out.trans (hB1.mono J.out.size)⟩
theorem power92 {w : World} {z y : Int} {s t r : ByteArray} (h : ∀ W, Calls Tryz.prog 17 #[.int .i64 z, .string s, .string t] W fun e w' => e = .returned (.tuple #[.string r, .int .i64 y]) ∧ Below W.heap.size W w') :
    Calls Tryz.prog 89 #[.agg #[.int .i64 z], .string s, .string t] w fun e w' => e = .returned (.string r) ∧ Below w.heap.size w w' := by
  have J : Hid (Below w.heap.size w (w.alloc (.cells #[.int .i64 z] 51))) := (Below.refl _ w).alloc (Nat.le_refl _) _
  go_enter Tryz.func89, Tryz.ntmps89
  go_wp2_with (go_at_call 17; refine (h _).mono ?_; rintro e w1 ⟨rfl, hB1⟩)
  go_ret
  exact ⟨rfl, J.out.trans (hB1.mono J.out.size)⟩
theorem powers89 {w : World} {z y : Int} {a n b m r : ByteArray} (h : ∀ W b1 b2, IHolds W b1 9 [.string a, .string b] → IHolds W b2 9 [.string n, .string m] → Calls Tryz.prog 125 #[.int .i64 z, .slice (some ⟨b1, 0, none⟩) 2 2, .slice (some ⟨b2, 0, none⟩) 2 2] W fun e w' => e = .returned (.tuple #[.string r, .int .i64 y]) ∧ Below W.heap.size W w') :
    Calls Tryz.prog 97 #[.agg #[.int .i64 z], .string a, .string n, .string b, .string m] w fun e w' => e = .returned (.string r) ∧ Below w.heap.size w w' := by
  have H : Hid _ := h
  clear h
  generalize hW : ((w.alloc (.cells #[.int .i64 z] 51)).alloc (.cells #[.string a, .string b] 9)).alloc (.cells #[.string n, .string m] 9) = U
  have B : Hid (Below w.heap.size w U) := by rw [← hW]; exact (((Below.refl _ w).alloc (Nat.le_refl _) _).alloc (by simp) _).alloc (by simp; omega) _
  have I1 : Hid (IHolds U (w.heap.size + 1) 9 [.string a, .string b]) := by rw [← hW]; exact (IHolds.new' _ 9 [_, _] (by simp)).alloc _
  have I2 : Hid (IHolds U (w.heap.size + 1 + 1) 9 [.string n, .string m]) := by rw [← hW]; exact IHolds.new' _ 9 [_, _] (by simp)
  go_enter Tryz.func97, Tryz.ntmps97
  go_wp2_with (go_at_call 125; refine (H.out _ _ _ I1.out I2.out).mono ?_; rintro e w1 ⟨rfl, hB1⟩)
  go_ret
  exact ⟨rfl, B.out.trans (hB1.mono B.out.size)⟩
theorem clos91 {w : World} {z : Int} {g p : Nat} {s t r : ByteArray} (hg : w.cell? ⟨g, 0, none⟩ = some (.int .i64 z)) (hp : w.cell? ⟨p, 0, none⟩ = some (.string t)) (h : ∀ W, Calls Tryz.prog 89 #[.agg #[.int .i64 z], .string s, .string t] W fun e w' => e = .returned (.string r) ∧ Below W.heap.size W w') :
    Calls Tryz.prog 88 #[.string s, .pointer (some ⟨g, 0, none⟩), .pointer (some ⟨p, 0, none⟩)] w fun e w' => e = .returned (.string r) ∧ Below w.heap.size w w' := by
  go_enter Tryz.func88, Tryz.ntmps88
  go_wp2_with (go_at_call 89; refine (h _).mono ?_; rintro e w1 ⟨rfl, hB1⟩)
  go_ret
  exact ⟨rfl, hB1⟩
theorem clos88 {w : World} {z : Int} {g q p : Nat} {s t n m r : ByteArray} (hg : w.cell? ⟨g, 0, none⟩ = some (.int .i64 z)) (hq : w.cell? ⟨q, 0, none⟩ = some (.string n)) (hp : w.cell? ⟨p, 0, none⟩ = some (.string m)) (h : ∀ W, Calls Tryz.prog 97 #[.agg #[.int .i64 z], .string s, .string n, .string t, .string m] W fun e w' => e = .returned (.string r) ∧ Below W.heap.size W w') :
    Calls Tryz.prog 96 #[.string s, .string t, .pointer (some ⟨g, 0, none⟩), .pointer (some ⟨q, 0, none⟩), .pointer (some ⟨p, 0, none⟩)] w fun e w' => e = .returned (.string r) ∧ Below w.heap.size w w' := by
  go_enter Tryz.func96, Tryz.ntmps96
  go_wp2_with (go_at_call 97; refine (h _).mono ?_; rintro e w1 ⟨rfl, hB1⟩)
  go_ret
  exact ⟨rfl, hB1⟩
set_option maxHeartbeats 1000000 in
theorem both70_88 {w : World} {a b : Option Addr} {l m q : List ByteArray} {c d g r p : Nat} (hn : l.length ≤ 8796093022207) (hml : m.length = l.length) (hql : q.length = l.length) (hs : SL w a l) (hm : SL w b m)
    (CF : ∀ i (h1 : i < l.length) (h2 : i < m.length) (h3 : i < q.length) W, Below w.heap.size w W → Calls Tryz.prog 96 #[.string l[i], .string m[i], .pointer (some ⟨g, 0, none⟩), .pointer (some ⟨r, 0, none⟩), .pointer (some ⟨p, 0, none⟩)] W fun e w' => e = .returned (.string q[i]) ∧ Below W.heap.size W w') :
    Calls Tryz.prog 91 #[.slice a l.length c, .slice b m.length d, .func (.func 96) #[] #[.pointer (some ⟨g, 0, none⟩), .pointer (some ⟨r, 0, none⟩), .pointer (some ⟨p, 0, none⟩)]] w fun e w' => (∃ a' c', e = .returned (.slice a' l.length c') ∧ SY w' a' c' q) ∧ Below w.heap.size w w' := by
  have HS : Hid (SL w a l) := hs
  have HM : Hid (SL w b m) := hm
  have HQ : Hid (q.length = l.length) := hql
  have hmk := make22 _ l.length rfl hn w
  have JI : Hid (IHolds (w.alloc (.cells (List.replicate l.length (Value.string ⟨#[]⟩)).toArray 9)) w.heap.size 9 (half q l.length 0)) := by rw [half_zero]; exact IHolds.new _ _ _
  have JB : Hid (Below w.heap.size w (w.alloc (.cells (List.replicate l.length (Value.string ⟨#[]⟩)).toArray 9))) := (Below.refl _ w).alloc (Nat.le_refl _) _
  rw [hml]
  clear hs hm hql
  go_enter Tryz.func91, Tryz.ntmps91
  generalize w.alloc (.cells (List.replicate l.length (Value.string ⟨#[]⟩)).toArray 9) = U at *
  go_wp2_with fail
  go_loopg [8, 9, 15] l.length (fun gk v8 v9 v15 wr => ∃ i : Nat, i + gk = l.length ∧ v15 = .int .i64 (i : Int) ∧ Below w.heap.size w wr ∧ IHolds wr w.heap.size 9 (half q l.length i))
  case atStart => exact ⟨0, by omega, rfl, JB.out, JI.out⟩
  case round =>
    obtain ⟨i, hig, rfl, hB, hI⟩ := hrel
    have B : Hid (Below w.heap.size w wr) := hB
    have I : Hid (IHolds wr w.heap.size 9 (half q l.length i)) := hI
    clear hB hI
    by_cases hi : i < l.length
    · have hi2 : i < m.length := by omega
      have hi3 : i < q.length := by have := HQ.out; omega
      have il : (i : Int) < (l.length : Int) := by omega
      obtain ⟨b1, o1, rfl, hc1⟩ := HS.out.of_below B.out i hi
      obtain ⟨b2, o2, rfl, hc2⟩ := HM.out.of_below B.out i hi2
      have hcall := CF i hi hi2 hi3 wr B.out
      have HH : Hid _ := half_set HQ.out hi hi3
      have HL : Hid ((half q l.length i).length = l.length) := half_length HQ.out (by omega)
      generalize l[i] = s at *
      generalize m[i] = t at *
      generalize q[i] = rr at *
      go_wp2_with (go_at_call 96; refine hcall.mono ?_; rintro e w3 ⟨rfl, hB3⟩; have B3 : Hid (Below w.heap.size w w3) := B.out.trans (hB3.mono B.out.size); have I3 : Hid (IHolds w3 w.heap.size 9 (half q l.length i)) := I.out.of_below hB3; have f3 : w3.frozen? ⟨w.heap.size, i, none⟩ = false := I3.out.frozen i; have g3 := I3.out.cell i (by have := HL.out; omega); clear hB3)
      have I4 : Hid (IHolds (w3.setCell ⟨w.heap.size, i, none⟩ (.string rr)) w.heap.size 9 (half q l.length (i + 1))) := by
        have := I3.out.set i (.string rr)
        rw [HH.out] at this
        exact this
      have B4 : Hid (Below w.heap.size w (w3.setCell ⟨w.heap.size, i, none⟩ (.string rr))) := Below.setCell B3.out (Nat.le_refl _) _
      go_roundg (gk - 1)
      case measure => omega
      case rel => exact ⟨i + 1, by omega, by go_num, B4.out, I4.out⟩
    · have il : ¬ (i : Int) < (l.length : Int) := by omega
      have e : i = l.length := by omega
      have I5 : Hid (SL wr (some ⟨w.heap.size, 0, none⟩) q) := by
        have h := I.out
        rw [e, half_full HQ.out] at h
        exact h.sl
      clear e
      go_wp2_with fail
      go_ret
      exact ⟨⟨_, _, rfl, ⟨⟨I5.out, by have := HQ.out; omega⟩, fun b o e => by cases e; exact ⟨_, _, I.out⟩⟩⟩, B.out⟩
set_option maxHeartbeats 1000000 in
theorem each69_91 {w : World} {a : Option Addr} {l q : List ByteArray} {c g p : Nat} (hn : l.length ≤ 8796093022207) (hql : q.length = l.length) (hs : SL w a l)
    (CF : ∀ i (h1 : i < l.length) (h3 : i < q.length) W, Below w.heap.size w W → Calls Tryz.prog 88 #[.string l[i], .pointer (some ⟨g, 0, none⟩), .pointer (some ⟨p, 0, none⟩)] W fun e w' => e = .returned (.string q[i]) ∧ Below W.heap.size W w') :
    Calls Tryz.prog 87 #[.slice a l.length c, .func (.func 88) #[] #[.pointer (some ⟨g, 0, none⟩), .pointer (some ⟨p, 0, none⟩)]] w fun e w' => (∃ a' c', e = .returned (.slice a' l.length c') ∧ SY w' a' c' q) ∧ Below w.heap.size w w' := by
  have HS : Hid (SL w a l) := hs
  have HQ : Hid (q.length = l.length) := hql
  have hmk := make22 _ l.length rfl hn w
  have JI : Hid (IHolds (w.alloc (.cells (List.replicate l.length (Value.string ⟨#[]⟩)).toArray 9)) w.heap.size 9 (half q l.length 0)) := by rw [half_zero]; exact IHolds.new _ _ _
  have JB : Hid (Below w.heap.size w (w.alloc (.cells (List.replicate l.length (Value.string ⟨#[]⟩)).toArray 9))) := (Below.refl _ w).alloc (Nat.le_refl _) _
  clear hs hql
  go_enter Tryz.func87, Tryz.ntmps87
  generalize w.alloc (.cells (List.replicate l.length (Value.string ⟨#[]⟩)).toArray 9) = U at *
  go_wp2_with fail
  go_loopg [6, 7, 13] l.length (fun gk v6 v7 v13 wr => ∃ i : Nat, i + gk = l.length ∧ v13 = .int .i64 (i : Int) ∧ Below w.heap.size w wr ∧ IHolds wr w.heap.size 9 (half q l.length i))
  case atStart => exact ⟨0, by omega, rfl, JB.out, JI.out⟩
  case round =>
    obtain ⟨i, hig, rfl, hB, hI⟩ := hrel
    have B : Hid (Below w.heap.size w wr) := hB
    have I : Hid (IHolds wr w.heap.size 9 (half q l.length i)) := hI
    clear hB hI
    by_cases hi : i < l.length
    · have hi3 : i < q.length := by have := HQ.out; omega
      have il : (i : Int) < (l.length : Int) := by omega
      obtain ⟨b1, o1, rfl, hc1⟩ := HS.out.of_below B.out i hi
      have hcall := CF i hi hi3 wr B.out
      have HH : Hid _ := half_set HQ.out hi hi3
      have HL : Hid ((half q l.length i).length = l.length) := half_length HQ.out (by omega)
      generalize l[i] = s at *
      generalize q[i] = r at *
      go_wp2_with (go_at_call 88; refine hcall.mono ?_; rintro e w3 ⟨rfl, hB3⟩; have B3 : Hid (Below w.heap.size w w3) := B.out.trans (hB3.mono B.out.size); have I3 : Hid (IHolds w3 w.heap.size 9 (half q l.length i)) := I.out.of_below hB3; have f3 : w3.frozen? ⟨w.heap.size, i, none⟩ = false := I3.out.frozen i; have g3 := I3.out.cell i (by have := HL.out; omega); clear hB3)
      have I4 : Hid (IHolds (w3.setCell ⟨w.heap.size, i, none⟩ (.string r)) w.heap.size 9 (half q l.length (i + 1))) := by
        have := I3.out.set i (.string r)
        rw [HH.out] at this
        exact this
      have B4 : Hid (Below w.heap.size w (w3.setCell ⟨w.heap.size, i, none⟩ (.string r))) := Below.setCell B3.out (Nat.le_refl _) _
      go_roundg (gk - 1)
      case measure => omega
      case rel => exact ⟨i + 1, by omega, by go_num, B4.out, I4.out⟩
    · have il : ¬ (i : Int) < (l.length : Int) := by omega
      have e : i = l.length := by omega
      have I5 : Hid (SL wr (some ⟨w.heap.size, 0, none⟩) q) := by
        have h := I.out
        rw [e, half_full HQ.out] at h
        exact h.sl
      clear e
      go_wp2_with fail
      go_ret
      exact ⟨⟨_, _, rfl, ⟨⟨I5.out, by have := HQ.out; omega⟩, fun b o e => by cases e; exact ⟨_, _, I.out⟩⟩⟩, B.out⟩
set_option maxHeartbeats 1000000 in
theorem clos90 {w : World} {z : Int} {g : Nat} {a1 a2 : Option Addr} {c1 c2 n2 : Nat} {bs q : List ByteArray} {t : ByteArray} (hn : bs.length ≤ 8) (hql : q.length = bs.length) (hs : SL w a1 bs) (hg : w.cell? ⟨g, 0, none⟩ = some (.int .i64 z))
    (CP : ∀ i (h1 : i < bs.length) (h3 : i < q.length) W, Calls Tryz.prog 89 #[.agg #[.int .i64 z], .string bs[i], .string t] W fun e w' => e = .returned (.string q[i]) ∧ Below W.heap.size W w') :
    Calls Tryz.prog 86 #[.agg #[.slice a1 bs.length c1, .slice a2 n2 c2], .string t, .pointer (some ⟨g, 0, none⟩)] w fun e w' => (∃ a' c', e = .returned (.slice a' bs.length c') ∧ SY w' a' c' q) ∧ Below w.heap.size w w' := by
  have hmf : ∀ (fn : Fn) (first cap : Array Value) (w : World), (Instr.makeFunc fn first cap).run Tryz.prog w = .ok (.func fn first cap) w := fun _ _ _ _ => rfl
  generalize hW : (w.alloc (.cells #[.slice a1 bs.length c1, .slice a2 n2 c2] 36)).alloc (.cells #[.string t] 9) = U
  have B : Hid (Below w.heap.size w U) := by rw [← hW]; exact ((Below.refl _ w).alloc (Nat.le_refl _) _).alloc (by simp) _
  have I0 : Hid (IHolds U w.heap.size 36 [.slice a1 bs.length c1, .slice a2 n2 c2]) := by rw [← hW]; exact (IHolds.new w 36 [_, _]).alloc _
  have I1 : Hid (IHolds U (w.heap.size + 1) 9 [.string t]) := by rw [← hW]; exact IHolds.new' _ 9 [_] (by simp)
  have H : Hid (Calls Tryz.prog 87 #[.slice a1 bs.length c1, .func (.func 88) #[] #[.pointer (some ⟨g, 0, none⟩), .pointer (some ⟨w.heap.size + 1, 0, none⟩)]] U fun e w' => (∃ a' c', e = .returned (.slice a' bs.length c') ∧ SY w' a' c' q) ∧ Below U.heap.size U w') :=
    each69_91 (by omega) hql (hs.of_below B.out) (fun i h1 h3 V hV => clos91 (cell_keep (cell_keep hg B.out) hV) (cell_keep (I1.out.cell 0 (by simp)) hV) (fun X => CP i h1 h3 X))
  clear hs CP hg
  generalize bs.length = n at *
  have q0 : U.cell? ⟨w.heap.size, 0, none⟩ = some (.slice a1 n c1) := I0.out.cell 0 (by simp)
  go_enter Tryz.func86, Tryz.ntmps86
  go_wp2_with (go_at_call 87; refine H.out.mono ?_; rintro e w1 ⟨⟨a', c', rfl, hs1⟩, hB1⟩)
  go_ret
  exact ⟨⟨a', c', rfl, hs1⟩, B.out.trans (hB1.mono B.out.size)⟩
set_option maxHeartbeats 1000000 in
theorem clos87 {w : World} {z : Int} {g p : Nat} {a1 a2 : Option Addr} {c1 c2 : Nat} {bs ms q : List ByteArray} {t u : ByteArray} (hn : bs.length ≤ 8) (hm : ms.length = bs.length) (hql : q.length = bs.length) (hs : SL w a1 bs) (hs2 : SL w a2 ms) (hg : w.cell? ⟨g, 0, none⟩ = some (.int .i64 z)) (hp : w.cell? ⟨p, 0, none⟩ = some (.string u))
    (CP : ∀ i (h1 : i < bs.length) (h2 : i < ms.length) (h3 : i < q.length) W, Calls Tryz.prog 97 #[.agg #[.int .i64 z], .string bs[i], .string t, .string ms[i], .string u] W fun e w' => e = .returned (.string q[i]) ∧ Below W.heap.size W w') :
    Calls Tryz.prog 95 #[.agg #[.slice a1 bs.length c1, .slice a2 ms.length c2], .string t, .pointer (some ⟨g, 0, none⟩), .pointer (some ⟨p, 0, none⟩)] w fun e w' => (∃ a' c', e = .returned (.slice a' bs.length c') ∧ SY w' a' c' q) ∧ Below w.heap.size w w' := by
  have hmf : ∀ (fn : Fn) (first cap : Array Value) (w : World), (Instr.makeFunc fn first cap).run Tryz.prog w = .ok (.func fn first cap) w := fun _ _ _ _ => rfl
  generalize hW : (w.alloc (.cells #[.slice a1 bs.length c1, .slice a2 ms.length c2] 36)).alloc (.cells #[.string t] 9) = U
  have B : Hid (Below w.heap.size w U) := by rw [← hW]; exact ((Below.refl _ w).alloc (Nat.le_refl _) _).alloc (by simp) _
  have I0 : Hid (IHolds U w.heap.size 36 [.slice a1 bs.length c1, .slice a2 ms.length c2]) := by rw [← hW]; exact (IHolds.new w 36 [_, _]).alloc _
  have I1 : Hid (IHolds U (w.heap.size + 1) 9 [.string t]) := by rw [← hW]; exact IHolds.new' _ 9 [_] (by simp)
  have H : Hid (Calls Tryz.prog 91 #[.slice a1 bs.length c1, .slice a2 ms.length c2, .func (.func 96) #[] #[.pointer (some ⟨g, 0, none⟩), .pointer (some ⟨w.heap.size + 1, 0, none⟩), .pointer (some ⟨p, 0, none⟩)]] U fun e w' => (∃ a' c', e = .returned (.slice a' bs.length c') ∧ SY w' a' c' q) ∧ Below U.heap.size U w') :=
    both70_88 (by omega) hm hql (hs.of_below B.out) (hs2.of_below B.out) (fun i h1 h2 h3 V hV => clos88 (cell_keep (cell_keep hg B.out) hV) (cell_keep (I1.out.cell 0 (by simp)) hV) (cell_keep (cell_keep hp B.out) hV) (fun X => CP i h1 h2 h3 X))
  clear hs hs2 CP hg hp hm
  generalize bs.length = n at *
  generalize ms.length = m at *
  have q0 : U.cell? ⟨w.heap.size, 0, none⟩ = some (.slice a1 n c1) := I0.out.cell 0 (by simp)
  have q1 : U.cell? ⟨w.heap.size, 1, none⟩ = some (.slice a2 m c2) := I0.out.cell 1 (by simp)
  go_enter Tryz.func95, Tryz.ntmps95
  go_wp2_with (go_at_call 91; refine H.out.mono ?_; rintro e w1 ⟨⟨a', c', rfl, hs1⟩, hB1⟩)
  go_ret
  exact ⟨⟨a', c', rfl, hs1⟩, B.out.trans (hB1.mono B.out.size)⟩
end Go.Proofs.YtmpiipcllgjhdaaGreatDoor
