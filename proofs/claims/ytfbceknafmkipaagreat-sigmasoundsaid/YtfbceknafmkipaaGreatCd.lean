/- Sigma's list of what each claim gives. -/
import Derived.Test.YtfbceknafmkipaaGreatCc
import Derived.Deep.RegionHeld
set_option linter.unusedSimpArgs false
set_option linter.unusedVariables false
set_option maxRecDepth 100000
namespace Go.Proofs.YtfbceknafmkipaaGreat
open Go.RowKit Go.Deep Go.PlainAid

theorem Tryz.info22' : (Tryz.prog.info? 23).map (fun i => (i.zero, i.size, i.bytes)) = some (some (.slice none 0 0), 1, 24) := by kernel_rfl
theorem Tryz.under25 : Tryz.prog.underlying 25 = some (.slice 23) := by kernel_rfl
theorem make25 (z : Int) (n : Nat) (hz : z = (n : Int)) (hn : n ≤ 4294967296) (w : World) : (Instr.makeSlice 25 (.int .i64 z) (.int .i64 z)).run Tryz.prog w = .ok (.slice (some ⟨w.heap.size, 0, none⟩) n n) (w.alloc (.cells (List.replicate n (Value.slice none 0 0)).toArray 23)) := by
  subst hz
  have := run_make_row' (P := Tryz.prog) 25 23 (.slice none 0 0) 24 Tryz.under25 Tryz.info22' rfl .i64 .i64 n (by omega) (by omega) w
  rw [this]
  have e : madeCells #[Value.slice none 0 0] n = (List.replicate n (Value.slice none 0 0)).toArray := by
    apply Array.toList_inj.1
    rw [toList_madeCells_one]
  rw [e]
/-- Rows as the cells hold them: those that are made, then empty ones. -/
structure Rws (w : World) (b : Nat) (q : List (List ByteArray)) (n i : Nat) (V : List Value) : Prop where
  len : V.length = n
  holds : IHolds w b 23 V
  sl : ∀ v ∈ V, ∃ a m c, v = Value.slice a m c
  row : ∀ j (h : j < i) (h' : j < q.length), ∃ a c, V[j]? = some (.slice a (q[j]).length c) ∧ SL w a q[j]
theorem cell_store {w : World} {b b' x : Nat} {V : List Value} {t : ByteArray} (hc : w.cell? ⟨b', x, none⟩ = some (.string t)) (hI : IHolds w b 23 V) (hV : ∀ v ∈ V, ∃ a m c, v = Value.slice a m c) (i : Nat) (u : Value) : (w.setCell ⟨b, i, none⟩ u).cell? ⟨b', x, none⟩ = some (.string t) := by
  by_cases hb : b' = b
  · exfalso
    subst hb
    unfold IHolds at hI
    simp only [World.cell?, hI] at hc
    have hm : Value.string t ∈ V := List.mem_of_getElem? (l := V) (i := x) (by simpa using hc)
    obtain ⟨_, _, _, e⟩ := hV _ hm
    cases e
  · rw [World.cell?_of_block (a := ⟨b', x, none⟩) (Below.heap_setCell w ⟨b, i, none⟩ u b' hb)]
    exact hc
theorem IHolds.store {w : World} {b b' : Nat} {T : TypeId} {V : List Value} (h : IHolds w b' T V) (hne : b' ≠ b) (i : Nat) (u : Value) : IHolds (w.setCell ⟨b, i, none⟩ u) b' T V := by
  unfold IHolds
  rw [Below.heap_setCell w ⟨b, i, none⟩ u b' hne]
  exact h
theorem SL.store {w : World} {a : Option Addr} {l : List ByteArray} {b : Nat} {V : List Value} (h : SL w a l) (hI : IHolds w b 23 V) (hV : ∀ v ∈ V, ∃ a m c, v = Value.slice a m c) (i : Nat) (x : Value) : SL (w.setCell ⟨b, i, none⟩ x) a l := by
  intro j hj
  obtain ⟨b', o, rfl, hc⟩ := h j hj
  exact ⟨b', o, rfl, cell_store hc hI hV i x⟩
theorem Rws.begin {w : World} (q : List (List ByteArray)) (n : Nat) : Rws (w.alloc (.cells (List.replicate n (Value.slice none 0 0)).toArray 23)) w.heap.size q n 0 (List.replicate n (Value.slice none 0 0)) :=
  ⟨by simp, IHolds.new _ _ _, fun v hv => ⟨none, 0, 0, List.eq_of_mem_replicate hv⟩, fun j h => absurd h (by omega)⟩
theorem Rws.of_below {w w' : World} {b : Nat} {q : List (List ByteArray)} {n i : Nat} {V : List Value} (h : Rws w b q n i V) (hb : Below w.heap.size w w') : Rws w' b q n i V :=
  ⟨h.len, h.holds.of_below hb, h.sl, fun j h1 h2 => by obtain ⟨a, c, e, hs⟩ := h.row j h1 h2; exact ⟨a, c, e, hs.of_below hb⟩⟩
theorem Rws.step {w : World} {b : Nat} {q : List (List ByteArray)} {n i : Nat} {V : List Value} (h : Rws w b q n i V) (hi : i < n) {a : Option Addr} {c : Nat} (h' : i < q.length) (hs : SL w a q[i]) :
    Rws (w.setCell ⟨b, i, none⟩ (.slice a (q[i]).length c)) b q n (i + 1) (V.set i (.slice a (q[i]).length c)) := by
  refine ⟨by simp [h.len], h.holds.set i _, fun v hv => ?_, fun j h1 h2 => ?_⟩
  · rcases List.mem_or_eq_of_mem_set hv with g | g
    · exact h.sl v g
    · exact ⟨_, _, _, g⟩
  · by_cases hj : j = i
    · subst hj
      exact ⟨a, c, by rw [List.getElem?_set_self (by rw [h.len]; exact hi)], hs.store h.holds h.sl _ _⟩
    · obtain ⟨a', c', e, hs'⟩ := h.row j (by omega) h2
      exact ⟨a', c', by rw [List.getElem?_set_ne (by omega)]; exact e, hs'.store h.holds h.sl _ _⟩
theorem Rws.done {w : World} {b : Nat} {q : List (List ByteArray)} {n : Nat} {V : List Value} (h : Rws w b q n n V) (hq : q.length = n) : SLL w (some ⟨b, 0, none⟩) q := by
  intro i hi
  obtain ⟨a, c, e, hs⟩ := h.row i (by omega) hi
  refine ⟨b, 0, a, c, rfl, ?_, hs⟩
  obtain ⟨hlt, e2⟩ := List.getElem?_eq_some_iff.1 e
  rw [Nat.zero_add, h.holds.cell i hlt, e2]
set_option maxHeartbeats 4000000 in
theorem both86_90 {w : World} {a b : Option Addr} {l : List Cl} {m : List ByteArray} {q : List (List ByteArray)} {c d g : Nat} (hn : l.length ≤ 64) (hml : m.length = l.length) (hql : q.length = l.length) (hs : CM w a l) (hm : SL w b m)
    (CF : ∀ i (h1 : i < l.length) (h2 : i < m.length) (h3 : i < q.length) a1 c1 a2 c2 W, Below w.heap.size w W → SL W a1 (l[i]).1 → SL W a2 (l[i]).2 → Calls Tryz.prog 43 #[.agg #[.slice a1 (l[i]).1.length c1, .slice a2 (l[i]).2.length c2], .string m[i], .pointer (some ⟨g, 0, none⟩)] W fun e w' => (∃ a' c', e = .returned (.slice a' (q[i]).length c') ∧ SL w' a' q[i]) ∧ Below W.heap.size W w') :
    Calls Tryz.prog 42 #[.slice a l.length c, .slice b m.length d, .func (.func 43) #[] #[.pointer (some ⟨g, 0, none⟩)]] w fun e w' => (∃ a' c', e = .returned (.slice a' l.length c') ∧ SLL w' a' q) ∧ Below w.heap.size w w' := by
  have HS : Hid (CM w a l) := hs
  have HM : Hid (SL w b m) := hm
  have HQ : Hid (q.length = l.length) := hql
  have HF : Hid _ := CF
  have hmk := make25 _ l.length rfl (by omega) w
  have JR : Hid (Rws (w.alloc (.cells (List.replicate l.length (Value.slice none 0 0)).toArray 23)) w.heap.size q l.length 0 (List.replicate l.length (Value.slice none 0 0))) := Rws.begin q l.length
  have JB : Hid (Below w.heap.size w (w.alloc (.cells (List.replicate l.length (Value.slice none 0 0)).toArray 23))) := (Below.refl _ w).alloc (Nat.le_refl _) _
  rw [hml]
  clear hs hm hql CF
  go_enter Tryz.func42, Tryz.ntmps42
  generalize w.alloc (.cells (List.replicate l.length (Value.slice none 0 0)).toArray 23) = U at *
  go_wp2_with fail
  go_loopg [8, 9, 15] l.length (fun gk v8 v9 v15 wr => ∃ (i : Nat) (V : List Value), i + gk = l.length ∧ v15 = .int .i64 (i : Int) ∧ Below w.heap.size w wr ∧ Rws wr w.heap.size q l.length i V)
  case atStart => exact ⟨0, _, by omega, rfl, JB.out, JR.out⟩
  case round =>
    obtain ⟨i, V, hig, rfl, hB, hI⟩ := hrel
    have B : Hid (Below w.heap.size w wr) := hB
    have I : Hid (Rws wr w.heap.size q l.length i V) := hI
    clear hB hI JR JB hmk
    by_cases hi : i < l.length
    · have hi2 : i < m.length := by omega
      have hi3 : i < q.length := by have := HQ.out; omega
      have il : (i : Int) < (l.length : Int) := by omega
      obtain ⟨b1, o1, a1, c1, a2, c2, rfl, h1, h2, h3, h4⟩ := HS.out.of_below B.out i hi
      obtain ⟨b2, o2, rfl, h5⟩ := HM.out.of_below B.out i hi2
      have hcall := fun W hW => HF.out i hi hi2 hi3 a1 c1 a2 c2 W hW
      have hst : Hid _ := fun (w3 : World) (R : Rws w3 w.heap.size q l.length i V) (a' : Option Addr) (c' : Nat) (hs : SL w3 a' q[i]) => Rws.step (c := c') R hi hi3 hs
      have S3 : Hid (SL wr a1 (l[i]).1) := h3
      have S4 : Hid (SL wr a2 (l[i]).2) := h4
      clear h3 h4
      generalize (l[i]).1 = L1 at *
      generalize (l[i]).2 = L2 at *
      generalize m[i] = t at *
      generalize q[i] = r at *
      have hcall' : Hid _ := hcall
      clear hcall
      have JN : Hid (IHolds (wr.alloc (.cells #[.slice a1 L1.length c1, .slice a2 L2.length c2] 72)) wr.heap.size 72 [.slice a1 L1.length c1, .slice a2 L2.length c2]) := IHolds.new _ _ _
      have BN : Hid (Below wr.heap.size wr (wr.alloc (.cells #[.slice a1 L1.length c1, .slice a2 L2.length c2] 72))) := (Below.refl _ _).alloc (Nat.le_refl _) _
      have k5 : Hid _ := cell_keep h5 BN.out
      go_wp2_with fail
      clear h1 h2 h5
      have hne : wr.heap.size ≠ w.heap.size := by have := I.out.holds.lt; omega
      generalize wr.alloc (.cells #[.slice a1 L1.length c1, .slice a2 L2.length c2] 72) = w1 at *
      have B1 : Hid (Below w.heap.size w w1) := B.out.trans (BN.out.mono B.out.size)
      have I1 : Hid (Rws w1 w.heap.size q l.length i V) := I.out.of_below BN.out
      have T3 : Hid (SL w1 a1 L1) := S3.out.of_below BN.out
      have T4 : Hid (SL w1 a2 L2) := S4.out.of_below BN.out
      clear B I S3 S4 BN
      generalize wr.heap.size = bn at *
      refine wp_region_held_drew (S := fun W => IHolds W bn 72 [.slice a1 L1.length c1, .slice a2 L2.length c2] ∧ W.cell? ⟨b2, o2 + i, none⟩ = some (.string t)) (by kernel_rfl) ⟨JN.out, k5.out⟩ (fun hHeld => ?_)
      refine tk (i := 0) (v := .slice (some ⟨w.heap.size, 0, none⟩) l.length l.length) rfl (by kernel_rfl) (fun _ _ _ h => h) rfl ?_ hHeld ?_
      · intro W hS; go_simp
      simp only [Act.put, y1, y2, y3, y4, y5, y6, y7]
      refine tk (i := 1) (v := .int .i64 (i : Int)) rfl (by kernel_rfl) (fun _ _ _ h => h) rfl ?_ hHeld ?_
      · intro W hS; go_simp
      simp only [Act.put, y1, y2, y3, y4, y5, y6, y7]
      refine tk (i := 2) (v := .func (.func 43) #[] #[.pointer (some ⟨g, 0, none⟩)]) rfl (by kernel_rfl) (fun _ _ _ h => h) rfl ?_ hHeld ?_
      · intro W hS; go_simp
      simp only [Act.put, y1, y2, y3, y4, y5, y6, y7]
      refine tk (i := 3) (v := .agg #[.slice a1 L1.length c1, .slice a2 L2.length c2]) rfl (by kernel_rfl) (fun _ _ _ h => h) rfl ?_ hHeld ?_
      · intro W hS; obtain ⟨x0, x1⟩ := Go.Proofs.YtfbceknafmkipaaGreat.c2 hS.1; clear hS; go_simp
      simp only [Act.put, y1, y2, y3, y4, y5, y6, y7]
      refine tk (i := 4) (v := .slice (some ⟨b2, o2, none⟩) l.length d) rfl (by kernel_rfl) (fun _ _ _ h => h) rfl ?_ hHeld ?_
      · intro W hS; go_simp
      simp only [Act.put, y1, y2, y3, y4, y5, y6, y7]
      refine tk (i := 5) (v := .int .i64 (i : Int)) rfl (by kernel_rfl) (fun _ _ _ h => h) rfl ?_ hHeld ?_
      · intro W hS; go_simp
      simp only [Act.put, y1, y2, y3, y4, y5, y6, y7]
      refine tk (i := 6) (v := .pointer (some ⟨b2, o2 + i, none⟩)) rfl (by kernel_rfl) (fun _ _ _ h => h) rfl ?_ hHeld ?_
      · intro W hS; go_simp
      simp only [Act.put, y1, y2, y3, y4, y5, y6, y7]
      refine tk (i := 7) (v := .string t) rfl (by kernel_rfl) (fun _ _ _ h => h) rfl ?_ hHeld ?_
      · intro W hS; have x5 := hS.2; clear hS; go_simp
      simp only [Act.put, y1, y2, y3, y4, y5, y6, y7]
      refine wpAnyH_ready (rs := [8]) (by kernel_rfl) (by simp) ?_
      refine AllReadyH.cons rfl (fun K hK => ?_) AllReadyH.nil
      go_simp
      refine (hcall'.out w1.drew B1.out.drew (T3.out.of_below (dB w1)) (T4.out.of_below (dB w1))).mono ?_
      rintro e w3 ⟨⟨a', c', rfl, hs3⟩, hB3⟩
      have B3 : Hid (Below w.heap.size w w3) := B1.out.drew.trans (hB3.mono B1.out.size)
      have I3 : Hid (Rws w3 w.heap.size q l.length i V) := (I1.out.of_below (dB w1)).of_below hB3
      have J3 : Hid (IHolds w3 bn 72 [.slice a1 L1.length c1, .slice a2 L2.length c2]) := (JN.out.of_below (dB w1)).of_below hB3
      have k3 : Hid (w3.cell? ⟨b2, o2 + i, none⟩ = some (.string t)) := cell_keep (cell_keep k5.out (dB w1)) hB3
      have R4 : Hid _ := hst.out w3 I3.out a' c' hs3
      have B4 : Hid (Below w.heap.size w (w3.setCell ⟨w.heap.size, i, none⟩ (.slice a' r.length c'))) := Below.setCell B3.out (Nat.le_refl _) _
      have f3 : w3.frozen? ⟨w.heap.size, i, none⟩ = false := I3.out.holds.frozen i
      obtain ⟨x9, hx9⟩ : ∃ x, w3.cell? ⟨w.heap.size, i, none⟩ = some x := ⟨_, I3.out.holds.cell i (by rw [I3.out.len]; exact hi)⟩
      have hx9' : Hid _ := hx9
      clear hB3 hs3 B1 I1 JN k5 T3 T4 hcall' hst hx9
      go_wp2_with fail
      refine hK.out _ _ ⟨J3.out, k3.out⟩ (fun hHeld2 => ?_)
      clear hK K hHeld
      try simp only [Act.put, y1, y2, y3, y4, y5, y6, y7]
      refine tk (i := 9) (v := .pointer (some ⟨w.heap.size, i, none⟩)) rfl (by kernel_rfl) (fun _ _ _ h => h) rfl ?_ hHeld2 ?_
      · intro W hS; go_simp
      simp only [Act.put, y1, y2, y3, y4, y5, y6, y7]
      refine wpAnyH_ready (rs := [10]) (by kernel_rfl) (by simp) ?_
      refine AllReadyH.cons rfl (fun K hK => ?_) AllReadyH.nil
      have hx9 := hx9'.out
      have J4 : Hid _ := J3.out.store hne i (.slice a' r.length c')
      have k4 : Hid _ := cell_store k3.out I3.out.holds I3.out.sl i (.slice a' r.length c')
      clear HF HS HM hHeld2 I3 J3 k3 B3 hx9'
      go_simp
      try go_wp2_with fail
      refine hK.out _ _ ⟨J4.out, k4.out⟩ (fun hHeld3 => ?_)
      clear hK K f3 hx9
      try simp only [Act.put, y1, y2, y3, y4, y5, y6, y7]
      refine wpAnyH_done (by kernel_rfl) ?_ _
      clear hHeld3 J4 k4
      generalize w3.setCell ⟨w.heap.size, i, none⟩ (.slice a' r.length c') = w4 at *
      go_wp2_with fail
      go_roundg (gk - 1)
      case measure => omega
      case rel => exact ⟨i + 1, _, by omega, by go_num, B4.out, R4.out⟩
    · have il : ¬ (i : Int) < (l.length : Int) := by omega
      have e : i = l.length := by omega
      have I5 : Hid (SLL wr (some ⟨w.heap.size, 0, none⟩) q) := by
        have h := I.out
        rw [e] at h
        exact h.done HQ.out
      clear e I
      go_wp2_with fail
      go_ret
      exact ⟨⟨_, ⟨_, rfl⟩, I5.out⟩, B.out⟩
set_option maxHeartbeats 4000000 in
theorem both86_87 {w : World} {a b : Option Addr} {l : List Cl} {m : List ByteArray} {q : List (List ByteArray)} {c d g p : Nat} (hn : l.length ≤ 64) (hml : m.length = l.length) (hql : q.length = l.length) (hs : CM w a l) (hm : SL w b m)
    (CF : ∀ i (h1 : i < l.length) (h2 : i < m.length) (h3 : i < q.length) a1 c1 a2 c2 W, Below w.heap.size w W → SL W a1 (l[i]).1 → SL W a2 (l[i]).2 → Calls Tryz.prog 50 #[.agg #[.slice a1 (l[i]).1.length c1, .slice a2 (l[i]).2.length c2], .string m[i], .pointer (some ⟨g, 0, none⟩), .pointer (some ⟨p, 0, none⟩)] W fun e w' => (∃ a' c', e = .returned (.slice a' (q[i]).length c') ∧ SL w' a' q[i]) ∧ Below W.heap.size W w') :
    Calls Tryz.prog 42 #[.slice a l.length c, .slice b m.length d, .func (.func 50) #[] #[.pointer (some ⟨g, 0, none⟩), .pointer (some ⟨p, 0, none⟩)]] w fun e w' => (∃ a' c', e = .returned (.slice a' l.length c') ∧ SLL w' a' q) ∧ Below w.heap.size w w' := by
  have HS : Hid (CM w a l) := hs
  have HM : Hid (SL w b m) := hm
  have HQ : Hid (q.length = l.length) := hql
  have HF : Hid _ := CF
  have hmk := make25 _ l.length rfl (by omega) w
  have JR : Hid (Rws (w.alloc (.cells (List.replicate l.length (Value.slice none 0 0)).toArray 23)) w.heap.size q l.length 0 (List.replicate l.length (Value.slice none 0 0))) := Rws.begin q l.length
  have JB : Hid (Below w.heap.size w (w.alloc (.cells (List.replicate l.length (Value.slice none 0 0)).toArray 23))) := (Below.refl _ w).alloc (Nat.le_refl _) _
  rw [hml]
  clear hs hm hql CF
  go_enter Tryz.func42, Tryz.ntmps42
  generalize w.alloc (.cells (List.replicate l.length (Value.slice none 0 0)).toArray 23) = U at *
  go_wp2_with fail
  go_loopg [8, 9, 15] l.length (fun gk v8 v9 v15 wr => ∃ (i : Nat) (V : List Value), i + gk = l.length ∧ v15 = .int .i64 (i : Int) ∧ Below w.heap.size w wr ∧ Rws wr w.heap.size q l.length i V)
  case atStart => exact ⟨0, _, by omega, rfl, JB.out, JR.out⟩
  case round =>
    obtain ⟨i, V, hig, rfl, hB, hI⟩ := hrel
    have B : Hid (Below w.heap.size w wr) := hB
    have I : Hid (Rws wr w.heap.size q l.length i V) := hI
    clear hB hI JR JB hmk
    by_cases hi : i < l.length
    · have hi2 : i < m.length := by omega
      have hi3 : i < q.length := by have := HQ.out; omega
      have il : (i : Int) < (l.length : Int) := by omega
      obtain ⟨b1, o1, a1, c1, a2, c2, rfl, h1, h2, h3, h4⟩ := HS.out.of_below B.out i hi
      obtain ⟨b2, o2, rfl, h5⟩ := HM.out.of_below B.out i hi2
      have hcall := fun W hW => HF.out i hi hi2 hi3 a1 c1 a2 c2 W hW
      have hst : Hid _ := fun (w3 : World) (R : Rws w3 w.heap.size q l.length i V) (a' : Option Addr) (c' : Nat) (hs : SL w3 a' q[i]) => Rws.step (c := c') R hi hi3 hs
      have S3 : Hid (SL wr a1 (l[i]).1) := h3
      have S4 : Hid (SL wr a2 (l[i]).2) := h4
      clear h3 h4
      generalize (l[i]).1 = L1 at *
      generalize (l[i]).2 = L2 at *
      generalize m[i] = t at *
      generalize q[i] = r at *
      have hcall' : Hid _ := hcall
      clear hcall
      have JN : Hid (IHolds (wr.alloc (.cells #[.slice a1 L1.length c1, .slice a2 L2.length c2] 72)) wr.heap.size 72 [.slice a1 L1.length c1, .slice a2 L2.length c2]) := IHolds.new _ _ _
      have BN : Hid (Below wr.heap.size wr (wr.alloc (.cells #[.slice a1 L1.length c1, .slice a2 L2.length c2] 72))) := (Below.refl _ _).alloc (Nat.le_refl _) _
      have k5 : Hid _ := cell_keep h5 BN.out
      go_wp2_with fail
      clear h1 h2 h5
      have hne : wr.heap.size ≠ w.heap.size := by have := I.out.holds.lt; omega
      generalize wr.alloc (.cells #[.slice a1 L1.length c1, .slice a2 L2.length c2] 72) = w1 at *
      have B1 : Hid (Below w.heap.size w w1) := B.out.trans (BN.out.mono B.out.size)
      have I1 : Hid (Rws w1 w.heap.size q l.length i V) := I.out.of_below BN.out
      have T3 : Hid (SL w1 a1 L1) := S3.out.of_below BN.out
      have T4 : Hid (SL w1 a2 L2) := S4.out.of_below BN.out
      clear B I S3 S4 BN
      generalize wr.heap.size = bn at *
      refine wp_region_held_drew (S := fun W => IHolds W bn 72 [.slice a1 L1.length c1, .slice a2 L2.length c2] ∧ W.cell? ⟨b2, o2 + i, none⟩ = some (.string t)) (by kernel_rfl) ⟨JN.out, k5.out⟩ (fun hHeld => ?_)
      refine tk (i := 0) (v := .slice (some ⟨w.heap.size, 0, none⟩) l.length l.length) rfl (by kernel_rfl) (fun _ _ _ h => h) rfl ?_ hHeld ?_
      · intro W hS; go_simp
      simp only [Act.put, y1, y2, y3, y4, y5, y6, y7]
      refine tk (i := 1) (v := .int .i64 (i : Int)) rfl (by kernel_rfl) (fun _ _ _ h => h) rfl ?_ hHeld ?_
      · intro W hS; go_simp
      simp only [Act.put, y1, y2, y3, y4, y5, y6, y7]
      refine tk (i := 2) (v := .func (.func 50) #[] #[.pointer (some ⟨g, 0, none⟩), .pointer (some ⟨p, 0, none⟩)]) rfl (by kernel_rfl) (fun _ _ _ h => h) rfl ?_ hHeld ?_
      · intro W hS; go_simp
      simp only [Act.put, y1, y2, y3, y4, y5, y6, y7]
      refine tk (i := 3) (v := .agg #[.slice a1 L1.length c1, .slice a2 L2.length c2]) rfl (by kernel_rfl) (fun _ _ _ h => h) rfl ?_ hHeld ?_
      · intro W hS; obtain ⟨x0, x1⟩ := Go.Proofs.YtfbceknafmkipaaGreat.c2 hS.1; clear hS; go_simp
      simp only [Act.put, y1, y2, y3, y4, y5, y6, y7]
      refine tk (i := 4) (v := .slice (some ⟨b2, o2, none⟩) l.length d) rfl (by kernel_rfl) (fun _ _ _ h => h) rfl ?_ hHeld ?_
      · intro W hS; go_simp
      simp only [Act.put, y1, y2, y3, y4, y5, y6, y7]
      refine tk (i := 5) (v := .int .i64 (i : Int)) rfl (by kernel_rfl) (fun _ _ _ h => h) rfl ?_ hHeld ?_
      · intro W hS; go_simp
      simp only [Act.put, y1, y2, y3, y4, y5, y6, y7]
      refine tk (i := 6) (v := .pointer (some ⟨b2, o2 + i, none⟩)) rfl (by kernel_rfl) (fun _ _ _ h => h) rfl ?_ hHeld ?_
      · intro W hS; go_simp
      simp only [Act.put, y1, y2, y3, y4, y5, y6, y7]
      refine tk (i := 7) (v := .string t) rfl (by kernel_rfl) (fun _ _ _ h => h) rfl ?_ hHeld ?_
      · intro W hS; have x5 := hS.2; clear hS; go_simp
      simp only [Act.put, y1, y2, y3, y4, y5, y6, y7]
      refine wpAnyH_ready (rs := [8]) (by kernel_rfl) (by simp) ?_
      refine AllReadyH.cons rfl (fun K hK => ?_) AllReadyH.nil
      go_simp
      refine (hcall'.out w1.drew B1.out.drew (T3.out.of_below (dB w1)) (T4.out.of_below (dB w1))).mono ?_
      rintro e w3 ⟨⟨a', c', rfl, hs3⟩, hB3⟩
      have B3 : Hid (Below w.heap.size w w3) := B1.out.drew.trans (hB3.mono B1.out.size)
      have I3 : Hid (Rws w3 w.heap.size q l.length i V) := (I1.out.of_below (dB w1)).of_below hB3
      have J3 : Hid (IHolds w3 bn 72 [.slice a1 L1.length c1, .slice a2 L2.length c2]) := (JN.out.of_below (dB w1)).of_below hB3
      have k3 : Hid (w3.cell? ⟨b2, o2 + i, none⟩ = some (.string t)) := cell_keep (cell_keep k5.out (dB w1)) hB3
      have R4 : Hid _ := hst.out w3 I3.out a' c' hs3
      have B4 : Hid (Below w.heap.size w (w3.setCell ⟨w.heap.size, i, none⟩ (.slice a' r.length c'))) := Below.setCell B3.out (Nat.le_refl _) _
      have f3 : w3.frozen? ⟨w.heap.size, i, none⟩ = false := I3.out.holds.frozen i
      obtain ⟨x9, hx9⟩ : ∃ x, w3.cell? ⟨w.heap.size, i, none⟩ = some x := ⟨_, I3.out.holds.cell i (by rw [I3.out.len]; exact hi)⟩
      have hx9' : Hid _ := hx9
      clear hB3 hs3 B1 I1 JN k5 T3 T4 hcall' hst hx9
      go_wp2_with fail
      refine hK.out _ _ ⟨J3.out, k3.out⟩ (fun hHeld2 => ?_)
      clear hK K hHeld
      try simp only [Act.put, y1, y2, y3, y4, y5, y6, y7]
      refine tk (i := 9) (v := .pointer (some ⟨w.heap.size, i, none⟩)) rfl (by kernel_rfl) (fun _ _ _ h => h) rfl ?_ hHeld2 ?_
      · intro W hS; go_simp
      simp only [Act.put, y1, y2, y3, y4, y5, y6, y7]
      refine wpAnyH_ready (rs := [10]) (by kernel_rfl) (by simp) ?_
      refine AllReadyH.cons rfl (fun K hK => ?_) AllReadyH.nil
      have hx9 := hx9'.out
      have J4 : Hid _ := J3.out.store hne i (.slice a' r.length c')
      have k4 : Hid _ := cell_store k3.out I3.out.holds I3.out.sl i (.slice a' r.length c')
      clear HF HS HM hHeld2 I3 J3 k3 B3 hx9'
      go_simp
      try go_wp2_with fail
      refine hK.out _ _ ⟨J4.out, k4.out⟩ (fun hHeld3 => ?_)
      clear hK K f3 hx9
      try simp only [Act.put, y1, y2, y3, y4, y5, y6, y7]
      refine wpAnyH_done (by kernel_rfl) ?_ _
      clear hHeld3 J4 k4
      generalize w3.setCell ⟨w.heap.size, i, none⟩ (.slice a' r.length c') = w4 at *
      go_wp2_with fail
      go_roundg (gk - 1)
      case measure => omega
      case rel => exact ⟨i + 1, _, by omega, by go_num, B4.out, R4.out⟩
    · have il : ¬ (i : Int) < (l.length : Int) := by omega
      have e : i = l.length := by omega
      have I5 : Hid (SLL wr (some ⟨w.heap.size, 0, none⟩) q) := by
        have h := I.out
        rw [e] at h
        exact h.done HQ.out
      clear e I
      go_wp2_with fail
      go_ret
      exact ⟨⟨_, ⟨_, rfl⟩, I5.out⟩, B.out⟩
end Go.Proofs.YtfbceknafmkipaaGreat
