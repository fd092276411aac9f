/- Sigma's list of what each claim gives. Sigma's First and Back where nothing is wrong with the claims. Sigma's First and Back, with what they call; lists of lists beside each other. Claims that are no set, and what is asked of them. -/
import Derived.Test.YtmpiipcllgjhdaaGreatDoorY06
import Derived.Deep.RegionHeld
import Derived.Test.YtmpiipcllgjhdaaGreatDoorY02
set_option linter.unusedSimpArgs false
set_option linter.unusedVariables false
set_option maxRecDepth 100000
namespace Go.Proofs.YtmpiipcllgjhdaaGreatDoor
open Go.RowKit Go.Deep Go.PlainAid

theorem Tryz.info22' : (Tryz.prog.info? 22).map (fun i => (i.zero, i.size, i.bytes)) = some (some (.slice none 0 0), 1, 24) := by kernel_rfl
theorem Tryz.under25 : Tryz.prog.underlying 39 = some (.slice 22) := by kernel_rfl
theorem make25 (z : Int) (n : Nat) (hz : z = (n : Int)) (hn : n ≤ 4294967296) (w : World) : (Instr.makeSlice 39 (.int .i64 z) (.int .i64 z)).run Tryz.prog w = .ok (.slice (some ⟨w.heap.size, 0, none⟩) n n) (w.alloc (.cells (List.replicate n (Value.slice none 0 0)).toArray 22)) := by
  subst hz
  have := run_make_row' (P := Tryz.prog) 39 22 (.slice none 0 0) 24 Tryz.under25 Tryz.info22' rfl .i64 .i64 n (by omega) (by omega) w
  rw [this]
  have e : madeCells #[Value.slice none 0 0] n = (List.replicate n (Value.slice none 0 0)).toArray := by
    apply Array.toList_inj.1
    rw [toList_madeCells_one]
  rw [e]
/-- Rows as the cells hold them: those that are made, then empty ones. -/
structure Rws (w : World) (b : Nat) (q : List (List ByteArray)) (n i : Nat) (V : List Value) : Prop where
  len : V.length = n
  holds : IHolds w b 22 V
  sl : ∀ v ∈ V, ∃ a m c, v = Value.slice a m c
  row : ∀ j (h : j < i) (h' : j < q.length), ∃ a c, V[j]? = some (.slice a (q[j]).length c) ∧ SY w a c q[j]
theorem cell_store {w : World} {b b' x : Nat} {V : List Value} {t : ByteArray} (hc : w.cell? ⟨b', x, none⟩ = some (.string t)) (hI : IHolds w b 22 V) (hV : ∀ v ∈ V, ∃ a m c, v = Value.slice a m c) (i : Nat) (u : Value) : (w.setCell ⟨b, i, none⟩ u).cell? ⟨b', x, none⟩ = some (.string t) := by
  by_cases hb : b' = b
  · exfalso
    subst hb
    unfold IHolds at hI
    simp only [World.cell?, hI] at hc
    have hm : Value.string t ∈ V := List.mem_of_getElem? (l := V) (i := x) (by simpa using hc)
    obtain ⟨_, _, _, e⟩ := hV _ hm
    cases e
  · rw [World.cell?_of_block (a := ⟨b', x, none⟩) (Below.heap_setCell w ⟨b, i, none⟩ u b' hb)]
    exact hc
theorem IHolds.store {w : World} {b b' : Nat} {T : TypeId} {V : List Value} (h : IHolds w b' T V) (hne : b' ≠ b) (i : Nat) (u : Value) : IHolds (w.setCell ⟨b, i, none⟩ u) b' T V := by
  unfold IHolds
  rw [Below.heap_setCell w ⟨b, i, none⟩ u b' hne]
  exact h
theorem SL.store {w : World} {a : Option Addr} {l : List ByteArray} {b : Nat} {V : List Value} (h : SL w a l) (hI : IHolds w b 22 V) (hV : ∀ v ∈ V, ∃ a m c, v = Value.slice a m c) (i : Nat) (x : Value) : SL (w.setCell ⟨b, i, none⟩ x) a l := by
  intro j hj
  obtain ⟨b', o, rfl, hc⟩ := h j hj
  exact ⟨b', o, rfl, cell_store hc hI hV i x⟩
theorem SK.store {w : World} {a : Option Addr} {c : Nat} {l : List ByteArray} {b : Nat} {V : List Value} (h : SK w a c l) (hI : IHolds w b 22 V) (hV : ∀ v ∈ V, ∃ a m c, v = Value.slice a m c) (i : Nat) (x : Value) : SK (w.setCell ⟨b, i, none⟩ x) a c l := ⟨h.sl.store hI hV i x, h.le⟩
theorem SY.store {w : World} {a : Option Addr} {c : Nat} {l : List ByteArray} {b : Nat} {V : List Value} (h : SY w a c l) (hI : IHolds w b 22 V) (hV : ∀ v ∈ V, ∃ a m c, v = Value.slice a m c) (i : Nat) (x : Value) : SY (w.setCell ⟨b, i, none⟩ x) a c l := ⟨h.sk.store hI hV i x, fun b' o e => by
  obtain ⟨cs, fz, q⟩ := h.ty b' o e
  refine ⟨cs, fz, (Below.heap_setCell w ⟨b, i, none⟩ x b' (fun e2 => ?_)).trans q⟩
  have e3 : b' = b := e2
  subst e3
  unfold IHolds at hI
  rw [hI] at q
  cases q⟩
theorem Rws.begin {w : World} (q : List (List ByteArray)) (n : Nat) : Rws (w.alloc (.cells (List.replicate n (Value.slice none 0 0)).toArray 22)) w.heap.size q n 0 (List.replicate n (Value.slice none 0 0)) :=
  ⟨by simp, IHolds.new _ _ _, fun v hv => ⟨none, 0, 0, List.eq_of_mem_replicate hv⟩, fun j h => absurd h (by omega)⟩
theorem Rws.of_below {w w' : World} {b : Nat} {q : List (List ByteArray)} {n i : Nat} {V : List Value} (h : Rws w b q n i V) (hb : Below w.heap.size w w') : Rws w' b q n i V :=
  ⟨h.len, h.holds.of_below hb, h.sl, fun j h1 h2 => by obtain ⟨a, c, e, hs⟩ := h.row j h1 h2; exact ⟨a, c, e, hs.of_below hb⟩⟩
theorem Rws.step {w : World} {b : Nat} {q : List (List ByteArray)} {n i : Nat} {V : List Value} (h : Rws w b q n i V) (hi : i < n) {a : Option Addr} {c : Nat} (h' : i < q.length) (hs : SY w a c q[i]) :
    Rws (w.setCell ⟨b, i, none⟩ (.slice a (q[i]).length c)) b q n (i + 1) (V.set i (.slice a (q[i]).length c)) := by
  refine ⟨by simp [h.len], h.holds.set i _, fun v hv => ?_, fun j h1 h2 => ?_⟩
  · rcases List.mem_or_eq_of_mem_set hv with g | g
    · exact h.sl v g
    · exact ⟨_, _, _, g⟩
  · by_cases hj : j = i
    · subst hj
      exact ⟨a, c, by rw [List.getElem?_set_self (by rw [h.len]; exact hi)], hs.store h.holds h.sl _ _⟩
    · obtain ⟨a', c', e, hs'⟩ := h.row j (by omega) h2
      exact ⟨a', c', by rw [List.getElem?_set_ne (by omega)]; exact e, hs'.store h.holds h.sl _ _⟩
theorem Rws.done {w : World} {b : Nat} {q : List (List ByteArray)} {n : Nat} {V : List Value} (h : Rws w b q n n V) (hq : q.length = n) : SLL w (some ⟨b, 0, none⟩) q := by
  intro i hi
  obtain ⟨a, c, e, hs⟩ := h.row i (by omega) hi
  refine ⟨b, 0, a, c, rfl, ?_, hs⟩
  obtain ⟨hlt, e2⟩ := List.getElem?_eq_some_iff.1 e
  rw [Nat.zero_add, h.holds.cell i hlt, e2]
set_option maxHeartbeats 4000000 in
theorem both86_90 {w : World} {a b : Option Addr} {l : List Cl} {m : List ByteArray} {q : List (List ByteArray)} {c d g : Nat} (hn : l.length ≤ 64) (hml : m.length = l.length) (hql : q.length = l.length) (hs : CM w a l) (hm : SL w b m)
    (CF : ∀ i (h1 : i < l.length) (h2 : i < m.length) (h3 : i < q.length) a1 c1 a2 c2 W, Below w.heap.size w W → SL W a1 (l[i]).1 → SL W a2 (l[i]).2 → Calls Tryz.prog 86 #[.agg #[.slice a1 (l[i]).1.length c1, .slice a2 (l[i]).2.length c2], .string m[i], .pointer (some ⟨g, 0, none⟩)] W fun e w' => (∃ a' c', e = .returned (.slice a' (q[i]).length c') ∧ SY w' a' c' q[i]) ∧ Below W.heap.size W w') :
    Calls Tryz.prog 85 #[.slice a l.length c, .slice b m.length d, .func (.func 86) #[] #[.pointer (some ⟨g, 0, none⟩)]] w fun e w' => (∃ a' c', e = .returned (.slice a' l.length c') ∧ SLL w' a' q) ∧ Below w.heap.size w w' := by
  have HS : Hid (CM w a l) := hs
  have HM : Hid (SL w b m) := hm
  have HQ : Hid (q.length = l.length) := hql
  have HF : Hid _ := CF
  have hmk := make25 _ l.length rfl (by omega) w
  have JR : Hid (Rws (w.alloc (.cells (List.replicate l.length (Value.slice none 0 0)).toArray 22)) w.heap.size q l.length 0 (List.replicate l.length (Value.slice none 0 0))) := Rws.begin q l.length
  have JB : Hid (Below w.heap.size w (w.alloc (.cells (List.replicate l.length (Value.slice none 0 0)).toArray 22))) := (Below.refl _ w).alloc (Nat.le_refl _) _
  rw [hml]
  clear hs hm hql CF
  go_enter Tryz.func85, Tryz.ntmps85
  generalize w.alloc (.cells (List.replicate l.length (Value.slice none 0 0)).toArray 22) = U at *
  go_wp2_with fail
  go_loopg [8, 9, 15] l.length (fun gk v8 v9 v15 wr => ∃ (i : Nat) (V : List Value), i + gk = l.length ∧ v15 = .int .i64 (i : Int) ∧ Below w.heap.size w wr ∧ Rws wr w.heap.size q l.length i V)
  case atStart => exact ⟨0, _, by omega, rfl, JB.out, JR.out⟩
  case round =>
    obtain ⟨i, V, hig, rfl, hB, hI⟩ := hrel
    have B : Hid (Below w.heap.size w wr) := hB
    have I : Hid (Rws wr w.heap.size q l.length i V) := hI
    clear hB hI JR JB hmk
    by_cases hi : i < l.length
    · have hi2 : i < m.length := by omega
      have hi3 : i < q.length := by have := HQ.out; omega
      have il : (i : Int) < (l.length : Int) := by omega
      obtain ⟨b1, o1, a1, c1, a2, c2, rfl, h1, h2, h3, h4⟩ := HS.out.of_below B.out i hi
      obtain ⟨b2, o2, rfl, h5⟩ := HM.out.of_below B.out i hi2
      have hcall := fun W hW => HF.out i hi hi2 hi3 a1 c1 a2 c2 W hW
      have hst : Hid _ := fun (w3 : World) (R : Rws w3 w.heap.size q l.length i V) (a' : Option Addr) (c' : Nat) (hs : SY w3 a' c' q[i]) => Rws.step (c := c') R hi hi3 hs
      have S3 : Hid (SL wr a1 (l[i]).1) := h3
      have S4 : Hid (SL wr a2 (l[i]).2) := h4
      clear h3 h4
      generalize (l[i]).1 = L1 at *
      generalize (l[i]).2 = L2 at *
      generalize m[i] = t at *
      generalize q[i] = r at *
      have hcall' : Hid _ := hcall
      clear hcall
      have JN : Hid (IHolds (wr.alloc (.cells #[.slice a1 L1.length c1, .slice a2 L2.length c2] 36)) wr.heap.size 36 [.slice a1 L1.length c1, .slice a2 L2.length c2]) := IHolds.new _ _ _
      have BN : Hid (Below wr.heap.size wr (wr.alloc (.cells #[.slice a1 L1.length c1, .slice a2 L2.length c2] 36))) := (Below.refl _ _).alloc (Nat.le_refl _) _
      have k5 : Hid _ := cell_keep h5 BN.out
      go_wp2_with fail
      clear h1 h2 h5
      have hne : wr.heap.size ≠ w.heap.size := by have := I.out.holds.lt; omega
      generalize wr.alloc (.cells #[.slice a1 L1.length c1, .slice a2 L2.length c2] 36) = w1 at *
      have B1 : Hid (Below w.heap.size w w1) := B.out.trans (BN.out.mono B.out.size)
      have I1 : Hid (Rws w1 w.heap.size q l.length i V) := I.out.of_below BN.out
      have T3 : Hid (SL w1 a1 L1) := S3.out.of_below BN.out
      have T4 : Hid (SL w1 a2 L2) := S4.out.of_below BN.out
      clear B I S3 S4 BN
      generalize wr.heap.size = bn at *
      refine wp_region_held_drew (S := fun W => IHolds W bn 36 [.slice a1 L1.length c1, .slice a2 L2.length c2] ∧ W.cell? ⟨b2, o2 + i, none⟩ = some (.string t)) (by kernel_rfl) ⟨JN.out, k5.out⟩ (fun hHeld => ?_)
      refine tk (i := 0) (v := .slice (some ⟨w.heap.size, 0, none⟩) l.length l.length) rfl (by kernel_rfl) (fun _ _ _ h => h) rfl ?_ hHeld ?_
      · intro W hS; go_simp
      simp only [Act.put, y1, y2, y3, y4, y5, y6, y7]
      refine tk (i := 1) (v := .int .i64 (i : Int)) rfl (by kernel_rfl) (fun _ _ _ h => h) rfl ?_ hHeld ?_
      · intro W hS; go_simp
      simp only [Act.put, y1, y2, y3, y4, y5, y6, y7]
      refine tk (i := 2) (v := .func (.func 86) #[] #[.pointer (some ⟨g, 0, none⟩)]) rfl (by kernel_rfl) (fun _ _ _ h => h) rfl ?_ hHeld ?_
      · intro W hS; go_simp
      simp only [Act.put, y1, y2, y3, y4, y5, y6, y7]
      refine tk (i := 3) (v := .agg #[.slice a1 L1.length c1, .slice a2 L2.length c2]) rfl (by kernel_rfl) (fun _ _ _ h => h) rfl ?_ hHeld ?_
      · intro W hS; obtain ⟨x0, x1⟩ := Go.Proofs.YtmpiipcllgjhdaaGreatDoor.c2 hS.1; clear hS; go_simp
      simp only [Act.put, y1, y2, y3, y4, y5, y6, y7]
      refine tk (i := 4) (v := .slice (some ⟨b2, o2, none⟩) l.length d) rfl (by kernel_rfl) (fun _ _ _ h => h) rfl ?_ hHeld ?_
      · intro W hS; go_simp
      simp only [Act.put, y1, y2, y3, y4, y5, y6, y7]
      refine tk (i := 5) (v := .int .i64 (i : Int)) rfl (by kernel_rfl) (fun _ _ _ h => h) rfl ?_ hHeld ?_
      · intro W hS; go_simp
      simp only [Act.put, y1, y2, y3, y4, y5, y6, y7]
      refine tk (i := 6) (v := .pointer (some ⟨b2, o2 + i, none⟩)) rfl (by kernel_rfl) (fun _ _ _ h => h) rfl ?_ hHeld ?_
      · intro W hS; go_simp
      simp only [Act.put, y1, y2, y3, y4, y5, y6, y7]
      refine tk (i := 7) (v := .string t) rfl (by kernel_rfl) (fun _ _ _ h => h) rfl ?_ hHeld ?_
      · intro W hS; have x5 := hS.2; clear hS; go_simp
      simp only [Act.put, y1, y2, y3, y4, y5, y6, y7]
      refine wpAnyH_ready (rs := [8]) (by kernel_rfl) (by simp) ?_
      refine AllReadyH.cons rfl (fun K hK => ?_) AllReadyH.nil
      go_simp
      refine (hcall'.out w1.drew B1.out.drew (T3.out.of_below (dB w1)) (T4.out.of_below (dB w1))).mono ?_
      rintro e w3 ⟨⟨a', c', rfl, hs3⟩, hB3⟩
      have B3 : Hid (Below w.heap.size w w3) := B1.out.drew.trans (hB3.mono B1.out.size)
      have I3 : Hid (Rws w3 w.heap.size q l.length i V) := (I1.out.of_below (dB w1)).of_below hB3
      have J3 : Hid (IHolds w3 bn 36 [.slice a1 L1.length c1, .slice a2 L2.length c2]) := (JN.out.of_below (dB w1)).of_below hB3
      have k3 : Hid (w3.cell? ⟨b2, o2 + i, none⟩ = some (.string t)) := cell_keep (cell_keep k5.out (dB w1)) hB3
      have R4 : Hid _ := hst.out w3 I3.out a' c' hs3
      have B4 : Hid (Below w.heap.size w (w3.setCell ⟨w.heap.size, i, none⟩ (.slice a' r.length c'))) := Below.setCell B3.out (Nat.le_refl _) _
      have f3 : w3.frozen? ⟨w.heap.size, i, none⟩ = false := I3.out.holds.frozen i
      obtain ⟨x9, hx9⟩ : ∃ x, w3.cell? ⟨w.heap.size, i, none⟩ = some x := ⟨_, I3.out.holds.cell i (by rw [I3.out.len]; exact hi)⟩
      have hx9' : Hid _ := hx9
      clear hB3 hs3 B1 I1 JN k5 T3 T4 hcall' hst hx9
      go_wp2_with fail
      refine hK.out _ _ ⟨J3.out, k3.out⟩ (fun hHeld2 => ?_)
      clear hK K hHeld
      try simp only [Act.put, y1, y2, y3, y4, y5, y6, y7]
      refine tk (i := 9) (v := .pointer (some ⟨w.heap.size, i, none⟩)) rfl (by kernel_rfl) (fun _ _ _ h => h) rfl ?_ hHeld2 ?_
      · intro W hS; go_simp
      simp only [Act.put, y1, y2, y3, y4, y5, y6, y7]
      refine wpAnyH_ready (rs := [10]) (by kernel_rfl) (by simp) ?_
      refine AllReadyH.cons rfl (fun K hK => ?_) AllReadyH.nil
      have hx9 := hx9'.out
      have J4 : Hid _ := J3.out.store hne i (.slice a' r.length c')
      have k4 : Hid _ := cell_store k3.out I3.out.holds I3.out.sl i (.slice a' r.length c')
      clear HF HS HM hHeld2 I3 J3 k3 B3 hx9'
      go_simp
      try go_wp2_with fail
      refine hK.out _ _ ⟨J4.out, k4.out⟩ (fun hHeld3 => ?_)
      clear hK K f3 hx9
      try simp only [Act.put, y1, y2, y3, y4, y5, y6, y7]
      refine wpAnyH_done (by kernel_rfl) ?_ _
      clear hHeld3 J4 k4
      generalize w3.setCell ⟨w.heap.size, i, none⟩ (.slice a' r.length c') = w4 at *
      go_wp2_with fail
      go_roundg (gk - 1)
      case measure => omega
      case rel => exact ⟨i + 1, _, by omega, by go_num, B4.out, R4.out⟩
    · have il : ¬ (i : Int) < (l.length : Int) := by omega
      have e : i = l.length := by omega
      have I5 : Hid (SLL wr (some ⟨w.heap.size, 0, none⟩) q) := by
        have h := I.out
        rw [e] at h
        exact h.done HQ.out
      clear e I
      go_wp2_with fail
      go_ret
      exact ⟨⟨_, ⟨_, rfl⟩, I5.out⟩, B.out⟩
set_option maxHeartbeats 4000000 in
theorem both86_87 {w : World} {a b : Option Addr} {l : List Cl} {m : List ByteArray} {q : List (List ByteArray)} {c d g p : Nat} (hn : l.length ≤ 64) (hml : m.length = l.length) (hql : q.length = l.length) (hs : CM w a l) (hm : SL w b m)
    (CF : ∀ i (h1 : i < l.length) (h2 : i < m.length) (h3 : i < q.length) a1 c1 a2 c2 W, Below w.heap.size w W → SL W a1 (l[i]).1 → SL W a2 (l[i]).2 → Calls Tryz.prog 95 #[.agg #[.slice a1 (l[i]).1.length c1, .slice a2 (l[i]).2.length c2], .string m[i], .pointer (some ⟨g, 0, none⟩), .pointer (some ⟨p, 0, none⟩)] W fun e w' => (∃ a' c', e = .returned (.slice a' (q[i]).length c') ∧ SY w' a' c' q[i]) ∧ Below W.heap.size W w') :
    Calls Tryz.prog 85 #[.slice a l.length c, .slice b m.length d, .func (.func 95) #[] #[.pointer (some ⟨g, 0, none⟩), .pointer (some ⟨p, 0, none⟩)]] w fun e w' => (∃ a' c', e = .returned (.slice a' l.length c') ∧ SLL w' a' q) ∧ Below w.heap.size w w' := by
  have HS : Hid (CM w a l) := hs
  have HM : Hid (SL w b m) := hm
  have HQ : Hid (q.length = l.length) := hql
  have HF : Hid _ := CF
  have hmk := make25 _ l.length rfl (by omega) w
  have JR : Hid (Rws (w.alloc (.cells (List.replicate l.length (Value.slice none 0 0)).toArray 22)) w.heap.size q l.length 0 (List.replicate l.length (Value.slice none 0 0))) := Rws.begin q l.length
  have JB : Hid (Below w.heap.size w (w.alloc (.cells (List.replicate l.length (Value.slice none 0 0)).toArray 22))) := (Below.refl _ w).alloc (Nat.le_refl _) _
  rw [hml]
  clear hs hm hql CF
  go_enter Tryz.func85, Tryz.ntmps85
  generalize w.alloc (.cells (List.replicate l.length (Value.slice none 0 0)).toArray 22) = U at *
  go_wp2_with fail
  go_loopg [8, 9, 15] l.length (fun gk v8 v9 v15 wr => ∃ (i : Nat) (V : List Value), i + gk = l.length ∧ v15 = .int .i64 (i : Int) ∧ Below w.heap.size w wr ∧ Rws wr w.heap.size q l.length i V)
  case atStart => exact ⟨0, _, by omega, rfl, JB.out, JR.out⟩
  case round =>
    obtain ⟨i, V, hig, rfl, hB, hI⟩ := hrel
    have B : Hid (Below w.heap.size w wr) := hB
    have I : Hid (Rws wr w.heap.size q l.length i V) := hI
    clear hB hI JR JB hmk
    by_cases hi : i < l.length
    · have hi2 : i < m.length := by omega
      have hi3 : i < q.length := by have := HQ.out; omega
      have il : (i : Int) < (l.length : Int) := by omega
      obtain ⟨b1, o1, a1, c1, a2, c2, rfl, h1, h2, h3, h4⟩ := HS.out.of_below B.out i hi
      obtain ⟨b2, o2, rfl, h5⟩ := HM.out.of_below B.out i hi2
      have hcall := fun W hW => HF.out i hi hi2 hi3 a1 c1 a2 c2 W hW
      have hst : Hid _ := fun (w3 : World) (R : Rws w3 w.heap.size q l.length i V) (a' : Option Addr) (c' : Nat) (hs : SY w3 a' c' q[i]) => Rws.step (c := c') R hi hi3 hs
      have S3 : Hid (SL wr a1 (l[i]).1) := h3
      have S4 : Hid (SL wr a2 (l[i]).2) := h4
      clear h3 h4
      generalize (l[i]).1 = L1 at *
      generalize (l[i]).2 = L2 at *
      generalize m[i] = t at *
      generalize q[i] = r at *
      have hcall' : Hid _ := hcall
      clear hcall
      have JN : Hid (IHolds (wr.alloc (.cells #[.slice a1 L1.length c1, .slice a2 L2.length c2] 36)) wr.heap.size 36 [.slice a1 L1.length c1, .slice a2 L2.length c2]) := IHolds.new _ _ _
      have BN : Hid (Below wr.heap.size wr (wr.alloc (.cells #[.slice a1 L1.length c1, .slice a2 L2.length c2] 36))) := (Below.refl _ _).alloc (Nat.le_refl _) _
      have k5 : Hid _ := cell_keep h5 BN.out
      go_wp2_with fail
      clear h1 h2 h5
      have hne : wr.heap.size ≠ w.heap.size := by have := I.out.holds.lt; omega
      generalize wr.alloc (.cells #[.slice a1 L1.length c1, .slice a2 L2.length c2] 36) = w1 at *
      have B1 : Hid (Below w.heap.size w w1) := B.out.trans (BN.out.mono B.out.size)
      have I1 : Hid (Rws w1 w.heap.size q l.length i V) := I.out.of_below BN.out
      have T3 : Hid (SL w1 a1 L1) := S3.out.of_below BN.out
      have T4 : Hid (SL w1 a2 L2) := S4.out.of_below BN.out
      clear B I S3 S4 BN
      generalize wr.heap.size = bn at *
      refine wp_region_held_drew (S := fun W => IHolds W bn 36 [.slice a1 L1.length c1, .slice a2 L2.length c2] ∧ W.cell? ⟨b2, o2 + i, none⟩ = some (.string t)) (by kernel_rfl) ⟨JN.out, k5.out⟩ (fun hHeld => ?_)
      refine tk (i := 0) (v := .slice (some ⟨w.heap.size, 0, none⟩) l.length l.length) rfl (by kernel_rfl) (fun _ _ _ h => h) rfl ?_ hHeld ?_
      · intro W hS; go_simp
      simp only [Act.put, y1, y2, y3, y4, y5, y6, y7]
      refine tk (i := 1) (v := .int .i64 (i : Int)) rfl (by kernel_rfl) (fun _ _ _ h => h) rfl ?_ hHeld ?_
      · intro W hS; go_simp
      simp only [Act.put, y1, y2, y3, y4, y5, y6, y7]
      refine tk (i := 2) (v := .func (.func 95) #[] #[.pointer (some ⟨g, 0, none⟩), .pointer (some ⟨p, 0, none⟩)]) rfl (by kernel_rfl) (fun _ _ _ h => h) rfl ?_ hHeld ?_
      · intro W hS; go_simp
      simp only [Act.put, y1, y2, y3, y4, y5, y6, y7]
      refine tk (i := 3) (v := .agg #[.slice a1 L1.length c1, .slice a2 L2.length c2]) rfl (by kernel_rfl) (fun _ _ _ h => h) rfl ?_ hHeld ?_
      · intro W hS; obtain ⟨x0, x1⟩ := Go.Proofs.YtmpiipcllgjhdaaGreatDoor.c2 hS.1; clear hS; go_simp
      simp only [Act.put, y1, y2, y3, y4, y5, y6, y7]
      refine tk (i := 4) (v := .slice (some ⟨b2, o2, none⟩) l.length d) rfl (by kernel_rfl) (fun _ _ _ h => h) rfl ?_ hHeld ?_
      · intro W hS; go_simp
      simp only [Act.put, y1, y2, y3, y4, y5, y6, y7]
      refine tk (i := 5) (v := .int .i64 (i : Int)) rfl (by kernel_rfl) (fun _ _ _ h => h) rfl ?_ hHeld ?_
      · intro W hS; go_simp
      simp only [Act.put, y1, y2, y3, y4, y5, y6, y7]
      refine tk (i := 6) (v := .pointer (some ⟨b2, o2 + i, none⟩)) rfl (by kernel_rfl) (fun _ _ _ h => h) rfl ?_ hHeld ?_
      · intro W hS; go_simp
      simp only [Act.put, y1, y2, y3, y4, y5, y6, y7]
      refine tk (i := 7) (v := .string t) rfl (by kernel_rfl) (fun _ _ _ h => h) rfl ?_ hHeld ?_
      · intro W hS; have x5 := hS.2; clear hS; go_simp
      simp only [Act.put, y1, y2, y3, y4, y5, y6, y7]
      refine wpAnyH_ready (rs := [8]) (by kernel_rfl) (by simp) ?_
      refine AllReadyH.cons rfl (fun K hK => ?_) AllReadyH.nil
      go_simp
      refine (hcall'.out w1.drew B1.out.drew (T3.out.of_below (dB w1)) (T4.out.of_below (dB w1))).mono ?_
      rintro e w3 ⟨⟨a', c', rfl, hs3⟩, hB3⟩
      have B3 : Hid (Below w.heap.size w w3) := B1.out.drew.trans (hB3.mono B1.out.size)
      have I3 : Hid (Rws w3 w.heap.size q l.length i V) := (I1.out.of_below (dB w1)).of_below hB3
      have J3 : Hid (IHolds w3 bn 36 [.slice a1 L1.length c1, .slice a2 L2.length c2]) := (JN.out.of_below (dB w1)).of_below hB3
      have k3 : Hid (w3.cell? ⟨b2, o2 + i, none⟩ = some (.string t)) := cell_keep (cell_keep k5.out (dB w1)) hB3
      have R4 : Hid _ := hst.out w3 I3.out a' c' hs3
      have B4 : Hid (Below w.heap.size w (w3.setCell ⟨w.heap.size, i, none⟩ (.slice a' r.length c'))) := Below.setCell B3.out (Nat.le_refl _) _
      have f3 : w3.frozen? ⟨w.heap.size, i, none⟩ = false := I3.out.holds.frozen i
      obtain ⟨x9, hx9⟩ : ∃ x, w3.cell? ⟨w.heap.size, i, none⟩ = some x := ⟨_, I3.out.holds.cell i (by rw [I3.out.len]; exact hi)⟩
      have hx9' : Hid _ := hx9
      clear hB3 hs3 B1 I1 JN k5 T3 T4 hcall' hst hx9
      go_wp2_with fail
      refine hK.out _ _ ⟨J3.out, k3.out⟩ (fun hHeld2 => ?_)
      clear hK K hHeld
      try simp only [Act.put, y1, y2, y3, y4, y5, y6, y7]
      refine tk (i := 9) (v := .pointer (some ⟨w.heap.size, i, none⟩)) rfl (by kernel_rfl) (fun _ _ _ h => h) rfl ?_ hHeld2 ?_
      · intro W hS; go_simp
      simp only [Act.put, y1, y2, y3, y4, y5, y6, y7]
      refine wpAnyH_ready (rs := [10]) (by kernel_rfl) (by simp) ?_
      refine AllReadyH.cons rfl (fun K hK => ?_) AllReadyH.nil
      have hx9 := hx9'.out
      have J4 : Hid _ := J3.out.store hne i (.slice a' r.length c')
      have k4 : Hid _ := cell_store k3.out I3.out.holds I3.out.sl i (.slice a' r.length c')
      clear HF HS HM hHeld2 I3 J3 k3 B3 hx9'
      go_simp
      try go_wp2_with fail
      refine hK.out _ _ ⟨J4.out, k4.out⟩ (fun hHeld3 => ?_)
      clear hK K f3 hx9
      try simp only [Act.put, y1, y2, y3, y4, y5, y6, y7]
      refine wpAnyH_done (by kernel_rfl) ?_ _
      clear hHeld3 J4 k4
      generalize w3.setCell ⟨w.heap.size, i, none⟩ (.slice a' r.length c') = w4 at *
      go_wp2_with fail
      go_roundg (gk - 1)
      case measure => omega
      case rel => exact ⟨i + 1, _, by omega, by go_num, B4.out, R4.out⟩
    · have il : ¬ (i : Int) < (l.length : Int) := by omega
      have e : i = l.length := by omega
      have I5 : Hid (SLL wr (some ⟨w.heap.size, 0, none⟩) q) := by
        have h := I.out
        rw [e] at h
        exact h.done HQ.out
      clear e I
      go_wp2_with fail
      go_ret
      exact ⟨⟨_, ⟨_, rfl⟩, I5.out⟩, B.out⟩
end Go.Proofs.YtmpiipcllgjhdaaGreatDoor
namespace Go.Proofs.YtmpiipcllgjhdaaGreatDoor
open Go.RowKit Go.Deep Go.PlainAid

theorem hmfun : ∀ (fn : Fn) (first cap : Array Value) (w : World), (Instr.makeFunc fn first cap).run Tryz.prog w = .ok (.func fn first cap) w := fun _ _ _ _ => rfl
theorem firsts46_any {w : World} {a b : Option Addr} {n m c d : Nat} {z : Int} {q : List (List ByteArray)}
    (C : ∀ W, Below w.heap.size w W → IHolds W w.heap.size 53 [.int .i64 z, .slice a n c] → Calls Tryz.prog 85 #[.slice a n c, .slice b m d, .func (.func 86) #[] #[.pointer (some ⟨w.heap.size, 0, none⟩)]] W fun e w' => (∃ a' c', e = .returned (.slice a' n c') ∧ SLL w' a' q) ∧ Below W.heap.size W w') :
    Calls Tryz.prog 47 #[.agg #[.int .i64 z, .slice a n c], .slice b m d] w fun e w' => (∃ a' c', e = .returned (.slice a' n c') ∧ SLL w' a' q) ∧ Below w.heap.size w w' := by
  have hmf := hmfun
  have H : Hid _ := C
  clear C
  have B : Hid (Below w.heap.size w (w.alloc (.cells #[.int .i64 z, .slice a n c] 53))) := (Below.refl _ w).alloc (Nat.le_refl _) _
  have I : Hid (IHolds (w.alloc (.cells #[.int .i64 z, .slice a n c] 53)) w.heap.size 53 [.int .i64 z, .slice a n c]) := IHolds.new _ _ _
  go_enter Tryz.func47, Tryz.ntmps47
  go_wp2_with (go_at_call 85; refine (H.out _ B.out I.out).mono ?_; rintro e w1 ⟨⟨a', c', rfl, hs1⟩, hB1⟩)
  go_ret
  exact ⟨⟨a', c', rfl, hs1⟩, B.out.trans (hB1.mono B.out.size)⟩
set_option maxRecDepth 100000 in
set_option maxHeartbeats 2000000 in
theorem back45_any {w : World} {a b : Option Addr} {n m c d : Nat} {z : Int} {q : List (List ByteArray)} {o r u : ByteArray}
    (C1 : Hid (∀ W, Calls Tryz.prog 56 #[.agg #[.int .i64 z]] W fun e w' => e = .returned (.string o) ∧ Below W.heap.size W w'))
    (C2 : Hid (∀ W, Calls Tryz.prog 57 #[.agg #[.int .i64 z], .string o, .string u] W fun e w' => e = .returned (.string r) ∧ Below W.heap.size W w'))
    (C3 : Hid (∀ W pb, Below w.heap.size w W → IHolds W w.heap.size 53 [.int .i64 z, .slice a n c] → IHolds W pb 9 [.string r] → Calls Tryz.prog 85 #[.slice a n c, .slice b m d, .func (.func 95) #[] #[.pointer (some ⟨w.heap.size, 0, none⟩), .pointer (some ⟨pb, 0, none⟩)]] W fun e w' => (∃ a' c', e = .returned (.slice a' n c') ∧ SLL w' a' q) ∧ Below W.heap.size W w')) :
    Calls Tryz.prog 51 #[.agg #[.int .i64 z, .slice a n c], .string u, .slice b m d] w fun e w' => (∃ a' c', e = .returned (.slice a' n c') ∧ SLL w' a' q) ∧ Below w.heap.size w w' := by
  have hmf := hmfun
  go_enter Tryz.func51, Tryz.ntmps51
  go_wp2_with fail
  obtain ⟨U1, hU1⟩ : ∃ X, X = (w.alloc (.cells #[.int .i64 z, .slice a n c] 53)) := ⟨_, rfl⟩
  have Jg : Hid (IHolds U1 (w.heap.size) 53 [.int .i64 z, .slice a n c]) := by
    have q := IHolds.new w 53 [.int .i64 z, .slice a n c]
    show IHolds _ _ _ _
    rw [hU1]
    exact q
  have B : Hid (Below w.heap.size w U1) := by
    show Below _ _ _
    rw [hU1]
    exact ((Below.refl _ w).alloc (Nat.le_refl _) _)
  rw [← hU1]
  clear hU1
  have hb := dB U1
  replace B := aB B hb
  replace Jg := aJ Jg hb
  clear hb
  refine wp_region_held_drew (S := fun W => (IHolds W (w.heap.size) 53 [.int .i64 z, .slice a n c])) (by kernel_rfl) Jg.out (fun hHeld1 => ?_)
  generalize U1.drew = U2 at *
  refine tk (i := 0) (v := .pointer (some ⟨w.heap.size, 0, none⟩)) rfl (by kernel_rfl) (fun _ _ _ h => h) rfl ?_ hHeld1 ?_
  · intro W hS; go_simp
  simp only [Act.put, y1, y2, y3, y4, y5, y6, y7]
  refine tk (i := 2) (v := .pointer (some ⟨w.heap.size, 0, none⟩)) rfl (by kernel_rfl) (fun _ _ _ h => h) rfl ?_ hHeld1 ?_
  · intro W hS; go_simp
  simp only [Act.put, y1, y2, y3, y4, y5, y6, y7]
  refine tk (i := 5) (v := .string u) rfl (by kernel_rfl) (fun _ _ _ h => h) rfl ?_ hHeld1 ?_
  · intro W hS; go_simp
  simp only [Act.put, y1, y2, y3, y4, y5, y6, y7]
  refine tk (i := 1) (v := .agg #[.int .i64 z]) rfl (by kernel_rfl) (fun _ _ _ h => h) rfl ?_ hHeld1 ?_
  · intro W hS; obtain ⟨zg_0, zg_1⟩ := c2 hS; go_simp
  simp only [Act.put, y1, y2, y3, y4, y5, y6, y7]
  refine tk (i := 3) (v := .agg #[.int .i64 z]) rfl (by kernel_rfl) (fun _ _ _ h => h) rfl ?_ hHeld1 ?_
  · intro W hS; obtain ⟨zg_0, zg_1⟩ := c2 hS; go_simp
  simp only [Act.put, y1, y2, y3, y4, y5, y6, y7]
  refine wpAnyH_ready (rs := [4, 7]) (by kernel_rfl) (by simp) ?_
  refine AllReadyH.cons rfl (fun K hK => ?_) (AllReadyH.cons rfl (fun K hK => ?_) AllReadyH.nil)
  · clear hHeld1
    go_simp
    refine (C1.out U2).mono ?_
    rintro e U3 ⟨rfl, hb⟩
    replace B := aB B hb
    replace Jg := aJ Jg hb
    clear hb
    go_wp2_with fail
    refine hK.out _ _ (Jg.out) (fun hHeld2 => ?_)
    clear hK K
    try simp only [Act.put, y1, y2, y3, y4, y5, y6, y7]
    refine wpAnyH_ready (rs := [6, 7]) (by kernel_rfl) (by simp) ?_
    refine AllReadyH.cons rfl (fun K hK => ?_) (AllReadyH.cons rfl (fun K hK => ?_) AllReadyH.nil)
    · clear hHeld2
      go_simp
      refine (C2.out U3).mono ?_
      rintro e U4 ⟨rfl, hb⟩
      replace B := aB B hb
      replace Jg := aJ Jg hb
      clear hb
      go_wp2_with fail
      refine hK.out _ _ (Jg.out) (fun hHeld3 => ?_)
      clear hK K
      try simp only [Act.put, y1, y2, y3, y4, y5, y6, y7]
      refine wpAnyH_ready (rs := [7]) (by kernel_rfl) (by simp) ?_
      refine AllReadyH.cons rfl (fun K hK => ?_) AllReadyH.nil
      clear hHeld3
      go_simp
      have ne_g_p := nJ Jg
      have ge_p : Hid (w.heap.size ≤ U4.heap.size) := B.out.size
      have hb := nB U4 (.cells #[.string ⟨#[]⟩] 9)
      have Jp : Hid (IHolds (U4.alloc (.cells #[.string ⟨#[]⟩] 9)) U4.heap.size 9 [.string ⟨#[]⟩]) := IHolds.new _ _ _
      replace B := aB B hb
      replace Jg := aJ Jg hb
      clear hb
      generalize (U4.alloc (.cells #[.string ⟨#[]⟩] 9)) = U5 at *
      generalize U4.heap.size = b6 at *
      refine hK.out _ _ (Jg.out) (fun hHeld4 => ?_)
      clear hK K
      try simp only [Act.put, y1, y2, y3, y4, y5, y6, y7]
      refine wpAnyH_ready (rs := [8]) (by kernel_rfl) (by simp) ?_
      refine AllReadyH.cons rfl (fun K hK => ?_) AllReadyH.nil
      clear hHeld4
      have zp_0 : U5.cell? ⟨b6, 0, none⟩ = some (.string ⟨#[]⟩) := IHolds.cell (l := [.string ⟨#[]⟩]) (t := 9) (b := b6) (w := U5) (Jp.out) 0 (by simp)
      have f0 := fJ Jp
      have hBut : But (b6) U5 (U5.setCell ⟨b6, 0, none⟩ (.string r)) := ((But.refl _ U5).setCell 0 (.string r))
      have I4 : Hid (IHolds _ (b6) 9 [.string r]) := (Jp.out.set 0 (.string r))
      replace B : Hid (Below w.heap.size w (U5.setCell ⟨b6, 0, none⟩ (.string r))) := (B.out.setCell (by first | exact Nat.le_refl _ | exact ge_p.out | (show w.heap.size ≤ b6; omega)) _)
      replace Jg := tJ Jg hBut ne_g_p.out
      replace Jp := I4
      clear I4 hBut
      go_simp
      try go_wp2_with fail
      clear zp_0
      clear f0
      generalize (U5.setCell ⟨b6, 0, none⟩ (.string r)) = U7 at *
      refine hK.out _ _ (Jg.out) (fun hHeld5 => ?_)
      clear hK K
      try simp only [Act.put, y1, y2, y3, y4, y5, y6, y7]
      refine wpAnyH_done (by kernel_rfl) ?_ _
      clear hHeld5
      obtain ⟨zg_0, zg_1⟩ := cJ Jg
      go_wp2_with fail
      refine (C3.out _ _ B.out Jg.out Jp.out).mono ?_
      rintro e wz ⟨⟨a', c', rfl, hs1⟩, hB1⟩
      have BZ : Hid (Below w.heap.size w wz) := aB B hB1
      clear hB1
      go_wp2_with fail
      go_ret
      exact ⟨⟨a', c', rfl, hs1⟩, BZ.out⟩
    · clear hHeld2
      go_simp
      have ne_g_p := nJ Jg
      have ge_p : Hid (w.heap.size ≤ U3.heap.size) := B.out.size
      have hb := nB U3 (.cells #[.string ⟨#[]⟩] 9)
      have Jp : Hid (IHolds (U3.alloc (.cells #[.string ⟨#[]⟩] 9)) U3.heap.size 9 [.string ⟨#[]⟩]) := IHolds.new _ _ _
      replace B := aB B hb
      replace Jg := aJ Jg hb
      clear hb
      generalize (U3.alloc (.cells #[.string ⟨#[]⟩] 9)) = U8 at *
      generalize U3.heap.size = b9 at *
      refine hK.out _ _ (Jg.out) (fun hHeld6 => ?_)
      clear hK K
      try simp only [Act.put, y1, y2, y3, y4, y5, y6, y7]
      refine wpAnyH_ready (rs := [6]) (by kernel_rfl) (by simp) ?_
      refine AllReadyH.cons rfl (fun K hK => ?_) AllReadyH.nil
      clear hHeld6
      go_simp
      refine (C2.out U8).mono ?_
      rintro e U10 ⟨rfl, hb⟩
      replace B := aB B hb
      replace Jg := aJ Jg hb
      replace Jp := aJ Jp hb
      clear hb
      go_wp2_with fail
      refine hK.out _ _ (Jg.out) (fun hHeld7 => ?_)
      clear hK K
      try simp only [Act.put, y1, y2, y3, y4, y5, y6, y7]
      refine wpAnyH_ready (rs := [8]) (by kernel_rfl) (by simp) ?_
      refine AllReadyH.cons rfl (fun K hK => ?_) AllReadyH.nil
      clear hHeld7
      have zp_0 : U10.cell? ⟨b9, 0, none⟩ = some (.string ⟨#[]⟩) := IHolds.cell (l := [.string ⟨#[]⟩]) (t := 9) (b := b9) (w := U10) (Jp.out) 0 (by simp)
      have f0 := fJ Jp
      have hBut : But (b9) U10 (U10.setCell ⟨b9, 0, none⟩ (.string r)) := ((But.refl _ U10).setCell 0 (.string r))
      have I4 : Hid (IHolds _ (b9) 9 [.string r]) := (Jp.out.set 0 (.string r))
      replace B : Hid (Below w.heap.size w (U10.setCell ⟨b9, 0, none⟩ (.string r))) := (B.out.setCell (by first | exact Nat.le_refl _ | exact ge_p.out | (show w.heap.size ≤ b9; omega)) _)
      replace Jg := tJ Jg hBut ne_g_p.out
      replace Jp := I4
      clear I4 hBut
      go_simp
      try go_wp2_with fail
      clear zp_0
      clear f0
      generalize (U10.setCell ⟨b9, 0, none⟩ (.string r)) = U11 at *
      refine hK.out _ _ (Jg.out) (fun hHeld8 => ?_)
      clear hK K
      try simp only [Act.put, y1, y2, y3, y4, y5, y6, y7]
      refine wpAnyH_done (by kernel_rfl) ?_ _
      clear hHeld8
      obtain ⟨zg_0, zg_1⟩ := cJ Jg
      go_wp2_with fail
      refine (C3.out _ _ B.out Jg.out Jp.out).mono ?_
      rintro e wz ⟨⟨a', c', rfl, hs1⟩, hB1⟩
      have BZ : Hid (Below w.heap.size w wz) := aB B hB1
      clear hB1
      go_wp2_with fail
      go_ret
      exact ⟨⟨a', c', rfl, hs1⟩, BZ.out⟩
  · clear hHeld1
    go_simp
    have ne_g_p := nJ Jg
    have ge_p : Hid (w.heap.size ≤ U2.heap.size) := B.out.size
    have hb := nB U2 (.cells #[.string ⟨#[]⟩] 9)
    have Jp : Hid (IHolds (U2.alloc (.cells #[.string ⟨#[]⟩] 9)) U2.heap.size 9 [.string ⟨#[]⟩]) := IHolds.new _ _ _
    replace B := aB B hb
    replace Jg := aJ Jg hb
    clear hb
    generalize (U2.alloc (.cells #[.string ⟨#[]⟩] 9)) = U12 at *
    generalize U2.heap.size = b13 at *
    refine hK.out _ _ (Jg.out) (fun hHeld9 => ?_)
    clear hK K
    try simp only [Act.put, y1, y2, y3, y4, y5, y6, y7]
    refine wpAnyH_ready (rs := [4]) (by kernel_rfl) (by simp) ?_
    refine AllReadyH.cons rfl (fun K hK => ?_) AllReadyH.nil
    clear hHeld9
    go_simp
    refine (C1.out U12).mono ?_
    rintro e U14 ⟨rfl, hb⟩
    replace B := aB B hb
    replace Jg := aJ Jg hb
    replace Jp := aJ Jp hb
    clear hb
    go_wp2_with fail
    refine hK.out _ _ (Jg.out) (fun hHeld10 => ?_)
    clear hK K
    try simp only [Act.put, y1, y2, y3, y4, y5, y6, y7]
    refine wpAnyH_ready (rs := [6]) (by kernel_rfl) (by simp) ?_
    refine AllReadyH.cons rfl (fun K hK => ?_) AllReadyH.nil
    clear hHeld10
    go_simp
    refine (C2.out U14).mono ?_
    rintro e U15 ⟨rfl, hb⟩
    replace B := aB B hb
    replace Jg := aJ Jg hb
    replace Jp := aJ Jp hb
    clear hb
    go_wp2_with fail
    refine hK.out _ _ (Jg.out) (fun hHeld11 => ?_)
    clear hK K
    try simp only [Act.put, y1, y2, y3, y4, y5, y6, y7]
    refine wpAnyH_ready (rs := [8]) (by kernel_rfl) (by simp) ?_
    refine AllReadyH.cons rfl (fun K hK => ?_) AllReadyH.nil
    clear hHeld11
    have zp_0 : U15.cell? ⟨b13, 0, none⟩ = some (.string ⟨#[]⟩) := IHolds.cell (l := [.string ⟨#[]⟩]) (t := 9) (b := b13) (w := U15) (Jp.out) 0 (by simp)
    have f0 := fJ Jp
    have hBut : But (b13) U15 (U15.setCell ⟨b13, 0, none⟩ (.string r)) := ((But.refl _ U15).setCell 0 (.string r))
    have I4 : Hid (IHolds _ (b13) 9 [.string r]) := (Jp.out.set 0 (.string r))
    replace B : Hid (Below w.heap.size w (U15.setCell ⟨b13, 0, none⟩ (.string r))) := (B.out.setCell (by first | exact Nat.le_refl _ | exact ge_p.out | (show w.heap.size ≤ b13; omega)) _)
    replace Jg := tJ Jg hBut ne_g_p.out
    replace Jp := I4
    clear I4 hBut
    go_simp
    try go_wp2_with fail
    clear zp_0
    clear f0
    generalize (U15.setCell ⟨b13, 0, none⟩ (.string r)) = U16 at *
    refine hK.out _ _ (Jg.out) (fun hHeld12 => ?_)
    clear hK K
    try simp only [Act.put, y1, y2, y3, y4, y5, y6, y7]
    refine wpAnyH_done (by kernel_rfl) ?_ _
    clear hHeld12
    obtain ⟨zg_0, zg_1⟩ := cJ Jg
    go_wp2_with fail
    refine (C3.out _ _ B.out Jg.out Jp.out).mono ?_
    rintro e wz ⟨⟨a', c', rfl, hs1⟩, hB1⟩
    have BZ : Hid (Below w.heap.size w wz) := aB B hB1
    clear hB1
    go_wp2_with fail
    go_ret
    exact ⟨⟨a', c', rfl, hs1⟩, BZ.out⟩
end Go.Proofs.YtmpiipcllgjhdaaGreatDoor
namespace Go.Proofs.YtmpiipcllgjhdaaGreatDoor
open Go.RowKit Go.Deep Go.PlainAid

end Go.Proofs.YtmpiipcllgjhdaaGreatDoor
namespace Go.Proofs.YtmpiipcllgjhdaaGreatDoor
open Go.RowKit Go.Deep Go.PlainAid

set_option maxHeartbeats 2000000 in
theorem set18_A {w : World} {a : Option Addr} {n c : Nat} {z : Int} (g1 : (64 : Int) < (n : Int))  :
    Calls Tryz.prog 40 #[.agg #[.int .i64 z], .slice a n c] w fun e w' => e = .returned (.tuple #[.agg #[.int .i64 0, .slice none 0 0], .int .i64 3]) ∧ Below w.heap.size w w' := by
  have hmf : ∀ (fn : Fn) (first cap : Array Value) (w : World), (Instr.makeFunc fn first cap).run Tryz.prog w = .ok (.func fn first cap) w := fun _ _ _ _ => rfl
  generalize hW : (w.alloc (.cells #[.int .i64 z] 51)).alloc (.cells #[.int .i64 0, .slice none 0 0] 53) = U
  have B : Hid (Below w.heap.size w U) := by rw [← hW]; exact ((Below.refl _ w).alloc (Nat.le_refl _) _).alloc (by simp) _
  have J0 : Hid (IHolds U w.heap.size 51 [.int .i64 z]) := by rw [← hW]; exact (IHolds.new w 51 [.int .i64 z]).alloc _
  have K0 : Hid (IHolds U (w.heap.size + 1) 53 [.int .i64 0, .slice none 0 0]) := by rw [← hW]; exact IHolds.new' _ 53 [_, _] (by simp)
  go_enter Tryz.func40, Tryz.ntmps40
  have r0 : U.cell? ⟨w.heap.size + 1, 0, none⟩ = some (.int .i64 0) := K0.out.cell 0 (by simp)
  have s0 : U.cell? ⟨w.heap.size + 1, 1, none⟩ = some (.slice none 0 0) := K0.out.cell 1 (by simp)
  have f0 := K0.out.frozen
  go_wp2_with fail
  have I9 : Hid (IHolds ((U.setCell ⟨w.heap.size + 1, 0, none⟩ (.int .i64 0)).setCell ⟨w.heap.size + 1, 1, none⟩ (.slice none 0 0)) (w.heap.size + 1) 53 [.int .i64 0, .slice none 0 0]) := (K0.out.set 0 (.int .i64 0)).set 1 (.slice none 0 0)
  have B9 : Hid (Below w.heap.size w ((U.setCell ⟨w.heap.size + 1, 0, none⟩ (.int .i64 0)).setCell ⟨w.heap.size + 1, 1, none⟩ (.slice none 0 0))) := (B.out.setCell (by simp) _).setCell (by simp) _
  generalize (U.setCell ⟨w.heap.size + 1, 0, none⟩ (.int .i64 0)).setCell ⟨w.heap.size + 1, 1, none⟩ (.slice none 0 0) = w9 at *
  have E0 : w9.cell? ⟨w.heap.size + 1, 0, none⟩ = some (.int .i64 0) := I9.out.cell 0 (by simp)
  have E1 : w9.cell? ⟨w.heap.size + 1, 1, none⟩ = some (.slice none 0 0) := I9.out.cell 1 (by simp)
  exact bodyPost_ret (v := .tuple #[.agg #[.int .i64 0, .slice none 0 0], .int .i64 3]) (by simp [results, Tryz.results40, go_sem, E0, E1]) rfl ⟨rfl, B9.out⟩
set_option maxHeartbeats 2000000 in
theorem set18_B {w : World} {a : Option Addr} {n c : Nat} {z : Int} (g1 : ¬ (64 : Int) < (n : Int)) (H1 : Hid (∀ W, Below w.heap.size w W → Calls Tryz.prog 71 #[.slice a n c, .func (.func 72) #[] #[]] W fun e w' => e = .returned (.bool true) ∧ Below W.heap.size W w')) :
    Calls Tryz.prog 40 #[.agg #[.int .i64 z], .slice a n c] w fun e w' => e = .returned (.tuple #[.agg #[.int .i64 0, .slice none 0 0], .int .i64 3]) ∧ Below w.heap.size w w' := by
  have hmf : ∀ (fn : Fn) (first cap : Array Value) (w : World), (Instr.makeFunc fn first cap).run Tryz.prog w = .ok (.func fn first cap) w := fun _ _ _ _ => rfl
  generalize hW : (w.alloc (.cells #[.int .i64 z] 51)).alloc (.cells #[.int .i64 0, .slice none 0 0] 53) = U
  have B : Hid (Below w.heap.size w U) := by rw [← hW]; exact ((Below.refl _ w).alloc (Nat.le_refl _) _).alloc (by simp) _
  have J0 : Hid (IHolds U w.heap.size 51 [.int .i64 z]) := by rw [← hW]; exact (IHolds.new w 51 [.int .i64 z]).alloc _
  have K0 : Hid (IHolds U (w.heap.size + 1) 53 [.int .i64 0, .slice none 0 0]) := by rw [← hW]; exact IHolds.new' _ 53 [_, _] (by simp)
  go_enter Tryz.func40, Tryz.ntmps40
  have r0 : U.cell? ⟨w.heap.size + 1, 0, none⟩ = some (.int .i64 0) := K0.out.cell 0 (by simp)
  have s0 : U.cell? ⟨w.heap.size + 1, 1, none⟩ = some (.slice none 0 0) := K0.out.cell 1 (by simp)
  have f0 := K0.out.frozen
  go_wp2_with (go_at_call 71; first
    | (have zz := B.out; clear zz; refine (H1.out _ B.out).mono ?_; rintro e w1 ⟨rfl, hB1⟩; have B1 : Hid (Below w.heap.size w w1) := B.out.trans (hB1.mono B.out.size); have J1 : Hid (IHolds w1 w.heap.size 51 [.int .i64 z]) := J0.out.of_below hB1; have K1 : Hid (IHolds w1 (w.heap.size + 1) 53 [.int .i64 0, .slice none 0 0]) := K0.out.of_below hB1; have q1 : w1.cell? ⟨w.heap.size, 0, none⟩ = some (.int .i64 z) := J1.out.cell 0 (by simp); have r1 : w1.cell? ⟨w.heap.size + 1, 0, none⟩ = some (.int .i64 0) := K1.out.cell 0 (by simp); have s1 : w1.cell? ⟨w.heap.size + 1, 1, none⟩ = some (.slice none 0 0) := K1.out.cell 1 (by simp); have f1 := K1.out.frozen; clear hB1 H1 B))
  have I9 : Hid (IHolds ((w1.setCell ⟨w.heap.size + 1, 0, none⟩ (.int .i64 0)).setCell ⟨w.heap.size + 1, 1, none⟩ (.slice none 0 0)) (w.heap.size + 1) 53 [.int .i64 0, .slice none 0 0]) := (K1.out.set 0 (.int .i64 0)).set 1 (.slice none 0 0)
  have B9 : Hid (Below w.heap.size w ((w1.setCell ⟨w.heap.size + 1, 0, none⟩ (.int .i64 0)).setCell ⟨w.heap.size + 1, 1, none⟩ (.slice none 0 0))) := (B1.out.setCell (by simp) _).setCell (by simp) _
  generalize (w1.setCell ⟨w.heap.size + 1, 0, none⟩ (.int .i64 0)).setCell ⟨w.heap.size + 1, 1, none⟩ (.slice none 0 0) = w9 at *
  have E0 : w9.cell? ⟨w.heap.size + 1, 0, none⟩ = some (.int .i64 0) := I9.out.cell 0 (by simp)
  have E1 : w9.cell? ⟨w.heap.size + 1, 1, none⟩ = some (.slice none 0 0) := I9.out.cell 1 (by simp)
  exact bodyPost_ret (v := .tuple #[.agg #[.int .i64 0, .slice none 0 0], .int .i64 3]) (by simp [results, Tryz.results40, go_sem, E0, E1]) rfl ⟨rfl, B9.out⟩
set_option maxHeartbeats 2000000 in
theorem set18_C {w : World} {a : Option Addr} {n c : Nat} {z : Int} (g1 : ¬ (64 : Int) < (n : Int)) (g2 : ((n : Int) == 0) = true) (H1 : Hid (∀ W, Below w.heap.size w W → Calls Tryz.prog 71 #[.slice a n c, .func (.func 72) #[] #[]] W fun e w' => e = .returned (.bool false) ∧ Below W.heap.size W w')) :
    Calls Tryz.prog 40 #[.agg #[.int .i64 z], .slice a n c] w fun e w' => e = .returned (.tuple #[.agg #[.int .i64 0, .slice none 0 0], .int .i64 2]) ∧ Below w.heap.size w w' := by
  have hmf : ∀ (fn : Fn) (first cap : Array Value) (w : World), (Instr.makeFunc fn first cap).run Tryz.prog w = .ok (.func fn first cap) w := fun _ _ _ _ => rfl
  generalize hW : (w.alloc (.cells #[.int .i64 z] 51)).alloc (.cells #[.int .i64 0, .slice none 0 0] 53) = U
  have B : Hid (Below w.heap.size w U) := by rw [← hW]; exact ((Below.refl _ w).alloc (Nat.le_refl _) _).alloc (by simp) _
  have J0 : Hid (IHolds U w.heap.size 51 [.int .i64 z]) := by rw [← hW]; exact (IHolds.new w 51 [.int .i64 z]).alloc _
  have K0 : Hid (IHolds U (w.heap.size + 1) 53 [.int .i64 0, .slice none 0 0]) := by rw [← hW]; exact IHolds.new' _ 53 [_, _] (by simp)
  go_enter Tryz.func40, Tryz.ntmps40
  have r0 : U.cell? ⟨w.heap.size + 1, 0, none⟩ = some (.int .i64 0) := K0.out.cell 0 (by simp)
  have s0 : U.cell? ⟨w.heap.size + 1, 1, none⟩ = some (.slice none 0 0) := K0.out.cell 1 (by simp)
  have f0 := K0.out.frozen
  go_wp2_with (go_at_call 71; first
    | (have zz := B.out; clear zz; refine (H1.out _ B.out).mono ?_; rintro e w1 ⟨rfl, hB1⟩; have B1 : Hid (Below w.heap.size w w1) := B.out.trans (hB1.mono B.out.size); have J1 : Hid (IHolds w1 w.heap.size 51 [.int .i64 z]) := J0.out.of_below hB1; have K1 : Hid (IHolds w1 (w.heap.size + 1) 53 [.int .i64 0, .slice none 0 0]) := K0.out.of_below hB1; have q1 : w1.cell? ⟨w.heap.size, 0, none⟩ = some (.int .i64 z) := J1.out.cell 0 (by simp); have r1 : w1.cell? ⟨w.heap.size + 1, 0, none⟩ = some (.int .i64 0) := K1.out.cell 0 (by simp); have s1 : w1.cell? ⟨w.heap.size + 1, 1, none⟩ = some (.slice none 0 0) := K1.out.cell 1 (by simp); have f1 := K1.out.frozen; clear hB1 H1 B))
  have I9 : Hid (IHolds ((w1.setCell ⟨w.heap.size + 1, 0, none⟩ (.int .i64 0)).setCell ⟨w.heap.size + 1, 1, none⟩ (.slice none 0 0)) (w.heap.size + 1) 53 [.int .i64 0, .slice none 0 0]) := (K1.out.set 0 (.int .i64 0)).set 1 (.slice none 0 0)
  have B9 : Hid (Below w.heap.size w ((w1.setCell ⟨w.heap.size + 1, 0, none⟩ (.int .i64 0)).setCell ⟨w.heap.size + 1, 1, none⟩ (.slice none 0 0))) := (B1.out.setCell (by simp) _).setCell (by simp) _
  generalize (w1.setCell ⟨w.heap.size + 1, 0, none⟩ (.int .i64 0)).setCell ⟨w.heap.size + 1, 1, none⟩ (.slice none 0 0) = w9 at *
  have E0 : w9.cell? ⟨w.heap.size + 1, 0, none⟩ = some (.int .i64 0) := I9.out.cell 0 (by simp)
  have E1 : w9.cell? ⟨w.heap.size + 1, 1, none⟩ = some (.slice none 0 0) := I9.out.cell 1 (by simp)
  exact bodyPost_ret (v := .tuple #[.agg #[.int .i64 0, .slice none 0 0], .int .i64 2]) (by simp [results, Tryz.results40, go_sem, E0, E1]) rfl ⟨rfl, B9.out⟩
set_option maxHeartbeats 2000000 in
theorem set18_D {w : World} {a : Option Addr} {n c : Nat} {z : Int} (g1 : ¬ (64 : Int) < (n : Int)) (g2 : ((n : Int) == 0) = false) (H1 : Hid (∀ W, Below w.heap.size w W → Calls Tryz.prog 71 #[.slice a n c, .func (.func 72) #[] #[]] W fun e w' => e = .returned (.bool false) ∧ Below W.heap.size W w')) (H2 : Hid (∀ W, Below w.heap.size w W → Calls Tryz.prog 71 #[.slice a n c, .func (.func 73) #[] #[]] W fun e w' => e = .returned (.bool true) ∧ Below W.heap.size W w')) :
    Calls Tryz.prog 40 #[.agg #[.int .i64 z], .slice a n c] w fun e w' => e = .returned (.tuple #[.agg #[.int .i64 0, .slice none 0 0], .int .i64 2]) ∧ Below w.heap.size w w' := by
  have hmf : ∀ (fn : Fn) (first cap : Array Value) (w : World), (Instr.makeFunc fn first cap).run Tryz.prog w = .ok (.func fn first cap) w := fun _ _ _ _ => rfl
  generalize hW : (w.alloc (.cells #[.int .i64 z] 51)).alloc (.cells #[.int .i64 0, .slice none 0 0] 53) = U
  have B : Hid (Below w.heap.size w U) := by rw [← hW]; exact ((Below.refl _ w).alloc (Nat.le_refl _) _).alloc (by simp) _
  have J0 : Hid (IHolds U w.heap.size 51 [.int .i64 z]) := by rw [← hW]; exact (IHolds.new w 51 [.int .i64 z]).alloc _
  have K0 : Hid (IHolds U (w.heap.size + 1) 53 [.int .i64 0, .slice none 0 0]) := by rw [← hW]; exact IHolds.new' _ 53 [_, _] (by simp)
  go_enter Tryz.func40, Tryz.ntmps40
  have r0 : U.cell? ⟨w.heap.size + 1, 0, none⟩ = some (.int .i64 0) := K0.out.cell 0 (by simp)
  have s0 : U.cell? ⟨w.heap.size + 1, 1, none⟩ = some (.slice none 0 0) := K0.out.cell 1 (by simp)
  have f0 := K0.out.frozen
  go_wp2_with (go_at_call 71; first
    | (have zz := B.out; clear zz; refine (H1.out _ B.out).mono ?_; rintro e w1 ⟨rfl, hB1⟩; have B1 : Hid (Below w.heap.size w w1) := B.out.trans (hB1.mono B.out.size); have J1 : Hid (IHolds w1 w.heap.size 51 [.int .i64 z]) := J0.out.of_below hB1; have K1 : Hid (IHolds w1 (w.heap.size + 1) 53 [.int .i64 0, .slice none 0 0]) := K0.out.of_below hB1; have q1 : w1.cell? ⟨w.heap.size, 0, none⟩ = some (.int .i64 z) := J1.out.cell 0 (by simp); have r1 : w1.cell? ⟨w.heap.size + 1, 0, none⟩ = some (.int .i64 0) := K1.out.cell 0 (by simp); have s1 : w1.cell? ⟨w.heap.size + 1, 1, none⟩ = some (.slice none 0 0) := K1.out.cell 1 (by simp); have f1 := K1.out.frozen; clear hB1 H1 B)
    | (have zz := B1.out; clear zz; refine (H2.out _ B1.out).mono ?_; rintro e w2 ⟨rfl, hB2⟩; have B2 : Hid (Below w.heap.size w w2) := B1.out.trans (hB2.mono B1.out.size); have J2 : Hid (IHolds w2 w.heap.size 51 [.int .i64 z]) := J1.out.of_below hB2; have K2 : Hid (IHolds w2 (w.heap.size + 1) 53 [.int .i64 0, .slice none 0 0]) := K1.out.of_below hB2; have q2 : w2.cell? ⟨w.heap.size, 0, none⟩ = some (.int .i64 z) := J2.out.cell 0 (by simp); have r2 : w2.cell? ⟨w.heap.size + 1, 0, none⟩ = some (.int .i64 0) := K2.out.cell 0 (by simp); have s2 : w2.cell? ⟨w.heap.size + 1, 1, none⟩ = some (.slice none 0 0) := K2.out.cell 1 (by simp); have f2 := K2.out.frozen; clear hB2 H2 B1))
  have I9 : Hid (IHolds ((w2.setCell ⟨w.heap.size + 1, 0, none⟩ (.int .i64 0)).setCell ⟨w.heap.size + 1, 1, none⟩ (.slice none 0 0)) (w.heap.size + 1) 53 [.int .i64 0, .slice none 0 0]) := (K2.out.set 0 (.int .i64 0)).set 1 (.slice none 0 0)
  have B9 : Hid (Below w.heap.size w ((w2.setCell ⟨w.heap.size + 1, 0, none⟩ (.int .i64 0)).setCell ⟨w.heap.size + 1, 1, none⟩ (.slice none 0 0))) := (B2.out.setCell (by simp) _).setCell (by simp) _
  generalize (w2.setCell ⟨w.heap.size + 1, 0, none⟩ (.int .i64 0)).setCell ⟨w.heap.size + 1, 1, none⟩ (.slice none 0 0) = w9 at *
  have E0 : w9.cell? ⟨w.heap.size + 1, 0, none⟩ = some (.int .i64 0) := I9.out.cell 0 (by simp)
  have E1 : w9.cell? ⟨w.heap.size + 1, 1, none⟩ = some (.slice none 0 0) := I9.out.cell 1 (by simp)
  exact bodyPost_ret (v := .tuple #[.agg #[.int .i64 0, .slice none 0 0], .int .i64 2]) (by simp [results, Tryz.results40, go_sem, E0, E1]) rfl ⟨rfl, B9.out⟩
set_option maxHeartbeats 2000000 in
theorem set18_E {w : World} {a : Option Addr} {n c : Nat} {z : Int} (g1 : ¬ (64 : Int) < (n : Int)) (g2 : ((n : Int) == 0) = false) (H1 : Hid (∀ W, Below w.heap.size w W → Calls Tryz.prog 71 #[.slice a n c, .func (.func 72) #[] #[]] W fun e w' => e = .returned (.bool false) ∧ Below W.heap.size W w')) (H2 : Hid (∀ W, Below w.heap.size w W → Calls Tryz.prog 71 #[.slice a n c, .func (.func 73) #[] #[]] W fun e w' => e = .returned (.bool false) ∧ Below W.heap.size W w')) (H3 : Hid (∀ W, Below w.heap.size w W → Calls Tryz.prog 71 #[.slice a n c, .func (.func 74) #[.agg #[.int .i64 z]] #[]] W fun e w' => e = .returned (.bool true) ∧ Below W.heap.size W w')) :
    Calls Tryz.prog 40 #[.agg #[.int .i64 z], .slice a n c] w fun e w' => e = .returned (.tuple #[.agg #[.int .i64 0, .slice none 0 0], .int .i64 7]) ∧ Below w.heap.size w w' := by
  have hmf : ∀ (fn : Fn) (first cap : Array Value) (w : World), (Instr.makeFunc fn first cap).run Tryz.prog w = .ok (.func fn first cap) w := fun _ _ _ _ => rfl
  generalize hW : (w.alloc (.cells #[.int .i64 z] 51)).alloc (.cells #[.int .i64 0, .slice none 0 0] 53) = U
  have B : Hid (Below w.heap.size w U) := by rw [← hW]; exact ((Below.refl _ w).alloc (Nat.le_refl _) _).alloc (by simp) _
  have J0 : Hid (IHolds U w.heap.size 51 [.int .i64 z]) := by rw [← hW]; exact (IHolds.new w 51 [.int .i64 z]).alloc _
  have K0 : Hid (IHolds U (w.heap.size + 1) 53 [.int .i64 0, .slice none 0 0]) := by rw [← hW]; exact IHolds.new' _ 53 [_, _] (by simp)
  go_enter Tryz.func40, Tryz.ntmps40
  have r0 : U.cell? ⟨w.heap.size + 1, 0, none⟩ = some (.int .i64 0) := K0.out.cell 0 (by simp)
  have s0 : U.cell? ⟨w.heap.size + 1, 1, none⟩ = some (.slice none 0 0) := K0.out.cell 1 (by simp)
  have f0 := K0.out.frozen
  go_wp2_with (go_at_call 71; first
    | (have zz := B.out; clear zz; refine (H1.out _ B.out).mono ?_; rintro e w1 ⟨rfl, hB1⟩; have B1 : Hid (Below w.heap.size w w1) := B.out.trans (hB1.mono B.out.size); have J1 : Hid (IHolds w1 w.heap.size 51 [.int .i64 z]) := J0.out.of_below hB1; have K1 : Hid (IHolds w1 (w.heap.size + 1) 53 [.int .i64 0, .slice none 0 0]) := K0.out.of_below hB1; have q1 : w1.cell? ⟨w.heap.size, 0, none⟩ = some (.int .i64 z) := J1.out.cell 0 (by simp); have r1 : w1.cell? ⟨w.heap.size + 1, 0, none⟩ = some (.int .i64 0) := K1.out.cell 0 (by simp); have s1 : w1.cell? ⟨w.heap.size + 1, 1, none⟩ = some (.slice none 0 0) := K1.out.cell 1 (by simp); have f1 := K1.out.frozen; clear hB1 H1 B)
    | (have zz := B1.out; clear zz; refine (H2.out _ B1.out).mono ?_; rintro e w2 ⟨rfl, hB2⟩; have B2 : Hid (Below w.heap.size w w2) := B1.out.trans (hB2.mono B1.out.size); have J2 : Hid (IHolds w2 w.heap.size 51 [.int .i64 z]) := J1.out.of_below hB2; have K2 : Hid (IHolds w2 (w.heap.size + 1) 53 [.int .i64 0, .slice none 0 0]) := K1.out.of_below hB2; have q2 : w2.cell? ⟨w.heap.size, 0, none⟩ = some (.int .i64 z) := J2.out.cell 0 (by simp); have r2 : w2.cell? ⟨w.heap.size + 1, 0, none⟩ = some (.int .i64 0) := K2.out.cell 0 (by simp); have s2 : w2.cell? ⟨w.heap.size + 1, 1, none⟩ = some (.slice none 0 0) := K2.out.cell 1 (by simp); have f2 := K2.out.frozen; clear hB2 H2 B1)
    | (have zz := B2.out; clear zz; refine (H3.out _ B2.out).mono ?_; rintro e w3 ⟨rfl, hB3⟩; have B3 : Hid (Below w.heap.size w w3) := B2.out.trans (hB3.mono B2.out.size); have J3 : Hid (IHolds w3 w.heap.size 51 [.int .i64 z]) := J2.out.of_below hB3; have K3 : Hid (IHolds w3 (w.heap.size + 1) 53 [.int .i64 0, .slice none 0 0]) := K2.out.of_below hB3; have q3 : w3.cell? ⟨w.heap.size, 0, none⟩ = some (.int .i64 z) := J3.out.cell 0 (by simp); have r3 : w3.cell? ⟨w.heap.size + 1, 0, none⟩ = some (.int .i64 0) := K3.out.cell 0 (by simp); have s3 : w3.cell? ⟨w.heap.size + 1, 1, none⟩ = some (.slice none 0 0) := K3.out.cell 1 (by simp); have f3 := K3.out.frozen; clear hB3 H3 B2))
  have I9 : Hid (IHolds ((w3.setCell ⟨w.heap.size + 1, 0, none⟩ (.int .i64 0)).setCell ⟨w.heap.size + 1, 1, none⟩ (.slice none 0 0)) (w.heap.size + 1) 53 [.int .i64 0, .slice none 0 0]) := (K3.out.set 0 (.int .i64 0)).set 1 (.slice none 0 0)
  have B9 : Hid (Below w.heap.size w ((w3.setCell ⟨w.heap.size + 1, 0, none⟩ (.int .i64 0)).setCell ⟨w.heap.size + 1, 1, none⟩ (.slice none 0 0))) := (B3.out.setCell (by simp) _).setCell (by simp) _
  generalize (w3.setCell ⟨w.heap.size + 1, 0, none⟩ (.int .i64 0)).setCell ⟨w.heap.size + 1, 1, none⟩ (.slice none 0 0) = w9 at *
  have E0 : w9.cell? ⟨w.heap.size + 1, 0, none⟩ = some (.int .i64 0) := I9.out.cell 0 (by simp)
  have E1 : w9.cell? ⟨w.heap.size + 1, 1, none⟩ = some (.slice none 0 0) := I9.out.cell 1 (by simp)
  exact bodyPost_ret (v := .tuple #[.agg #[.int .i64 0, .slice none 0 0], .int .i64 7]) (by simp [results, Tryz.results40, go_sem, E0, E1]) rfl ⟨rfl, B9.out⟩
set_option maxHeartbeats 2000000 in
theorem setOf9_bad {w : World} {a : Option Addr} {n c : Nat} {z k : Int} (CG : ∀ W, Calls Tryz.prog 39 #[.int .i64 z] W fun e w' => e = .returned (.tuple #[.agg #[.int .i64 z], .int .i64 0]) ∧ Below W.heap.size W w')
    (CS : ∀ W, Below w.heap.size w W → Calls Tryz.prog 40 #[.agg #[.int .i64 z], .slice a n c] W fun e w' => e = .returned (.tuple #[.agg #[.int .i64 0, .slice none 0 0], .int .i64 k]) ∧ Below W.heap.size W w') :
    Calls Tryz.prog 18 #[.int .i64 z, .slice a n c] w fun e w' => e = .returned (.tuple #[.agg #[.int .i64 0, .slice none 0 0], .int .i64 k]) ∧ Below w.heap.size w w' := by
  have HG : Hid _ := CG
  have HC : Hid _ := CS
  clear CG CS
  generalize hW : w.alloc (.cells #[.int .i64 0, .slice none 0 0] 53) = U
  have B : Hid (Below w.heap.size w U) := by rw [← hW]; exact (Below.refl _ w).alloc (Nat.le_refl _) _
  have I0 : Hid (IHolds U w.heap.size 53 [.int .i64 0, .slice none 0 0]) := by rw [← hW]; exact IHolds.new w 53 [.int .i64 0, .slice none 0 0]
  go_enter Tryz.func18, Tryz.ntmps18
  go_wp2_with (first
    | (go_at_call 39; refine (HG.out _).mono ?_; rintro e w1 ⟨rfl, hB1⟩; have B1 : Hid (Below w.heap.size w (w1.alloc (.cells #[.int .i64 z] 51))) := (B.out.trans (hB1.mono B.out.size)).alloc (B.out.trans (hB1.mono B.out.size)).size _; have J0 : Hid (IHolds (w1.alloc (.cells #[.int .i64 z] 51)) w.heap.size 53 [.int .i64 0, .slice none 0 0]) := (I0.out.of_below hB1).alloc _; clear hB1 HG)
    | (go_at_call 40; refine (HC.out _ B1.out).mono ?_; rintro e w2 ⟨rfl, hB2⟩; have B2 : Hid (Below w.heap.size w w2) := B1.out.trans (hB2.mono B1.out.size); have K0 : Hid (IHolds w2 w.heap.size 53 [.int .i64 0, .slice none 0 0]) := J0.out.of_below hB2; have q0 : w2.cell? ⟨w.heap.size, 0, none⟩ = some (.int .i64 0) := K0.out.cell 0 (by simp); have q1 : w2.cell? ⟨w.heap.size, 1, none⟩ = some (.slice none 0 0) := K0.out.cell 1 (by simp); have f := K0.out.frozen; clear hB2 HC))
  have I9 : Hid (IHolds ((w2.setCell ⟨w.heap.size, 0, none⟩ (.int .i64 0)).setCell ⟨w.heap.size, 1, none⟩ (.slice none 0 0)) w.heap.size 53 [.int .i64 0, .slice none 0 0]) := (K0.out.set 0 (.int .i64 0)).set 1 (.slice none 0 0)
  have B9 : Hid (Below w.heap.size w ((w2.setCell ⟨w.heap.size, 0, none⟩ (.int .i64 0)).setCell ⟨w.heap.size, 1, none⟩ (.slice none 0 0))) := (B2.out.setCell (Nat.le_refl _) _).setCell (Nat.le_refl _) _
  generalize (w2.setCell ⟨w.heap.size, 0, none⟩ (.int .i64 0)).setCell ⟨w.heap.size, 1, none⟩ (.slice none 0 0) = w9 at *
  have E0 : w9.cell? ⟨w.heap.size, 0, none⟩ = some (.int .i64 0) := I9.out.cell 0 (by simp)
  have E1 : w9.cell? ⟨w.heap.size, 1, none⟩ = some (.slice none 0 0) := I9.out.cell 1 (by simp)
  exact bodyPost_ret (v := .tuple #[.agg #[.int .i64 0, .slice none 0 0], .int .i64 k]) (by simp [results, Tryz.results18, go_sem, E0, E1]) rfl ⟨rfl, B9.out⟩
end Go.Proofs.YtmpiipcllgjhdaaGreatDoor
