/- ProveAny, VerifyAny. ProveAny of what is wrong; VerifyAny. Sums of challenges. Prove of sets, at a kind. Verify of what was proved of sets, at a kind. ProveAny and VerifyAny, at a kind. -/
import Derived.Test.YtmpiipcllgjhdaaGreatDoorY24
set_option linter.unusedSimpArgs false
set_option linter.unusedVariables false
set_option maxRecDepth 100000
namespace Go.Proofs.YtmpiipcllgjhdaaGreatDoor
open Go.RowKit Go.Deep Go.PlainAid

theorem cell_far {w : World} {b b' x : Nat} {T : TypeId} {V : List Value} {t : ByteArray} (hc : w.cell? ⟨b', x, none⟩ = some (.string t)) (hI : IHolds w b T V) (hV : ∀ v ∈ V, ∃ a m c, v = Value.slice a m c) (i : Nat) (u : Value) : (w.setCell ⟨b, i, none⟩ u).cell? ⟨b', x, none⟩ = some (.string t) := by
  have ne : b' ≠ b := fun e => by
    subst e
    unfold IHolds at hI
    simp only [World.cell?, hI] at hc
    have hc' : V[x]? = some (.string t) := by simpa using hc
    obtain ⟨hx, e⟩ := List.getElem?_eq_some_iff.1 hc'
    obtain ⟨a, m, c, e2⟩ := hV _ (List.getElem_mem hx)
    rw [e] at e2
    cases e2
  have h : (w.setCell ⟨b, i, none⟩ u).heap[b']? = w.heap[b']? := by
    have hl := cell_lt hc
    exact (F.But.refl b w |>.setCell i u).block b' hl ne
  simp only [World.cell?] at hc ⊢
  rw [h]
  exact hc
theorem SL.far {w : World} {b : Nat} {T : TypeId} {V : List Value} {a : Option Addr} {l : List ByteArray} (h : SL w a l) (hI : IHolds w b T V) (hV : ∀ v ∈ V, ∃ a m c, v = Value.slice a m c) (i : Nat) (u : Value) : SL (w.setCell ⟨b, i, none⟩ u) a l := fun j hj => by
  obtain ⟨b', o, e, hc⟩ := h j hj
  exact ⟨b', o, e, cell_far hc hI hV i u⟩
theorem AN.far {w : World} {b ba : Nat} {T : TypeId} {V : List Value} {Q : List (List ByteArray)} (h : AN w (some ⟨ba, 0, none⟩) Q) (hne : ba ≠ b) (hI : IHolds w b T V) (hV : ∀ v ∈ V, ∃ a m c, v = Value.slice a m c) (i : Nat) (u : Value) : AN (w.setCell ⟨b, i, none⟩ u) (some ⟨ba, 0, none⟩) Q := fun j hj => by
  obtain ⟨b', o, x, c, e, hc, hs⟩ := h j hj
  cases e
  exact ⟨ba, 0, x, c, rfl, ((F.But.refl b w |>.setCell i u).cell (cell_lt hc) hne _).trans hc, hs.far hI hV i u⟩
set_option maxHeartbeats 2000000 in
theorem proveAny12 {w : World} {z : Int} {a a2 : Option Addr} {c mm c2 which : Nat} {qa : Nat → Option Addr} {qc : Nat → Nat} {L : List (List Cl)} {label seed : ByteArray} {CH : List ByteArray} {QQ : List (List ByteArray)} (hL : L.length ≤ 16) (hw : which < L.length)
    (C26 : ∀ W, Below w.heap.size w W → Calls Tryz.prog 26 #[.int .i64 z, .slice a L.length c] W fun e w' => (∃ b, e = .returned (.tuple #[.agg #[.int .i64 z, .slice (some ⟨b, 0, none⟩) L.length L.length], .int .i64 0]) ∧ IHolds w' b 53 (rowS z qa qc L L.length)) ∧ Below W.heap.size W w')
    (C19 : ∀ W, Below w.heap.size w W → Calls Tryz.prog 19 #[.agg #[.int .i64 z, .slice (qa which) (L[which]'hw).length (qc which)], .slice a2 mm c2] W fun e w' => e = .returned (.int .i64 0) ∧ Below W.heap.size W w')
    (C27 : ∀ W b, Below w.heap.size w W → IHolds W b 53 (rowS z qa qc L L.length) → Calls Tryz.prog 27 #[.agg #[.int .i64 z, .slice (some ⟨b, 0, none⟩) L.length L.length], .string label, .int .i64 (which : Int), .slice a2 mm c2, .string seed] W fun e w' => (∃ bc ba, e = .returned (.agg #[.slice (some ⟨bc, 0, none⟩) L.length L.length, .slice (some ⟨ba, 0, none⟩) L.length L.length]) ∧ W.heap.size ≤ ba ∧ SL w' (some ⟨bc, 0, none⟩) CH ∧ AN w' (some ⟨ba, 0, none⟩) QQ) ∧ Below W.heap.size W w') :
    Calls Tryz.prog 12 #[.int .i64 z, .string label, .slice a L.length c, .int .i64 (which : Int), .slice a2 mm c2, .string seed] w fun e w' => (∃ bc ba, e = .returned (.tuple #[.agg #[.slice (some ⟨bc, 0, none⟩) L.length L.length, .slice (some ⟨ba, 0, none⟩) L.length L.length], .int .i64 0]) ∧ SL w' (some ⟨bc, 0, none⟩) CH ∧ AN w' (some ⟨ba, 0, none⟩) QQ) ∧ Below w.heap.size w w' := by
  obtain ⟨U, hU⟩ : ∃ U, U = w.alloc (.cells #[.slice none 0 0, .slice none 0 0] 41) := ⟨_, rfl⟩
  have BU : Hid (Below w.heap.size w U) := by rw [hU]; exact (Below.refl _ _).alloc (Nat.le_refl _) _
  have IU : Hid (IHolds U w.heap.size 41 [.slice none 0 0, .slice none 0 0]) := by rw [hU]; exact IHolds.new _ _ _
  have H26 : Hid (Calls Tryz.prog 26 #[.int .i64 z, .slice a L.length c] U fun e w' => (∃ b, e = .returned (.tuple #[.agg #[.int .i64 z, .slice (some ⟨b, 0, none⟩) L.length L.length], .int .i64 0]) ∧ IHolds w' b 53 (rowS z qa qc L L.length)) ∧ Below U.heap.size U w') := C26 U BU.out
  have H19 : Hid (∀ W, Below w.heap.size w W → Calls Tryz.prog 19 #[.agg #[.int .i64 z, .slice (qa which) (L[which]'hw).length (qc which)], .slice a2 mm c2] W fun e w' => e = .returned (.int .i64 0) ∧ Below W.heap.size W w') := C19
  have H27 : Hid (∀ W b, Below w.heap.size w W → IHolds W b 53 (rowS z qa qc L L.length) → Calls Tryz.prog 27 #[.agg #[.int .i64 z, .slice (some ⟨b, 0, none⟩) L.length L.length], .string label, .int .i64 (which : Int), .slice a2 mm c2, .string seed] W fun e w' => (∃ bc ba, e = .returned (.agg #[.slice (some ⟨bc, 0, none⟩) L.length L.length, .slice (some ⟨ba, 0, none⟩) L.length L.length]) ∧ W.heap.size ≤ ba ∧ SL w' (some ⟨bc, 0, none⟩) CH ∧ AN w' (some ⟨ba, 0, none⟩) QQ) ∧ Below W.heap.size W w') := C27
  have RC : Hid (∀ W b, IHolds W b 53 (rowS z qa qc L L.length) → W.cell? ⟨b, which * 2, none⟩ = some (.int .i64 z) ∧ W.cell? ⟨b, which * 2 + 1, none⟩ = some (.slice (qa which) (L[which]'hw).length (qc which))) := fun W b h => rowS_cells h hw
  have w1 : ¬ ((which : Int) < 0) := by omega
  have w2 : ¬ ((L.length : Int) ≤ (which : Int)) := by omega
  have w3 : (which : Int) < (L.length : Int) := by omega
  clear C26 C19 C27
  generalize (L[which]'hw).length = l at *
  generalize qa which = ai at *
  generalize qc which = ci at *
  generalize rowS z qa qc L L.length = R at *
  go_enter Tryz.func12, Tryz.ntmps12
  go_upto_region 1 with fail
  rw [← hU]
  clear hU
  go_upto_region 2 with (go_at_call 26; refine (H26.out).mono ?_; rintro e V1 ⟨⟨b, rfl, hR⟩, hB⟩; have R1 : Hid (IHolds V1 b 53 R) := hR; have B1 : Hid (Below w.heap.size w V1) := BU.out.trans (hB.mono BU.out.size); have I1 : Hid (IHolds V1 w.heap.size 41 [.slice none 0 0, .slice none 0 0]) := IU.out.of_below hB; clear hR hB H26 BU IU)
  obtain ⟨X, hX⟩ : ∃ X, X = V1.alloc (.cells #[.int .i64 z, .slice (some ⟨b, 0, none⟩) L.length L.length] 65) := ⟨_, rfl⟩
  have BX : Hid (Below V1.heap.size V1 X) := by rw [hX]; exact (Below.refl _ _).alloc (Nat.le_refl _) _
  have JX : Hid (IHolds X V1.heap.size 65 [.int .i64 z, .slice (some ⟨b, 0, none⟩) L.length L.length]) := by rw [hX]; exact IHolds.new _ _ _
  have B2 : Hid (Below w.heap.size w X) := B1.out.trans (BX.out.mono B1.out.size)
  have I2 : Hid (IHolds X w.heap.size 41 [.slice none 0 0, .slice none 0 0]) := I1.out.of_below BX.out
  have R2 : Hid (IHolds X b 53 R) := R1.out.of_below BX.out
  rw [← hX]
  generalize V1.heap.size = bl at *
  clear hX BX B1 I1 R1
  have c1 := JX.out.cell 1 (by simp)
  obtain ⟨r0, r1⟩ := RC.out _ _ R2.out
  go_wp2_with (first
    | (go_at_call 19; refine (H19.out _ B2.out).mono ?_; rintro e V3 ⟨rfl, hB⟩; have B3 : Hid (Below w.heap.size w V3) := B2.out.trans (hB.mono B2.out.size); have I3 : Hid (IHolds V3 w.heap.size 41 [.slice none 0 0, .slice none 0 0]) := I2.out.of_below hB; have R3 : Hid (IHolds V3 b 53 R) := R2.out.of_below hB; have d0 := (JX.out.of_below hB).cell 0 (by simp); have d1 := (JX.out.of_below hB).cell 1 (by simp); clear hB H19 B2 I2 R2 JX c1 r0 r1)
    | (go_at_call 27; refine (H27.out _ _ B3.out R3.out).mono ?_; rintro e V4 ⟨⟨bc, ba, rfl, hge, hS, hA⟩, hB⟩; have B4 : Hid (Below w.heap.size w V4) := B3.out.trans (hB.mono B3.out.size); have I4 : Hid (IHolds V4 w.heap.size 41 [.slice none 0 0, .slice none 0 0]) := I3.out.of_below hB; have ne4 : ba ≠ w.heap.size := (by have := I3.out.lt; omega); have S4 : Hid (SL V4 (some ⟨bc, 0, none⟩) CH) := hS; have A4 : Hid (AN V4 (some ⟨ba, 0, none⟩) QQ) := hA; have e0 := I4.out.cell 0 (by simp); have e1 := I4.out.cell 1 (by simp); have f4 := I4.out.frozen; clear hge hS hA hB H27 B3 I3 R3 d0 d1)
    | fail)
  have hV0 : ∀ v ∈ [Value.slice none 0 0, Value.slice none 0 0], ∃ a m c, v = Value.slice a m c := fun v hv => by simp at hv; exact ⟨_, _, _, hv⟩
  have hV1 : ∀ v ∈ [Value.slice (some ⟨bc, 0, none⟩) L.length L.length, Value.slice none 0 0], ∃ a m c, v = Value.slice a m c := fun v hv => by simp at hv; rcases hv with rfl | rfl <;> exact ⟨_, _, _, rfl⟩
  have K1 : Hid (IHolds (V4.setCell ⟨w.heap.size, 0, none⟩ (.slice (some ⟨bc, 0, none⟩) L.length L.length)) w.heap.size 41 [.slice (some ⟨bc, 0, none⟩) L.length L.length, .slice none 0 0]) := I4.out.set 0 (.slice (some ⟨bc, 0, none⟩) L.length L.length)
  have I9 : Hid (IHolds ((V4.setCell ⟨w.heap.size, 0, none⟩ (.slice (some ⟨bc, 0, none⟩) L.length L.length)).setCell ⟨w.heap.size, 1, none⟩ (.slice (some ⟨ba, 0, none⟩) L.length L.length)) w.heap.size 41 [.slice (some ⟨bc, 0, none⟩) L.length L.length, .slice (some ⟨ba, 0, none⟩) L.length L.length]) := K1.out.set 1 (.slice (some ⟨ba, 0, none⟩) L.length L.length)
  have B9 : Hid (Below w.heap.size w ((V4.setCell ⟨w.heap.size, 0, none⟩ (.slice (some ⟨bc, 0, none⟩) L.length L.length)).setCell ⟨w.heap.size, 1, none⟩ (.slice (some ⟨ba, 0, none⟩) L.length L.length))) := (B4.out.setCell (Nat.le_refl _) _).setCell (Nat.le_refl _) _
  have S9 : Hid (SL ((V4.setCell ⟨w.heap.size, 0, none⟩ (.slice (some ⟨bc, 0, none⟩) L.length L.length)).setCell ⟨w.heap.size, 1, none⟩ (.slice (some ⟨ba, 0, none⟩) L.length L.length)) (some ⟨bc, 0, none⟩) CH) := (S4.out.far I4.out hV0 _ _).far K1.out hV1 _ _
  have A9 : Hid (AN ((V4.setCell ⟨w.heap.size, 0, none⟩ (.slice (some ⟨bc, 0, none⟩) L.length L.length)).setCell ⟨w.heap.size, 1, none⟩ (.slice (some ⟨ba, 0, none⟩) L.length L.length)) (some ⟨ba, 0, none⟩) QQ) := (A4.out.far ne4 I4.out hV0 _ _).far ne4 K1.out hV1 _ _
  generalize (V4.setCell ⟨w.heap.size, 0, none⟩ (.slice (some ⟨bc, 0, none⟩) L.length L.length)).setCell ⟨w.heap.size, 1, none⟩ (.slice (some ⟨ba, 0, none⟩) L.length L.length) = w9 at *
  have E0 : w9.cell? ⟨w.heap.size, 0, none⟩ = some (.slice (some ⟨bc, 0, none⟩) L.length L.length) := I9.out.cell 0 (by simp)
  have E1 : w9.cell? ⟨w.heap.size, 1, none⟩ = some (.slice (some ⟨ba, 0, none⟩) L.length L.length) := I9.out.cell 1 (by simp)
  exact bodyPost_ret (v := .tuple #[.agg #[.slice (some ⟨bc, 0, none⟩) L.length L.length, .slice (some ⟨ba, 0, none⟩) L.length L.length], .int .i64 0]) (by simp [results, Tryz.results12, go_sem, E0, E1]) rfl ⟨⟨bc, ba, rfl, S9.out, A9.out⟩, B9.out⟩
end Go.Proofs.YtmpiipcllgjhdaaGreatDoor
namespace Go.Proofs.YtmpiipcllgjhdaaGreatDoor
open Go.RowKit Go.Deep Go.PlainAid

set_option maxHeartbeats 2000000 in
theorem proveAny12_bad {w : World} {z which : Int} {a a2 : Option Addr} {n c mm c2 : Nat} {label seed : ByteArray}
    (C26 : ∀ W, Below w.heap.size w W → Calls Tryz.prog 26 #[.int .i64 z, .slice a n c] W fun e w' => (∃ k, Bad k ∧ e = .returned (.tuple #[.agg #[.int .i64 z, .slice none 0 0], .int .i64 k])) ∧ Below W.heap.size W w') :
    Calls Tryz.prog 12 #[.int .i64 z, .string label, .slice a n c, .int .i64 which, .slice a2 mm c2, .string seed] w fun e w' => (∃ k, Bad k ∧ e = .returned (.tuple #[.agg #[.slice none 0 0, .slice none 0 0], .int .i64 k])) ∧ Below w.heap.size w w' := by
  obtain ⟨U, hU⟩ : ∃ U, U = w.alloc (.cells #[.slice none 0 0, .slice none 0 0] 41) := ⟨_, rfl⟩
  have BU : Hid (Below w.heap.size w U) := by rw [hU]; exact (Below.refl _ _).alloc (Nat.le_refl _) _
  have IU : Hid (IHolds U w.heap.size 41 [.slice none 0 0, .slice none 0 0]) := by rw [hU]; exact IHolds.new _ _ _
  have H26 : Hid (Calls Tryz.prog 26 #[.int .i64 z, .slice a n c] U fun e w' => (∃ k, (k == (0 : Int)) = false ∧ (k != (0 : Int)) = true ∧ Bad k ∧ e = .returned (.tuple #[.agg #[.int .i64 z, .slice none 0 0], .int .i64 k])) ∧ Below U.heap.size U w') := (C26 U BU.out).mono fun e w' ⟨⟨k, hk, h⟩, hB⟩ => ⟨⟨k, by rcases hk with rfl | rfl | rfl <;> rfl, by rcases hk with rfl | rfl | rfl <;> rfl, hk, h⟩, hB⟩
  clear C26
  go_enter Tryz.func12, Tryz.ntmps12
  go_upto_region 1 with fail
  rw [← hU]
  clear hU
  go_upto_region 2 with (go_at_call 26; refine (H26.out).mono ?_; rintro e V1 ⟨⟨k, k0, k1, hk, rfl⟩, hB⟩; have KK : Hid (Bad k) := hk; have B1 : Hid (Below w.heap.size w V1) := BU.out.trans (hB.mono BU.out.size); have I1 : Hid (IHolds V1 w.heap.size 41 [.slice none 0 0, .slice none 0 0]) := IU.out.of_below hB; clear hk hB H26 BU IU)
  obtain ⟨X, hX⟩ : ∃ X, X = V1.alloc (.cells #[.int .i64 z, .slice none 0 0] 65) := ⟨_, rfl⟩
  have BX : Hid (Below V1.heap.size V1 X) := by rw [hX]; exact (Below.refl _ _).alloc (Nat.le_refl _) _
  have B2 : Hid (Below w.heap.size w X) := B1.out.trans (BX.out.mono B1.out.size)
  have I2 : Hid (IHolds X w.heap.size 41 [.slice none 0 0, .slice none 0 0]) := I1.out.of_below BX.out
  rw [← hX]
  generalize V1.heap.size = bl at *
  clear hX BX B1 I1
  have e0 := I2.out.cell 0 (by simp)
  have e1 := I2.out.cell 1 (by simp)
  have f4 := I2.out.frozen
  go_wp2_with fail
  have I9 : Hid (IHolds ((X.setCell ⟨w.heap.size, 0, none⟩ (.slice none 0 0)).setCell ⟨w.heap.size, 1, none⟩ (.slice none 0 0)) w.heap.size 41 [.slice none 0 0, .slice none 0 0]) := (I2.out.set 0 (.slice none 0 0)).set 1 (.slice none 0 0)
  have B9 : Hid (Below w.heap.size w ((X.setCell ⟨w.heap.size, 0, none⟩ (.slice none 0 0)).setCell ⟨w.heap.size, 1, none⟩ (.slice none 0 0))) := (B2.out.setCell (Nat.le_refl _) _).setCell (Nat.le_refl _) _
  generalize (X.setCell ⟨w.heap.size, 0, none⟩ (.slice none 0 0)).setCell ⟨w.heap.size, 1, none⟩ (.slice none 0 0) = w9 at *
  have E0 : w9.cell? ⟨w.heap.size, 0, none⟩ = some (.slice none 0 0) := I9.out.cell 0 (by simp)
  have E1 : w9.cell? ⟨w.heap.size, 1, none⟩ = some (.slice none 0 0) := I9.out.cell 1 (by simp)
  exact bodyPost_ret (v := .tuple #[.agg #[.slice none 0 0, .slice none 0 0], .int .i64 k]) (by simp [results, Tryz.results12, go_sem, E0, E1]) rfl ⟨⟨k, KK.out, rfl⟩, B9.out⟩
set_option maxHeartbeats 2000000 in
theorem verifyAny13 {w : World} {z : Int} {a y v : Option Addr} {n c d f : Nat} {label : ByteArray} {R : List Value}
    (C26 : ∀ W, Below w.heap.size w W → Calls Tryz.prog 26 #[.int .i64 z, .slice a n c] W fun e w' => (∃ b, e = .returned (.tuple #[.agg #[.int .i64 z, .slice (some ⟨b, 0, none⟩) n n], .int .i64 0]) ∧ IHolds w' b 53 R) ∧ Below W.heap.size W w')
    (C28 : ∀ W b, Below w.heap.size w W → IHolds W b 53 R → Calls Tryz.prog 28 #[.agg #[.int .i64 z, .slice (some ⟨b, 0, none⟩) n n], .agg #[.slice y n d, .slice v n f]] W fun e w' => e = .returned (.bool true) ∧ Below W.heap.size W w')
    (C29 : ∀ W b, Below w.heap.size w W → IHolds W b 53 R → Calls Tryz.prog 29 #[.agg #[.int .i64 z, .slice (some ⟨b, 0, none⟩) n n], .string label, .agg #[.slice y n d, .slice v n f]] W fun e w' => e = .returned (.bool true) ∧ Below W.heap.size W w') :
    Calls Tryz.prog 13 #[.int .i64 z, .string label, .slice a n c, .agg #[.slice y n d, .slice v n f]] w fun e w' => e = .returned (.bool true) ∧ Below w.heap.size w w' := by
  obtain ⟨U, hU⟩ : ∃ U, U = w.alloc (.cells #[.slice y n d, .slice v n f] 41) := ⟨_, rfl⟩
  have BU : Hid (Below w.heap.size w U) := by rw [hU]; exact (Below.refl _ _).alloc (Nat.le_refl _) _
  have IU : Hid (IHolds U w.heap.size 41 [.slice y n d, .slice v n f]) := by rw [hU]; exact IHolds.new _ _ _
  have H26 : Hid (Calls Tryz.prog 26 #[.int .i64 z, .slice a n c] U fun e w' => (∃ b, e = .returned (.tuple #[.agg #[.int .i64 z, .slice (some ⟨b, 0, none⟩) n n], .int .i64 0]) ∧ IHolds w' b 53 R) ∧ Below U.heap.size U w') := C26 U BU.out
  have H28 : Hid (∀ W b, Below w.heap.size w W → IHolds W b 53 R → Calls Tryz.prog 28 #[.agg #[.int .i64 z, .slice (some ⟨b, 0, none⟩) n n], .agg #[.slice y n d, .slice v n f]] W fun e w' => e = .returned (.bool true) ∧ Below W.heap.size W w') := C28
  have H29 : Hid (∀ W b, Below w.heap.size w W → IHolds W b 53 R → Calls Tryz.prog 29 #[.agg #[.int .i64 z, .slice (some ⟨b, 0, none⟩) n n], .string label, .agg #[.slice y n d, .slice v n f]] W fun e w' => e = .returned (.bool true) ∧ Below W.heap.size W w') := C29
  clear C26 C28 C29
  go_enter Tryz.func13, Tryz.ntmps13
  go_upto_region 1 with fail
  rw [← hU]
  clear hU
  go_upto_region 2 with (go_at_call 26; refine (H26.out).mono ?_; rintro e V1 ⟨⟨b, rfl, hR⟩, hB⟩; have R1 : Hid (IHolds V1 b 53 R) := hR; have B1 : Hid (Below w.heap.size w V1) := BU.out.trans (hB.mono BU.out.size); have I1 : Hid (IHolds V1 w.heap.size 41 [.slice y n d, .slice v n f]) := IU.out.of_below hB; clear hR hB H26 BU IU)
  obtain ⟨X, hX⟩ : ∃ X, X = V1.alloc (.cells #[.int .i64 z, .slice (some ⟨b, 0, none⟩) n n] 65) := ⟨_, rfl⟩
  have BX : Hid (Below V1.heap.size V1 X) := by rw [hX]; exact (Below.refl _ _).alloc (Nat.le_refl _) _
  have JX : Hid (IHolds X V1.heap.size 65 [.int .i64 z, .slice (some ⟨b, 0, none⟩) n n]) := by rw [hX]; exact IHolds.new _ _ _
  have B2 : Hid (Below w.heap.size w X) := B1.out.trans (BX.out.mono B1.out.size)
  have I2 : Hid (IHolds X w.heap.size 41 [.slice y n d, .slice v n f]) := I1.out.of_below BX.out
  have R2 : Hid (IHolds X b 53 R) := R1.out.of_below BX.out
  rw [← hX]
  generalize V1.heap.size = bl at *
  clear hX BX B1 I1 R1
  have c0 := JX.out.cell 0 (by simp)
  have c1 := JX.out.cell 1 (by simp)
  have d0 := I2.out.cell 0 (by simp)
  have d1 := I2.out.cell 1 (by simp)
  go_wp2_with (first
    | (go_at_call 28; refine (H28.out _ _ B2.out R2.out).mono ?_; rintro e V3 ⟨rfl, hB⟩; have B3 : Hid (Below w.heap.size w V3) := B2.out.trans (hB.mono B2.out.size); have R3 : Hid (IHolds V3 b 53 R) := R2.out.of_below hB; have e0 := (JX.out.of_below hB).cell 0 (by simp); have e1 := (JX.out.of_below hB).cell 1 (by simp); have g0 := (I2.out.of_below hB).cell 0 (by simp); have g1 := (I2.out.of_below hB).cell 1 (by simp); clear hB H28 B2 I2 R2 JX c0 c1 d0 d1)
    | (go_at_call 29; refine (H29.out _ _ B3.out R3.out).mono ?_; rintro e V4 ⟨rfl, hB⟩; have B4 : Hid (Below w.heap.size w V4) := B3.out.trans (hB.mono B3.out.size); clear hB H29 B3 R3 e0 e1 g0 g1)
    | fail)
  go_ret
  exact ⟨rfl, B4.out⟩
end Go.Proofs.YtmpiipcllgjhdaaGreatDoor
namespace Go.Proofs.YtmpiipcllgjhdaaGreatDoor
open Go.RowKit Go.Deep Go.PlainAid

def sumS : List ByteArray → Nat
  | [] => 0
  | n :: l => numS n + sumS l
theorem foldl_sum {M : Nat} (hM : 0 < M) : ∀ (l : List ByteArray) (a : Nat), l.foldl (fun a n => (a + numS n) % M) (a % M) = (a + sumS l) % M
  | [], a => by simp [sumS]
  | n :: l, a => by
    have h := foldl_sum hM l (a + numS n)
    simp only [List.foldl_cons, sumS]
    rw [Nat.mod_add_mod, h]
    congr 1
    omega
theorem totN_sum {M : Nat} (hM : 0 < M) (l : List ByteArray) : totN M l = sumS l % M := by
  have h := foldl_sum hM l 0
  rw [Nat.zero_mod, Nat.zero_add] at h
  exact h
theorem totN_lt {M : Nat} (hM : 0 < M) (l : List ByteArray) : totN M l < M := by rw [totN_sum hM]; exact Nat.mod_lt _ hM
theorem sumS_set : ∀ (l : List ByteArray) (i : Nat) (h : i < l.length) (u : ByteArray), sumS (l.set i u) + numS l[i] = sumS l + numS u
  | [], i, h, u => by simp at h
  | n :: l, 0, h, u => by simp [sumS]; omega
  | n :: l, i + 1, h, u => by
    have := sumS_set l i (by simpa using h) u
    simp only [List.set_cons_succ, sumS, List.getElem_cons_succ]
    omega
/-- What is taken for the set that holds makes the sum what was asked for. -/
theorem totN_set {M x : Nat} (hM : 0 < M) (hx : x < M) {l : List ByteArray} {i : Nat} (h : i < l.length) {u : ByteArray} (h0 : numS l[i] = 0) (hu : numS u = (x + M - totN M l) % M) : totN M (l.set i u) = x := by
  have hs := sumS_set l i h u
  have ht := totN_lt hM l
  rw [h0, hu] at hs
  rw [totN_sum hM, show sumS (l.set i u) = sumS l + (x + M - totN M l) % M by omega, Nat.add_mod, Nat.mod_mod, ← totN_sum hM l, ← Nat.add_mod_mod, Nat.mod_mod, Nat.add_mod_mod]
  rw [show totN M l + (x + M - totN M l) = x + M by omega, Nat.add_mod_right, Nat.mod_eq_of_lt hx]
end Go.Proofs.YtmpiipcllgjhdaaGreatDoor
namespace Go.Proofs.YtmpiipcllgjhdaaGreatDoor
open Go.RowKit Go.Deep Go.PlainAid

/-- States of the talk of which numbers are asked, and what is asked. -/
def fcS (which i : Nat) (s : ByteArray) : ByteArray := if i = which then s else ak othB s
def fsS (L : List (List Cl)) (which : Nat) (s : ByteArray) : Nat → ByteArray
  | 0 => s
  | i + 1 => nonS (L.getD i []).length (fcS which i (fsS L which s i))
def cN (M : Nat) (L : List (List Cl)) (which : Nat) (s : ByteArray) (i : Nat) : Nat := if i = which then 0 else askN othB (fsS L which s i) M
def chS (S M : Nat) (L : List (List Cl)) (which : Nat) (s : ByteArray) : List ByteArray := (List.range L.length).map fun i => TX S (cN M L which s i)
def nS (S M : Nat) (L : List (List Cl)) (which : Nat) (s : ByteArray) (i : Nat) : List ByteArray := nonL S M (L.getD i []).length (fcS which i (fsS L which s i))
def qS (S M : Nat) (L : List (List Cl)) (which : Nat) (s : ByteArray) : List (List ByteArray) := (List.range L.length).map fun i => nS S M L which s i
def bS (S M M2 : Nat) (L : List (List Cl)) (which : Nat) (s : ByteArray) : List (List (List ByteArray)) := (List.range L.length).map fun i => if i = which then fsG S M M2 (L.getD i []) (nS S M L which s i) else bkG S M M2 ((0 + M - cN M L which s i) % M) (L.getD i []) (nS S M L which s i)
section
variable {z : Int} {G : Array Value} {S Wd M low one sq Ri Wd2 M2 low2 one2 sq2 Ri2 : Nat}
set_option maxHeartbeats 800000 in
theorem PVS (k : KD z G S Wd M low one sq Ri Wd2 M2 low2 one2 sq2 Ri2) (h : PK S M M2) {w : World} {b c which c2 : Nat} {a2 : Option Addr} {qa : Nat → Option Addr} {qc : Nat → Nat} {L : List (List Cl)} {label seed s0 : ByteArray} {ms : List ByteArray} (hL : L.length ≤ 16) (hw : which < L.length) (hT : TT w) (hlb : label.size < 1125899906842624) (hsd : seed.size < 1125899906842624) (hI : IHolds w b 53 (rowS z qa qc L L.length)) (hC : ∀ i (h : i < L.length), CK w (qa i) (L[i]'h)) (ok : ∀ i (h : i < L.length), OkC (isEl S M) (L[i]'h))
    (hs0 : s0 = sy (eitS L (st0 z eitB label)) sedB seed) (hms : SL w a2 ms) (hml : ms.length = (L[which]'hw).length) (hsc : ms.all (isSc S M) = true) {u : Nat} (hu : u = (askN chaB (verS (bS S M M2 L which s0) (eitS L (st0 z eitB label))) M + M - totN M (chS S M L which s0)) % M) :
    Calls Tryz.prog 27 #[.agg #[.int .i64 z, .slice (some ⟨b, 0, none⟩) L.length c], .string label, .int .i64 (which : Int), .slice a2 ms.length c2, .string seed] w fun e w' => (∃ bc ba, e = .returned (.agg #[.slice (some ⟨bc, 0, none⟩) L.length L.length, .slice (some ⟨ba, 0, none⟩) L.length L.length]) ∧ w.heap.size ≤ ba ∧ SL w' (some ⟨bc, 0, none⟩) ((chS S M L which s0).set which (TX S u)) ∧ AN w' (some ⟨ba, 0, none⟩) ((qS S M L which s0).set which (ansL S M u (nS S M L which s0 which) ms))) ∧ Below w.heap.size w w' := by
  have m1 := h.m1
  have hM : 0 < M := by omega
  have cl : ∀ i, cN M L which s0 i < M := fun i => by
    unfold cN
    split
    · exact hM
    · exact askN_lt h _ _
  have gd : ∀ i (hi : i < L.length), L.getD i [] = L[i]'hi := fun i hi => by simp [hi]
  have qa' : ∀ i (hi : i < (qS S M L which s0).length), (qS S M L which s0)[i] = nS S M L which s0 i := fun i hi => by simp [qS]
  have ca' : ∀ i (hi : i < (chS S M L which s0).length), (chS S M L which s0)[i] = TX S (cN M L which s0 i) := fun i hi => by simp [chS]
  have nl : ∀ i (hi : i < L.length), (nS S M L which s0 i).length = (L[i]'hi).length := fun i hi => by rw [nS, nonL_len, gd i hi]
  have nsc : ∀ i, (nS S M L which s0 i).all (isSc S M) = true := fun i => nonL_sc h _ _
  have ba' : ∀ i (hi : i < (bS S M M2 L which s0).length) (hi' : i < L.length), (bS S M M2 L which s0)[i] = if i = which then fsG S M M2 (L[i]'hi') (nS S M L which s0 i) else bkG S M M2 ((0 + M - cN M L which s0 i) % M) (L[i]'hi') (nS S M L which s0 i) := fun i hi hi' => by simp [bS, hi']
  have bl' : ∀ i (hi : i < (bS S M M2 L which s0).length) (hi' : i < L.length), ((bS S M M2 L which s0)[i]).length = (L[i]'hi').length := fun i hi hi' => by
    rw [ba' i hi hi']
    have := nl i hi'
    split <;> simp [fsG, bkG] <;> omega
  have hbl : (bS S M M2 L which s0).length = L.length := by simp [bS]
  refine prove27 (S := S) (M := M) (chs := chS S M L which s0) (Q := qS S M L which s0) (Bk := bS S M M2 L which s0) (fs := fsS L which s0) (fc := fun i => fcS which i (fsS L which s0 i)) (tot := TX S (totN M (chS S M L which s0))) hL hw hT hlb hsd hI hC (fun i hi => (ok i hi).most) (fun i hi => okZ k (ok i hi)) (by simp [chS]) (by simp [qS]) hbl (fun i hi => by rw [bl' i hi (by omega)]; exact (ok i (by omega)).most) (fun i hi => ?_) (by rw [← hs0]; rfl) (fun i hi e => ?_) (fun i hi e => ?_) (fun i hi hi' => by rw [qa', nS, gd i hi]) (fun i hi => by show nonS _ _ = _; rw [gd i hi]) ?_ ?_ ?_ ?_ ?_ ?_ ?_
  · have hi' : i < L.length := by omega
    rw [ba' i hi hi']
    split
    · exact fsZ k h (ok i hi') _
    · exact bkZ k h (ok i hi') _
  · exact ⟨by rw [ca', cN, if_pos e], by simp only [fcS, if_pos e]⟩
  · exact ⟨by rw [ca', cN, if_neg e], by simp only [fcS, if_neg e]⟩
  · intro i h1 h2 h3 W x y e hW hx
    rw [qa'] at hx ⊢
    have q := FIRG k h (ok i h1) (c := qc i) (d := y) (((hC i h1).of_below hW).cm) hx (nl i h1) (nsc i) W (Below.refl _ _)
    rw [nl i h1, bl' i h3 h1, ba' i h3 h1, if_pos e]
    exact q
  · intro i h1 h2 h3 h4 W x y e hW hx
    rw [qa'] at hx ⊢
    have q := BCKI k h (ok i h1) (cl i) (c := qc i) (d := y) (((hC i h1).of_below hW).cm) hx (nl i h1) (nsc i) W (Below.refl _ _)
    rw [nl i h1, bl' i h3 h1, ba' i h3 h1, if_neg e, ca']
    exact q
  · intro n w0 W tb s lab hA h3 hl
    exact CHA k hA h3 hl
  · intro W
    exact zero85 (fun X => zero_call k X)
  · intro W x hx
    have hcl : (chS S M L which s0).length = L.length := by simp [chS]
    have q := total58 (w := W) (z := z) (x := some ⟨b, 0, none⟩) (n := L.length) (m := c) (c := L.length) (S := S) (M := M) (by omega) hx (fun V => zero85 (fun X => zero_call k X)) (fun i hi V => plus93 (y := 0) (fun X => ?_))
    · rw [hcl] at q; exact q
    · rw [ca']
      have q := add_yes k X (k.sc (totN_lt hM ((chS S M L which s0).take i))) (k.sc (cl i))
      rw [k.nu (totN_lt hM ((chS S M L which s0).take i)), k.nu (cl i)] at q
      rw [k.nu (cl i)]
      exact q
  · intro W
    rw [hu]
    exact minus68 (fun X => SUB k (askN_lt h _ _) (totN_lt hM _) X)
  · intro h1 h2 W x y hW hx
    rw [qa'] at hx ⊢
    have hul : u < M := by rw [hu]; exact Nat.mod_lt _ hM
    have q := ANS k h hul (w := W) (a := qa which) (n := (L[which]'hw).length) (c := qc which) (c1 := y) (c2 := c2) (by rw [nl which hw]; exact (ok which hw).most) (by rw [nl which hw]; exact hml) (nsc which) hsc hx (hms.of_below hW)
    rw [nl which hw] at q
    rw [ansL_len (nl which hw) hml, nl which hw]
    exact q
end
end Go.Proofs.YtmpiipcllgjhdaaGreatDoor
namespace Go.Proofs.YtmpiipcllgjhdaaGreatDoor
open Go.RowKit Go.Deep Go.PlainAid

section
variable {z : Int} {G : Array Value} {S Wd M low one sq Ri Wd2 M2 low2 one2 sq2 Ri2 : Nat}
set_option maxHeartbeats 800000 in
theorem VRS (k : KD z G S Wd M low one sq Ri Wd2 M2 low2 one2 sq2 Ri2) (h : PK S M M2) {w : World} {b c which d f : Nat} {xa va : Option Addr} {qa : Nat → Option Addr} {qc : Nat → Nat} {L : List (List Cl)} {label s0 : ByteArray} {ms : List ByteArray} (hL : L.length ≤ 16) (hw : which < L.length) (hT : TT w) (hlb : label.size < 1125899906842624) (hI : IHolds w b 53 (rowS z qa qc L L.length)) (hC : ∀ i (h : i < L.length), CK w (qa i) (L[i]'h)) (ok : ∀ i (h : i < L.length), OkC (isEl S M) (L[i]'h))
    (hml : ms.length = (L[which]'hw).length) (hold : (L[which]'hw).map Prod.snd = fsG S M M2 (L[which]'hw) ms) {u : Nat} (hu : u = (askN chaB (verS (bS S M M2 L which s0) (eitS L (st0 z eitB label))) M + M - totN M (chS S M L which s0)) % M)
    (hx : SL w xa ((chS S M L which s0).set which (TX S u))) (hv : AN w va ((qS S M L which s0).set which (ansL S M u (nS S M L which s0 which) ms))) :
    Calls Tryz.prog 29 #[.agg #[.int .i64 z, .slice (some ⟨b, 0, none⟩) L.length c], .string label, .agg #[.slice xa L.length d, .slice va L.length f]] w fun e w' => e = .returned (.bool true) ∧ Below w.heap.size w w' := by
  have m1 := h.m1
  have hM : 0 < M := by omega
  have hul : u < M := by rw [hu]; exact Nat.mod_lt _ hM
  have cl : ∀ i, cN M L which s0 i < M := fun i => by
    unfold cN
    split
    · exact hM
    · exact askN_lt h _ _
  have gd : ∀ i (hi : i < L.length), L.getD i [] = L[i]'hi := fun i hi => by simp [hi]
  have hcl : (chS S M L which s0).length = L.length := by simp [chS]
  have hql : (qS S M L which s0).length = L.length := by simp [qS]
  have qa' : ∀ i (hi : i < (qS S M L which s0).length), (qS S M L which s0)[i] = nS S M L which s0 i := fun i hi => by simp [qS]
  have ca' : ∀ i (hi : i < (chS S M L which s0).length), (chS S M L which s0)[i] = TX S (cN M L which s0 i) := fun i hi => by simp [chS]
  have nl : ∀ i (hi : i < L.length), (nS S M L which s0 i).length = (L[i]'hi).length := fun i hi => by rw [nS, nonL_len, gd i hi]
  have nsc : ∀ i, (nS S M L which s0 i).all (isSc S M) = true := fun i => nonL_sc h _ _
  have ba' : ∀ i (hi : i < (bS S M M2 L which s0).length) (hi' : i < L.length), (bS S M M2 L which s0)[i] = if i = which then fsG S M M2 (L[i]'hi') (nS S M L which s0 i) else bkG S M M2 ((0 + M - cN M L which s0 i) % M) (L[i]'hi') (nS S M L which s0 i) := fun i hi hi' => by simp [bS, hi']
  have bl' : ∀ i (hi : i < (bS S M M2 L which s0).length) (hi' : i < L.length), ((bS S M M2 L which s0)[i]).length = (L[i]'hi').length := fun i hi hi' => by
    rw [ba' i hi hi']
    have := nl i hi'
    split <;> simp [fsG, bkG] <;> omega
  have hbl : (bS S M M2 L which s0).length = L.length := by simp [bS]
  have al := ansL_len (S := S) (M := M) (c := u) (nl which hw) hml
  have tot : totN M ((chS S M L which s0).set which (TX S u)) = askN chaB (verS (bS S M M2 L which s0) (eitS L (st0 z eitB label))) M := totN_set hM (askN_lt h _ _) (by omega) (by rw [ca', cN, if_pos rfl, k.nu hM]) (by rw [k.nu hul]; exact hu)
  refine verify29 (r := TX S (askN chaB (verS (bS S M M2 L which s0) (eitS L (st0 z eitB label))) M)) hL hT hlb hI hC (fun i hi => (ok i hi).most) (fun i hi => okZ k (ok i hi)) hx (by simp [hcl]) hv (by simp [hql]) hbl (fun i hi => by rw [bl' i hi (by omega)]; exact (ok i (by omega)).most) (fun i hi => ?_) ?_ ?_ ?_
  · have hi' : i < L.length := by omega
    rw [ba' i hi hi']
    split
    · exact fsZ k h (ok i hi') _
    · exact bkZ k h (ok i hi') _
  · intro i h1 h2 h3 h4 W x y hW hq
    by_cases e : i = which
    · subst e
      have q := BCKI k h (ok i h1) hul (c := qc i) (d := y) (((hC i h1).of_below hW).cm) (m := ansL S M u (nS S M L i s0 i) ms) (b := x) (by simpa using hq) al (ansL_sc h _ _) W (Below.refl _ _)
      rw [complete_plain h (ok i h1) hml (nl i h1) hul hold] at q
      rw [bl' i h4 h1, ba' i h4 h1, if_pos rfl, List.getElem_set_self, List.getElem_set_self, al]
      exact q
    · have e' : ¬ which = i := fun q => e q.symm
      have q := BCKI k h (ok i h1) (cl i) (c := qc i) (d := y) (((hC i h1).of_below hW).cm) (m := nS S M L which s0 i) (b := x) (by simpa [List.getElem_set_ne e', qa'] using hq) (nl i h1) (nsc i) W (Below.refl _ _)
      rw [bl' i h4 h1, ba' i h4 h1, if_neg e, List.getElem_set_ne e', List.getElem_set_ne e', qa', ca', nl i h1]
      exact q
  · intro n w0 W tb hA h3
    exact CHA k hA h3 (by decide)
  · intro W hx'
    have hsl : ((chS S M L which s0).set which (TX S u)).length = L.length := by simp [hcl]
    have sc : ∀ i (hi : i < ((chS S M L which s0).set which (TX S u)).length), isSc S M (((chS S M L which s0).set which (TX S u))[i]) = true := fun i hi => by
      rw [List.getElem_set]
      split
      · exact k.sc hul
      · rw [ca']; exact k.sc (cl i)
    have q := total58 (w := W) (z := z) (x := some ⟨b, 0, none⟩) (n := L.length) (m := c) (c := d) (S := S) (M := M) (by omega) hx' (fun V => zero85 (fun X => zero_call k X)) (fun i hi V => plus93 (y := 0) (fun X => ?_))
    · rw [hsl, tot] at q; exact q
    · have q := add_yes k X (k.sc (totN_lt hM (((chS S M L which s0).set which (TX S u)).take i))) (sc i hi)
      rw [k.nu (totN_lt hM (((chS S M L which s0).set which (TX S u)).take i))] at q
      exact q
end
end Go.Proofs.YtmpiipcllgjhdaaGreatDoor
namespace Go.Proofs.YtmpiipcllgjhdaaGreatDoor
open Go.RowKit Go.Deep Go.PlainAid

section
variable {z : Int} {G : Array Value} {S Wd M low one sq Ri Wd2 M2 low2 one2 sq2 Ri2 : Nat}
theorem SETS (k : KD z G S Wd M low one sq Ri Wd2 M2 low2 one2 sq2 Ri2) {w : World} {a : Option Addr} {c : Nat} {qa : Nat → Option Addr} {qc : Nat → Nat} {L : List (List Cl)} (h0 : 0 < L.length) (hL : L.length ≤ 16) (hs : LQ w a qa qc L) (hb : ∀ i (h : i < L.length), (L[i]'h).length ≤ 1048576 ∧ ∀ j (h2 : j < (L[i]'h).length), ((L[i]'h)[j]'h2).1.length ≤ 1048576 ∧ ((L[i]'h)[j]'h2).2.length ≤ 1048576) :
    Calls Tryz.prog 26 #[.int .i64 z, .slice a L.length c] w fun e w' => SetsR (isEl S M) z qa qc L e w' ∧ Below w.heap.size w w' := by
  refine setsOf26 h0 hL (fun V => groundOf_yes k V) (fun V hV => ?_)
  refine read54 hL (hs.of_below hV) (fun i h X hX => ?_)
  obtain ⟨_, _, _, _, hC⟩ := ((hs.of_below hV).of_below hX) i h
  exact set40 (hb i h).1 (fun j h2 => (hb i h).2 j h2) hC.cm (fun s X => noElem133 (fun Y => memb_call k Y s))
/-- What is said, and what is taken for the set that holds. -/
def s0S (z : Int) (L : List (List Cl)) (label seed : ByteArray) : ByteArray := sy (eitS L (st0 z eitB label)) sedB seed
def uS (z : Int) (S M M2 : Nat) (L : List (List Cl)) (which : Nat) (label seed : ByteArray) : Nat := (askN chaB (verS (bS S M M2 L which (s0S z L label seed)) (eitS L (st0 z eitB label))) M + M - totN M (chS S M L which (s0S z L label seed))) % M
def chA (z : Int) (S M M2 : Nat) (L : List (List Cl)) (which : Nat) (label seed : ByteArray) : List ByteArray := (chS S M L which (s0S z L label seed)).set which (TX S (uS z S M M2 L which label seed))
def anA (z : Int) (S M M2 : Nat) (L : List (List Cl)) (which : Nat) (label seed : ByteArray) (ms : List ByteArray) : List (List ByteArray) := (qS S M L which (s0S z L label seed)).set which (ansL S M (uS z S M M2 L which label seed) (nS S M L which (s0S z L label seed) which) ms)
theorem PANY (k : KD z G S Wd M low one sq Ri Wd2 M2 low2 one2 sq2 Ri2) (h : PK S M M2) {w : World} {a a2 : Option Addr} {c c2 which : Nat} {qa : Nat → Option Addr} {qc : Nat → Nat} {L : List (List Cl)} {label seed : ByteArray} {ms : List ByteArray} (hL : L.length ≤ 16) (hw : which < L.length) (hT : TT w) (hlb : label.size < 1125899906842624) (hsd : seed.size < 1125899906842624) (hs : LQ w a qa qc L) (hb : ∀ i (h : i < L.length), (L[i]'h).length ≤ 1048576 ∧ ∀ j (h2 : j < (L[i]'h).length), ((L[i]'h)[j]'h2).1.length ≤ 1048576 ∧ ((L[i]'h)[j]'h2).2.length ≤ 1048576) (ok : ∀ l ∈ L, OkC (isEl S M) l)
    (hms : SL w a2 ms) (hml : ms.length = (L[which]'hw).length) (hsc : ms.all (isSc S M) = true) (hold : (L[which]'hw).map Prod.snd = fsG S M M2 (L[which]'hw) ms) :
    Calls Tryz.prog 12 #[.int .i64 z, .string label, .slice a L.length c, .int .i64 (which : Int), .slice a2 ms.length c2, .string seed] w fun e w' => (∃ bc ba, e = .returned (.tuple #[.agg #[.slice (some ⟨bc, 0, none⟩) L.length L.length, .slice (some ⟨ba, 0, none⟩) L.length L.length], .int .i64 0]) ∧ SL w' (some ⟨bc, 0, none⟩) (chA z S M M2 L which label seed) ∧ AN w' (some ⟨ba, 0, none⟩) (anA z S M M2 L which label seed ms)) ∧ Below w.heap.size w w' := by
  have ok' : ∀ i (h : i < L.length), OkC (isEl S M) (L[i]'h) := fun i h => ok _ (List.getElem_mem h)
  have hC : ∀ W, Below w.heap.size w W → ∀ i (h : i < L.length), CK W (qa i) (L[i]'h) := fun W hW i h => by
    obtain ⟨_, _, _, _, q⟩ := (hs.of_below hW) i h
    exact q
  refine proveAny12 (qa := qa) (qc := qc) hL hw (fun W hW => ?_) (fun W hW => ?_) (fun W b hW hI => ?_)
  · refine (SETS k (by omega) hL (hs.of_below hW) hb).mono fun e w' ⟨q, hB⟩ => ?_
    rcases q with ⟨_, q⟩ | ⟨q, _⟩
    · exact ⟨q, hB⟩
    · exact absurd ok q
  · have q := WSC k h (ok' which hw) (c := qc which) (d := c2) ((hC w (Below.refl _ _) which hw).cm) hms hml hsc hold W hW
    rw [hml]
    exact q
  · exact PVS k h hL hw (hT.below hW) hlb hsd hI (hC W hW) ok' rfl (hms.of_below hW) hml hsc rfl
theorem VANY (k : KD z G S Wd M low one sq Ri Wd2 M2 low2 one2 sq2 Ri2) (h : PK S M M2) {w : World} {a xa va : Option Addr} {c d f which : Nat} {qa : Nat → Option Addr} {qc : Nat → Nat} {L : List (List Cl)} {label seed : ByteArray} {ms : List ByteArray} (hL : L.length ≤ 16) (hw : which < L.length) (hT : TT w) (hlb : label.size < 1125899906842624) (hs : LQ w a qa qc L) (hb : ∀ i (h : i < L.length), (L[i]'h).length ≤ 1048576 ∧ ∀ j (h2 : j < (L[i]'h).length), ((L[i]'h)[j]'h2).1.length ≤ 1048576 ∧ ((L[i]'h)[j]'h2).2.length ≤ 1048576) (ok : ∀ l ∈ L, OkC (isEl S M) l)
    (hml : ms.length = (L[which]'hw).length) (hold : (L[which]'hw).map Prod.snd = fsG S M M2 (L[which]'hw) ms) (hx : SL w xa (chA z S M M2 L which label seed)) (hv : AN w va (anA z S M M2 L which label seed ms)) :
    Calls Tryz.prog 13 #[.int .i64 z, .string label, .slice a L.length c, .agg #[.slice xa L.length d, .slice va L.length f]] w fun e w' => e = .returned (.bool true) ∧ Below w.heap.size w w' := by
  have m1 := h.m1
  have hM : 0 < M := by omega
  have ok' : ∀ i (h : i < L.length), OkC (isEl S M) (L[i]'h) := fun i h => ok _ (List.getElem_mem h)
  have hC : ∀ W, Below w.heap.size w W → ∀ i (h : i < L.length), CK W (qa i) (L[i]'h) := fun W hW i h => by
    obtain ⟨_, _, _, _, q⟩ := (hs.of_below hW) i h
    exact q
  have hul : uS z S M M2 L which label seed < M := Nat.mod_lt _ hM
  have hcl : (chA z S M M2 L which label seed).length = L.length := by simp [chA, chS]
  have hql : (anA z S M M2 L which label seed ms).length = L.length := by simp [anA, qS]
  have nl : ∀ i (hi : i < L.length), (nS S M L which (s0S z L label seed) i).length = (L[i]'hi).length := fun i hi => by rw [nS, nonL_len]; simp [hi]
  refine verifyAny13 (R := rowS z qa qc L L.length) (fun W hW => ?_) (fun W b hW hI => ?_) (fun W b hW hI => ?_)
  · refine (SETS k (by omega) hL (hs.of_below hW) hb).mono fun e w' ⟨q, hB⟩ => ?_
    rcases q with ⟨_, q⟩ | ⟨q, _⟩
    · exact ⟨q, hB⟩
    · exact absurd ok q
  · refine fits28 (fun V hV => ?_) (fun V hV => ?_)
    · have q := scalars84 (c := d) (isSc S M) (by omega) ((hx.of_below hW).of_below hV) (fun s X => noScalar k s X)
      have e : (chA z S M M2 L which label seed).all (isSc S M) = true := by
        rw [List.all_eq_true]
        intro x hx
        rcases List.mem_or_eq_of_mem_set hx with hx | rfl
        · simp only [chS, List.mem_map] at hx
          obtain ⟨i, _, rfl⟩ := hx
          refine k.sc ?_
          unfold cN
          split
          · exact hM
          · exact askN_lt h _ _
        · exact k.sc hul
      rw [e, hcl] at q
      exact q
    · refine equal60 (qa := qa) (qc := qc) hL hql (hI.of_below hV) ((hv.of_below hW).of_below hV) (fun i h1 h2 X x y hX hq => ?_)
      refine clos61 (fun Y hY => ?_)
      have e : ((anA z S M M2 L which label seed ms)[i]).length = (L[i]'h1).length ∧ ((anA z S M M2 L which label seed ms)[i]).all (isSc S M) = true := by
        simp only [anA, List.getElem_set]
        split
        · rename_i e
          subst e
          exact ⟨ansL_len (nl _ hw) hml, ansL_sc h _ _⟩
        · simp only [qS, List.getElem_map, List.getElem_range]
          exact ⟨nl i h1, nonL_sc h _ _⟩
      have q := WRO k (a := qa i) (c := qc i) (d := y) e.1 (ok' i h1).most hq e.2 Y hY
      rw [e.1]
      exact q
  · exact VRS k h hL hw (hT.below hW) hlb hI (hC W hW) ok' hml hold rfl (hx.of_below hW) (hv.of_below hW)
end
end Go.Proofs.YtmpiipcllgjhdaaGreatDoor
