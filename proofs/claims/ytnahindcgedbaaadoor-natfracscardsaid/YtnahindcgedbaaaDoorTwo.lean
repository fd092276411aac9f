/- The walks of readNumber and of what reads two numbers: Add, Sub, Mul, Compare. -/
import Derived.Test.YtnahindcgedbaaaDoorBaseA
set_option linter.unusedSimpArgs false
set_option linter.unusedVariables false
namespace Go.Proofs.YtnahindcgedbaaaDoor
open Go.RowKit Go.Deep Go.PlainAid

theorem wrT_zero {s : ByteArray} (h : wrT s = 0) : isNum s.data.toList = true ∧ s.size ≤ 4000 := by
  unfold wrT at h
  split at h
  · cases h
  · split at h
    · cases h
    · rename_i h1 h2
      exact ⟨by simpa using h1, by omega⟩
theorem isNum_all {l : List UInt8} (h : isNum l = true) : allDig l = true := by
  simp only [isNum, Bool.and_eq_true] at h
  exact h.1
set_option maxHeartbeats 400000 in
theorem readNumber_ok (s : ByteArray) (w : World) (h : wrT s = 0) :
    Calls Tryd.prog 50 #[.string s] w fun e w' => (∃ v, e = .returned (.tuple #[v, .int .i64 0]) ∧ NumV w' 1000000000 (bv s.data.toList) v) ∧ Below w.heap.size w w' := by
  obtain ⟨hn, hs⟩ := wrT_zero h
  have HA := isNum_all hn
  have HW : Hid (Calls Tryd.prog 88 #[.slice (some ⟨w.heap.size, 0, none⟩) 1 1] (w.alloc (.cells #[.string s] 9)) fun e w' => e = .returned (.int .i64 0) ∧ w' = w.alloc (.cells #[.string s] 9)) := by
    have := wrong_any (w.alloc (.cells #[.string s] 9)) (some ⟨w.heap.size, 0, none⟩) 1 [s] (fun i hi => ⟨w.heap.size, 0, rfl, by
      have : i = 0 := by simpa using hi
      subst this; simp⟩) (by simp) (by simp; omega)
    rw [wrL_one, h] at this
    exact this
  have q2 : Hid (Below w.heap.size w (w.alloc (.cells #[.string s] 9))) := (Below.refl _ w).alloc (Nat.le_refl _) _
  go_enter Tryd.func50, Tryd.ntmps50
  go_wp2_with fail
  generalize w.alloc (.cells #[.string s] 9) = W0 at *
  refine HW.out.mono ?_
  rintro e w1 ⟨rfl, rfl⟩
  go_wp2_with fail
  refine (numberOf_any s w1 HA (by omega)).mono ?_
  rintro e w2 ⟨⟨v, rfl, hv⟩, hb⟩
  have HV : Hid (NumV w2 1000000000 (bv s.data.toList) v) := hv
  have HB : Hid (Below w.heap.size w w2) := q2.out.trans (hb.mono q2.out.size)
  clear hv hb
  go_wp2_with fail
  go_ret2
  exact ⟨⟨v, rfl, HV.out⟩, HB.out⟩
set_option maxHeartbeats 400000 in
theorem readNumber_bad (s : ByteArray) (w : World) (h : wrT s ≠ 0) (hs : s.size ≤ 4611686018427387904) :
    Calls Tryd.prog 50 #[.string s] w fun e w' => e = .returned (.tuple #[.slice none 0 0, .int .i64 (wrT s : Int)]) ∧ Below w.heap.size w w' := by
  have HW : Hid (Calls Tryd.prog 88 #[.slice (some ⟨w.heap.size, 0, none⟩) 1 1] (w.alloc (.cells #[.string s] 9)) fun e w' => e = .returned (.int .i64 (wrT s : Int)) ∧ w' = w.alloc (.cells #[.string s] 9)) := by
    have := wrong_any (w.alloc (.cells #[.string s] 9)) (some ⟨w.heap.size, 0, none⟩) 1 [s] (fun i hi => ⟨w.heap.size, 0, rfl, by
      have : i = 0 := by simpa using hi
      subst this; simp⟩) (by simp) (by simp; omega)
    rw [wrL_one] at this
    exact this
  have q2 : Hid (Below w.heap.size w (w.alloc (.cells #[.string s] 9))) := (Below.refl _ w).alloc (Nat.le_refl _) _
  have hx : ((wrT s : Int) != 0) = true := bne_iff_ne.2 (by omega)
  generalize wrT s = x at *
  go_enter Tryd.func50, Tryd.ntmps50
  go_wp2_with fail
  generalize w.alloc (.cells #[.string s] 9) = W0 at *
  refine HW.out.mono ?_
  rintro e w1 ⟨rfl, rfl⟩
  go_wp2_with fail
  go_ret2
  exact ⟨rfl, q2.out⟩




set_option maxRecDepth 100000 in
set_option maxHeartbeats 1000000 in
theorem withTwo49_51_ok (a b : ByteArray) (w : World) (ha : wrT a = 0) (hb : wrT b = 0) (r : Value) (c : Int)
    (hF : ∀ W v1 v2, NumV W 1000000000 (bv a.data.toList) v1 → NumV W 1000000000 (bv b.data.toList) v2 → Calls Tryd.prog 51 #[v1, v2] W fun e w' => e = .returned (.tuple #[r, .int .i64 c]) ∧ Below W.heap.size W w') :
    Calls Tryd.prog 49 #[.func (.func 50) #[] #[], .string a, .string b, .func (.func 51) #[] #[]] w fun e w' => e = .returned (.tuple #[r, .int .i64 c]) ∧ Below w.heap.size w w' := by
  have HF : Hid (∀ W v1 v2, NumV W 1000000000 (bv a.data.toList) v1 → NumV W 1000000000 (bv b.data.toList) v2 → Calls Tryd.prog 51 #[v1, v2] W fun e w' => e = .returned (.tuple #[r, .int .i64 c]) ∧ Below W.heap.size W w') := hF
  clear hF
  go_enter Tryd.func49, Tryd.ntmps49
  go_wp2_with fail
  refine (readNumber_ok a w ha).mono ?_
  rintro e w1 ⟨⟨v1, rfl, h1⟩, b1⟩
  have H1 : Hid (NumV w1 1000000000 (bv a.data.toList) v1) := h1
  have B1 : Hid (Below w.heap.size w w1) := b1
  clear h1 b1
  go_wp2_with fail
  refine (readNumber_ok b w1 hb).mono ?_
  rintro e w2 ⟨⟨v2, rfl, h2⟩, b2⟩
  have H2 : Hid (NumV w2 1000000000 (bv b.data.toList) v2) := h2
  have H3 : Hid (NumV w2 1000000000 (bv a.data.toList) v1) := H1.out.of_below b2
  have B2 : Hid (Below w.heap.size w w2) := B1.out.trans (b2.mono B1.out.size)
  clear h2 b2
  go_wp2_with fail
  refine (HF.out w2 v1 v2 H3.out H2.out).mono ?_
  rintro e w3 ⟨rfl, b3⟩
  have B3 : Hid (Below w.heap.size w w3) := B2.out.trans (b3.mono B2.out.size)
  clear b3
  go_wp2_with fail
  go_ret2
  exact ⟨rfl, B3.out⟩

set_option maxRecDepth 100000 in
set_option maxHeartbeats 1000000 in
theorem withTwo49_55_ok (a b : ByteArray) (w : World) (ha : wrT a = 0) (hb : wrT b = 0) (r : Value) (c : Int)
    (hF : ∀ W v1 v2, NumV W 1000000000 (bv a.data.toList) v1 → NumV W 1000000000 (bv b.data.toList) v2 → Calls Tryd.prog 55 #[v1, v2] W fun e w' => e = .returned (.tuple #[r, .int .i64 c]) ∧ Below W.heap.size W w') :
    Calls Tryd.prog 49 #[.func (.func 50) #[] #[], .string a, .string b, .func (.func 55) #[] #[]] w fun e w' => e = .returned (.tuple #[r, .int .i64 c]) ∧ Below w.heap.size w w' := by
  have HF : Hid (∀ W v1 v2, NumV W 1000000000 (bv a.data.toList) v1 → NumV W 1000000000 (bv b.data.toList) v2 → Calls Tryd.prog 55 #[v1, v2] W fun e w' => e = .returned (.tuple #[r, .int .i64 c]) ∧ Below W.heap.size W w') := hF
  clear hF
  go_enter Tryd.func49, Tryd.ntmps49
  go_wp2_with fail
  refine (readNumber_ok a w ha).mono ?_
  rintro e w1 ⟨⟨v1, rfl, h1⟩, b1⟩
  have H1 : Hid (NumV w1 1000000000 (bv a.data.toList) v1) := h1
  have B1 : Hid (Below w.heap.size w w1) := b1
  clear h1 b1
  go_wp2_with fail
  refine (readNumber_ok b w1 hb).mono ?_
  rintro e w2 ⟨⟨v2, rfl, h2⟩, b2⟩
  have H2 : Hid (NumV w2 1000000000 (bv b.data.toList) v2) := h2
  have H3 : Hid (NumV w2 1000000000 (bv a.data.toList) v1) := H1.out.of_below b2
  have B2 : Hid (Below w.heap.size w w2) := B1.out.trans (b2.mono B1.out.size)
  clear h2 b2
  go_wp2_with fail
  refine (HF.out w2 v1 v2 H3.out H2.out).mono ?_
  rintro e w3 ⟨rfl, b3⟩
  have B3 : Hid (Below w.heap.size w w3) := B2.out.trans (b3.mono B2.out.size)
  clear b3
  go_wp2_with fail
  go_ret2
  exact ⟨rfl, B3.out⟩

set_option maxRecDepth 100000 in
set_option maxHeartbeats 1000000 in
theorem withTwo49_60_ok (a b : ByteArray) (w : World) (ha : wrT a = 0) (hb : wrT b = 0) (r : Value) (c : Int)
    (hF : ∀ W v1 v2, NumV W 1000000000 (bv a.data.toList) v1 → NumV W 1000000000 (bv b.data.toList) v2 → Calls Tryd.prog 60 #[v1, v2] W fun e w' => e = .returned (.tuple #[r, .int .i64 c]) ∧ Below W.heap.size W w') :
    Calls Tryd.prog 49 #[.func (.func 50) #[] #[], .string a, .string b, .func (.func 60) #[] #[]] w fun e w' => e = .returned (.tuple #[r, .int .i64 c]) ∧ Below w.heap.size w w' := by
  have HF : Hid (∀ W v1 v2, NumV W 1000000000 (bv a.data.toList) v1 → NumV W 1000000000 (bv b.data.toList) v2 → Calls Tryd.prog 60 #[v1, v2] W fun e w' => e = .returned (.tuple #[r, .int .i64 c]) ∧ Below W.heap.size W w') := hF
  clear hF
  go_enter Tryd.func49, Tryd.ntmps49
  go_wp2_with fail
  refine (readNumber_ok a w ha).mono ?_
  rintro e w1 ⟨⟨v1, rfl, h1⟩, b1⟩
  have H1 : Hid (NumV w1 1000000000 (bv a.data.toList) v1) := h1
  have B1 : Hid (Below w.heap.size w w1) := b1
  clear h1 b1
  go_wp2_with fail
  refine (readNumber_ok b w1 hb).mono ?_
  rintro e w2 ⟨⟨v2, rfl, h2⟩, b2⟩
  have H2 : Hid (NumV w2 1000000000 (bv b.data.toList) v2) := h2
  have H3 : Hid (NumV w2 1000000000 (bv a.data.toList) v1) := H1.out.of_below b2
  have B2 : Hid (Below w.heap.size w w2) := B1.out.trans (b2.mono B1.out.size)
  clear h2 b2
  go_wp2_with fail
  refine (HF.out w2 v1 v2 H3.out H2.out).mono ?_
  rintro e w3 ⟨rfl, b3⟩
  have B3 : Hid (Below w.heap.size w w3) := B2.out.trans (b3.mono B2.out.size)
  clear b3
  go_wp2_with fail
  go_ret2
  exact ⟨rfl, B3.out⟩

set_option maxRecDepth 100000 in
set_option maxHeartbeats 1000000 in
theorem withTwo57_58_ok (a b : ByteArray) (w : World) (ha : wrT a = 0) (hb : wrT b = 0) (r : Value) (c : Int)
    (hF : ∀ W v1 v2, NumV W 1000000000 (bv a.data.toList) v1 → NumV W 1000000000 (bv b.data.toList) v2 → Calls Tryd.prog 58 #[v1, v2] W fun e w' => e = .returned (.tuple #[r, .int .i64 c]) ∧ Below W.heap.size W w') :
    Calls Tryd.prog 57 #[.func (.func 50) #[] #[], .string a, .string b, .func (.func 58) #[] #[]] w fun e w' => e = .returned (.tuple #[r, .int .i64 c]) ∧ Below w.heap.size w w' := by
  have HF : Hid (∀ W v1 v2, NumV W 1000000000 (bv a.data.toList) v1 → NumV W 1000000000 (bv b.data.toList) v2 → Calls Tryd.prog 58 #[v1, v2] W fun e w' => e = .returned (.tuple #[r, .int .i64 c]) ∧ Below W.heap.size W w') := hF
  clear hF
  go_enter Tryd.func57, Tryd.ntmps57
  go_wp2_with fail
  refine (readNumber_ok a w ha).mono ?_
  rintro e w1 ⟨⟨v1, rfl, h1⟩, b1⟩
  have H1 : Hid (NumV w1 1000000000 (bv a.data.toList) v1) := h1
  have B1 : Hid (Below w.heap.size w w1) := b1
  clear h1 b1
  go_wp2_with fail
  refine (readNumber_ok b w1 hb).mono ?_
  rintro e w2 ⟨⟨v2, rfl, h2⟩, b2⟩
  have H2 : Hid (NumV w2 1000000000 (bv b.data.toList) v2) := h2
  have H3 : Hid (NumV w2 1000000000 (bv a.data.toList) v1) := H1.out.of_below b2
  have B2 : Hid (Below w.heap.size w w2) := B1.out.trans (b2.mono B1.out.size)
  clear h2 b2
  go_wp2_with fail
  refine (HF.out w2 v1 v2 H3.out H2.out).mono ?_
  rintro e w3 ⟨rfl, b3⟩
  have B3 : Hid (Below w.heap.size w w3) := B2.out.trans (b3.mono B2.out.size)
  clear b3
  go_wp2_with fail
  go_ret2
  exact ⟨rfl, B3.out⟩

set_option maxRecDepth 100000 in
set_option maxHeartbeats 1000000 in
theorem withTwo49_bad (F : FuncId) (a b : ByteArray) (w : World) (h : wr2 a b ≠ 0) (ha : a.size ≤ 4611686018427387904) (hb : b.size ≤ 4611686018427387904) :
    Calls Tryd.prog 49 #[.func (.func 50) #[] #[], .string a, .string b, .func (.func F) #[] #[]] w fun e w' => e = .returned (.tuple #[.string ⟨#[]⟩, .int .i64 (wr2 a b : Int)]) ∧ Below w.heap.size w w' := by
  by_cases h0 : wrT a = 0
  · have e : wr2 a b = wrT b := by simp [wr2, h0]
    rw [e] at h ⊢
    have hx : ((wrT b : Int) != 0) = true := bne_iff_ne.2 (by omega)
    have HC : Hid (∀ w, Calls Tryd.prog 50 #[.string b] w fun e w' => e = .returned (.tuple #[.slice none 0 0, .int .i64 (wrT b : Int)]) ∧ Below w.heap.size w w') := fun w => readNumber_bad b w h hb
    clear e
    generalize wrT b = x at *
    go_enter Tryd.func49, Tryd.ntmps49
    go_wp2_with fail
    refine (readNumber_ok a w h0).mono ?_
    rintro e w1 ⟨⟨v1, rfl, h1⟩, b1⟩
    have B1 : Hid (Below w.heap.size w w1) := b1
    clear h1 b1
    go_wp2_with fail
    refine (HC.out w1).mono ?_
    rintro e w2 ⟨rfl, b2⟩
    have B2 : Hid (Below w.heap.size w w2) := B1.out.trans (b2.mono B1.out.size)
    clear b2
    go_wp2_with fail
    go_ret2
    exact ⟨rfl, B2.out⟩
  · have e : wr2 a b = wrT a := by simp [wr2, h0]
    rw [e]
    have hx : ((wrT a : Int) != 0) = true := bne_iff_ne.2 (by omega)
    have HC : Hid (∀ w, Calls Tryd.prog 50 #[.string a] w fun e w' => e = .returned (.tuple #[.slice none 0 0, .int .i64 (wrT a : Int)]) ∧ Below w.heap.size w w') := fun w => readNumber_bad a w h0 ha
    clear e h
    generalize wrT a = x at *
    go_enter Tryd.func49, Tryd.ntmps49
    go_wp2_with fail
    refine (HC.out w).mono ?_
    rintro e w2 ⟨rfl, b2⟩
    have B2 : Hid (Below w.heap.size w w2) := b2
    clear b2
    go_wp2_with fail
    go_ret2
    exact ⟨rfl, B2.out⟩

set_option maxRecDepth 100000 in
set_option maxHeartbeats 1000000 in
theorem withTwo57_bad (F : FuncId) (a b : ByteArray) (w : World) (h : wr2 a b ≠ 0) (ha : a.size ≤ 4611686018427387904) (hb : b.size ≤ 4611686018427387904) :
    Calls Tryd.prog 57 #[.func (.func 50) #[] #[], .string a, .string b, .func (.func F) #[] #[]] w fun e w' => e = .returned (.tuple #[.int .i64 0, .int .i64 (wr2 a b : Int)]) ∧ Below w.heap.size w w' := by
  by_cases h0 : wrT a = 0
  · have e : wr2 a b = wrT b := by simp [wr2, h0]
    rw [e] at h ⊢
    have hx : ((wrT b : Int) != 0) = true := bne_iff_ne.2 (by omega)
    have HC : Hid (∀ w, Calls Tryd.prog 50 #[.string b] w fun e w' => e = .returned (.tuple #[.slice none 0 0, .int .i64 (wrT b : Int)]) ∧ Below w.heap.size w w') := fun w => readNumber_bad b w h hb
    clear e
    generalize wrT b = x at *
    go_enter Tryd.func57, Tryd.ntmps57
    go_wp2_with fail
    refine (readNumber_ok a w h0).mono ?_
    rintro e w1 ⟨⟨v1, rfl, h1⟩, b1⟩
    have B1 : Hid (Below w.heap.size w w1) := b1
    clear h1 b1
    go_wp2_with fail
    refine (HC.out w1).mono ?_
    rintro e w2 ⟨rfl, b2⟩
    have B2 : Hid (Below w.heap.size w w2) := B1.out.trans (b2.mono B1.out.size)
    clear b2
    go_wp2_with fail
    go_ret2
    exact ⟨rfl, B2.out⟩
  · have e : wr2 a b = wrT a := by simp [wr2, h0]
    rw [e]
    have hx : ((wrT a : Int) != 0) = true := bne_iff_ne.2 (by omega)
    have HC : Hid (∀ w, Calls Tryd.prog 50 #[.string a] w fun e w' => e = .returned (.tuple #[.slice none 0 0, .int .i64 (wrT a : Int)]) ∧ Below w.heap.size w w') := fun w => readNumber_bad a w h0 ha
    clear e h
    generalize wrT a = x at *
    go_enter Tryd.func57, Tryd.ntmps57
    go_wp2_with fail
    refine (HC.out w).mono ?_
    rintro e w2 ⟨rfl, b2⟩
    have B2 : Hid (Below w.heap.size w w2) := b2
    clear b2
    go_wp2_with fail
    go_ret2
    exact ⟨rfl, B2.out⟩

end Go.Proofs.YtnahindcgedbaaaDoor
