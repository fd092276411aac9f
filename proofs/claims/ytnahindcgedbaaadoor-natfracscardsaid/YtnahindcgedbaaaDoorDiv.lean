/- The walk of Div. -/
import Derived.Test.YtnahindcgedbaaaDoorFace2
set_option linter.unusedSimpArgs false
set_option linter.unusedVariables false
namespace Go.Proofs.YtnahindcgedbaaaDoor
open Go.RowKit Go.Deep Go.PlainAid

set_option maxRecDepth 100000 in
set_option maxHeartbeats 1000000 in
theorem withTwo64_ok (a b : ByteArray) (w : World) (ha : wrT a = 0) (hb : wrT b = 0) (S1 S2 : ByteArray) (c : Int)
    (hF : ∀ W v1 v2, NumV W 1000000000 (bv a.data.toList) v1 → NumV W 1000000000 (bv b.data.toList) v2 → Calls Tryd.prog 65 #[v1, v2] W fun e w' => e = .returned (.tuple #[.agg #[.string S1, .string S2], .int .i64 c]) ∧ Below W.heap.size W w') :
    Calls Tryd.prog 64 #[.func (.func 50) #[] #[], .string a, .string b, .func (.func 65) #[] #[]] w fun e w' => e = .returned (.tuple #[.agg #[.string S1, .string S2], .int .i64 c]) ∧ Below w.heap.size w w' := by
  have HF : Hid (∀ W v1 v2, NumV W 1000000000 (bv a.data.toList) v1 → NumV W 1000000000 (bv b.data.toList) v2 → Calls Tryd.prog 65 #[v1, v2] W fun e w' => e = .returned (.tuple #[.agg #[.string S1, .string S2], .int .i64 c]) ∧ Below W.heap.size W w') := hF
  clear hF
  go_enter Tryd.func64, Tryd.ntmps64
  have B0 : Hid (Below w.heap.size w ((w.alloc (.cells #[.string ⟨#[]⟩, .string ⟨#[]⟩] 77)).alloc (.cells #[.string ⟨#[]⟩, .string ⟨#[]⟩] 77))) := ((Below.refl _ w).alloc (Nat.le_refl _) _).alloc (by simp [go_sem]) _
  have I0 : Hid (IHolds ((w.alloc (.cells #[.string ⟨#[]⟩, .string ⟨#[]⟩] 77)).alloc (.cells #[.string ⟨#[]⟩, .string ⟨#[]⟩] 77)) w.heap.size 77 [.string ⟨#[]⟩, .string ⟨#[]⟩]) := (IHolds.new w 77 [.string ⟨#[]⟩, .string ⟨#[]⟩]).of_below ((Below.refl _ _).alloc (Nat.le_refl _) _)
  have J0 : Hid (IHolds ((w.alloc (.cells #[.string ⟨#[]⟩, .string ⟨#[]⟩] 77)).alloc (.cells #[.string ⟨#[]⟩, .string ⟨#[]⟩] 77)) (w.heap.size + 1) 77 [.string ⟨#[]⟩, .string ⟨#[]⟩]) := by
    have := IHolds.new (w.alloc (.cells #[.string ⟨#[]⟩, .string ⟨#[]⟩] 77)) 77 [.string ⟨#[]⟩, .string ⟨#[]⟩]
    rw [show (w.alloc (.cells #[.string ⟨#[]⟩, .string ⟨#[]⟩] 77)).heap.size = w.heap.size + 1 from by simp [go_sem]] at this
    exact this
  go_wp2_with fail
  try simp only [World.size_alloc]
  generalize (w.alloc (.cells #[.string ⟨#[]⟩, .string ⟨#[]⟩] 77)).alloc (.cells #[.string ⟨#[]⟩, .string ⟨#[]⟩] 77) = W0 at *
  refine (readNumber_ok a W0 ha).mono ?_
  rintro e W1 ⟨⟨v1, rfl, h1⟩, b1⟩
  have H1 : Hid (NumV W1 1000000000 (bv a.data.toList) v1) := h1
  have B1 : Hid (Below w.heap.size w W1) := B0.out.trans (b1.mono B0.out.size)
  have I1 : Hid (IHolds W1 w.heap.size 77 [.string ⟨#[]⟩, .string ⟨#[]⟩]) := I0.out.of_below b1
  have J1 : Hid (IHolds W1 (w.heap.size + 1) 77 [.string ⟨#[]⟩, .string ⟨#[]⟩]) := J0.out.of_below b1
  clear b1 B0 I0 J0
  clear h1
  go_wp2_with fail
  refine (readNumber_ok b W1 hb).mono ?_
  rintro e W2 ⟨⟨v2, rfl, h2⟩, b2⟩
  have H2 : Hid (NumV W2 1000000000 (bv b.data.toList) v2) := h2
  have H3 : Hid (NumV W2 1000000000 (bv a.data.toList) v1) := H1.out.of_below b2
  have B2 : Hid (Below w.heap.size w W2) := B1.out.trans (b2.mono B1.out.size)
  have I2 : Hid (IHolds W2 w.heap.size 77 [.string ⟨#[]⟩, .string ⟨#[]⟩]) := I1.out.of_below b2
  have J2 : Hid (IHolds W2 (w.heap.size + 1) 77 [.string ⟨#[]⟩, .string ⟨#[]⟩]) := J1.out.of_below b2
  clear b2 B1 I1 J1
  clear h2
  go_wp2_with fail
  refine (HF.out W2 v1 v2 H3.out H2.out).mono ?_
  rintro e W3 ⟨rfl, b3⟩
  have B3 : Hid (Below w.heap.size w W3) := B2.out.trans (b3.mono B2.out.size)
  have I3 : Hid (IHolds W3 w.heap.size 77 [.string ⟨#[]⟩, .string ⟨#[]⟩]) := I2.out.of_below b3
  have J3 : Hid (IHolds W3 (w.heap.size + 1) 77 [.string ⟨#[]⟩, .string ⟨#[]⟩]) := J2.out.of_below b3
  clear b3 B2 I2 J2
  have I := I3.out
  have J := J3.out
  have c0 : W3.cell? ⟨w.heap.size, 0, none⟩ = some (.string ⟨#[]⟩) := I.cell 0 (by simp)
  have c1 : W3.cell? ⟨w.heap.size, 1, none⟩ = some (.string ⟨#[]⟩) := I.cell 1 (by simp)
  have f0 : ∀ i, W3.frozen? ⟨w.heap.size, i, none⟩ = false := fun i => I.frozen i
  have HB4 : Hid (Below w.heap.size w ((W3.setCell ⟨w.heap.size, 0, none⟩ (.string S1)).setCell ⟨w.heap.size, 1, none⟩ (.string S2))) := (B3.out.setCell (Nat.le_refl _) _).setCell (Nat.le_refl _) _
  have I4 := (I.set 0 (.string S1)).set 1 (.string S2)
  have D0 : Hid (((W3.setCell ⟨w.heap.size, 0, none⟩ (.string S1)).setCell ⟨w.heap.size, 1, none⟩ (.string S2)).cell? ⟨w.heap.size, 0, none⟩ = some (.string S1)) := I4.cell 0 (by simp)
  have D1 : Hid (((W3.setCell ⟨w.heap.size, 0, none⟩ (.string S1)).setCell ⟨w.heap.size, 1, none⟩ (.string S2)).cell? ⟨w.heap.size, 1, none⟩ = some (.string S2)) := I4.cell 1 (by simp)
  clear I J I4
  go_wp2_with fail
  clear c0 c1 f0 
  generalize ((W3.setCell ⟨w.heap.size, 0, none⟩ (.string S1)).setCell ⟨w.heap.size, 1, none⟩ (.string S2)) = W5 at *
  exact bodyPost_ret (v := .tuple #[.agg #[.string S1, .string S2], .int .i64 c]) (by simp [results, Tryd.results64, go_sem, D0.out, D1.out]) rfl ⟨rfl, HB4.out⟩

set_option maxRecDepth 100000 in
set_option maxHeartbeats 1000000 in
theorem withTwo64_bad (a b : ByteArray) (w : World) (h : wr2 a b ≠ 0) (ha : a.size ≤ 4611686018427387904) (hb : b.size ≤ 4611686018427387904) :
    Calls Tryd.prog 64 #[.func (.func 50) #[] #[], .string a, .string b, .func (.func 65) #[] #[]] w fun e w' => e = .returned (.tuple #[.agg #[.string ⟨#[]⟩, .string ⟨#[]⟩], .int .i64 (wr2 a b : Int)]) ∧ Below w.heap.size w w' := by
  by_cases h0 : wrT a = 0
  · have e : wr2 a b = wrT b := by simp [wr2, h0]
    rw [e] at h ⊢
    have hx : ((wrT b : Int) != 0) = true := bne_iff_ne.2 (by omega)
    have HC : Hid (∀ w, Calls Tryd.prog 50 #[.string b] w fun e w' => e = .returned (.tuple #[.slice none 0 0, .int .i64 (wrT b : Int)]) ∧ Below w.heap.size w w') := fun w => readNumber_bad b w h hb
    clear e
    generalize wrT b = x at *
    go_enter Tryd.func64, Tryd.ntmps64
    have B0 : Hid (Below w.heap.size w ((w.alloc (.cells #[.string ⟨#[]⟩, .string ⟨#[]⟩] 77)).alloc (.cells #[.string ⟨#[]⟩, .string ⟨#[]⟩] 77))) := ((Below.refl _ w).alloc (Nat.le_refl _) _).alloc (by simp [go_sem]) _
    have I0 : Hid (IHolds ((w.alloc (.cells #[.string ⟨#[]⟩, .string ⟨#[]⟩] 77)).alloc (.cells #[.string ⟨#[]⟩, .string ⟨#[]⟩] 77)) w.heap.size 77 [.string ⟨#[]⟩, .string ⟨#[]⟩]) := (IHolds.new w 77 [.string ⟨#[]⟩, .string ⟨#[]⟩]).of_below ((Below.refl _ _).alloc (Nat.le_refl _) _)
    have J0 : Hid (IHolds ((w.alloc (.cells #[.string ⟨#[]⟩, .string ⟨#[]⟩] 77)).alloc (.cells #[.string ⟨#[]⟩, .string ⟨#[]⟩] 77)) (w.heap.size + 1) 77 [.string ⟨#[]⟩, .string ⟨#[]⟩]) := by
      have := IHolds.new (w.alloc (.cells #[.string ⟨#[]⟩, .string ⟨#[]⟩] 77)) 77 [.string ⟨#[]⟩, .string ⟨#[]⟩]
      rw [show (w.alloc (.cells #[.string ⟨#[]⟩, .string ⟨#[]⟩] 77)).heap.size = w.heap.size + 1 from by simp [go_sem]] at this
      exact this
    go_wp2_with fail
    try simp only [World.size_alloc]
    generalize (w.alloc (.cells #[.string ⟨#[]⟩, .string ⟨#[]⟩] 77)).alloc (.cells #[.string ⟨#[]⟩, .string ⟨#[]⟩] 77) = W0 at *
    refine (readNumber_ok a W0 h0).mono ?_
    rintro e W1 ⟨⟨v1, rfl, h1⟩, b1⟩
    have B1 : Hid (Below w.heap.size w W1) := B0.out.trans (b1.mono B0.out.size)
    have I1 : Hid (IHolds W1 w.heap.size 77 [.string ⟨#[]⟩, .string ⟨#[]⟩]) := I0.out.of_below b1
    have J1 : Hid (IHolds W1 (w.heap.size + 1) 77 [.string ⟨#[]⟩, .string ⟨#[]⟩]) := J0.out.of_below b1
    clear b1 B0 I0 J0
    clear h1
    go_wp2_with fail
    refine (HC.out W1).mono ?_
    rintro e W2 ⟨rfl, b2⟩
    have B2 : Hid (Below w.heap.size w W2) := B1.out.trans (b2.mono B1.out.size)
    have I2 : Hid (IHolds W2 w.heap.size 77 [.string ⟨#[]⟩, .string ⟨#[]⟩]) := I1.out.of_below b2
    have J2 : Hid (IHolds W2 (w.heap.size + 1) 77 [.string ⟨#[]⟩, .string ⟨#[]⟩]) := J1.out.of_below b2
    clear b2 B1 I1 J1
    have I := I2.out
    have J := J2.out
    have c0 : W2.cell? ⟨w.heap.size, 0, none⟩ = some (.string ⟨#[]⟩) := I.cell 0 (by simp)
    have c1 : W2.cell? ⟨w.heap.size, 1, none⟩ = some (.string ⟨#[]⟩) := I.cell 1 (by simp)
    have f0 : ∀ i, W2.frozen? ⟨w.heap.size, i, none⟩ = false := fun i => I.frozen i
    have j0 : W2.cell? ⟨w.heap.size + 1, 0, none⟩ = some (.string ⟨#[]⟩) := J.cell 0 (by simp)
    have j1 : W2.cell? ⟨w.heap.size + 1, 1, none⟩ = some (.string ⟨#[]⟩) := J.cell 1 (by simp)
    have HB4 : Hid (Below w.heap.size w ((W2.setCell ⟨w.heap.size, 0, none⟩ (.string ⟨#[]⟩)).setCell ⟨w.heap.size, 1, none⟩ (.string ⟨#[]⟩))) := (B2.out.setCell (Nat.le_refl _) _).setCell (Nat.le_refl _) _
    have I4 := (I.set 0 (.string ⟨#[]⟩)).set 1 (.string ⟨#[]⟩)
    have D0 : Hid (((W2.setCell ⟨w.heap.size, 0, none⟩ (.string ⟨#[]⟩)).setCell ⟨w.heap.size, 1, none⟩ (.string ⟨#[]⟩)).cell? ⟨w.heap.size, 0, none⟩ = some (.string ⟨#[]⟩)) := I4.cell 0 (by simp)
    have D1 : Hid (((W2.setCell ⟨w.heap.size, 0, none⟩ (.string ⟨#[]⟩)).setCell ⟨w.heap.size, 1, none⟩ (.string ⟨#[]⟩)).cell? ⟨w.heap.size, 1, none⟩ = some (.string ⟨#[]⟩)) := I4.cell 1 (by simp)
    clear I J I4
    go_wp2_with fail
    clear c0 c1 f0 j0 j1
    generalize ((W2.setCell ⟨w.heap.size, 0, none⟩ (.string ⟨#[]⟩)).setCell ⟨w.heap.size, 1, none⟩ (.string ⟨#[]⟩)) = W5 at *
    exact bodyPost_ret (v := .tuple #[.agg #[.string ⟨#[]⟩, .string ⟨#[]⟩], .int .i64 x]) (by simp [results, Tryd.results64, go_sem, D0.out, D1.out]) rfl ⟨rfl, HB4.out⟩
  · have e : wr2 a b = wrT a := by simp [wr2, h0]
    rw [e]
    have hx : ((wrT a : Int) != 0) = true := bne_iff_ne.2 (by omega)
    have HC : Hid (∀ w, Calls Tryd.prog 50 #[.string a] w fun e w' => e = .returned (.tuple #[.slice none 0 0, .int .i64 (wrT a : Int)]) ∧ Below w.heap.size w w') := fun w => readNumber_bad a w h0 ha
    clear e h
    generalize wrT a = x at *
    go_enter Tryd.func64, Tryd.ntmps64
    have B0 : Hid (Below w.heap.size w ((w.alloc (.cells #[.string ⟨#[]⟩, .string ⟨#[]⟩] 77)).alloc (.cells #[.string ⟨#[]⟩, .string ⟨#[]⟩] 77))) := ((Below.refl _ w).alloc (Nat.le_refl _) _).alloc (by simp [go_sem]) _
    have I0 : Hid (IHolds ((w.alloc (.cells #[.string ⟨#[]⟩, .string ⟨#[]⟩] 77)).alloc (.cells #[.string ⟨#[]⟩, .string ⟨#[]⟩] 77)) w.heap.size 77 [.string ⟨#[]⟩, .string ⟨#[]⟩]) := (IHolds.new w 77 [.string ⟨#[]⟩, .string ⟨#[]⟩]).of_below ((Below.refl _ _).alloc (Nat.le_refl _) _)
    have J0 : Hid (IHolds ((w.alloc (.cells #[.string ⟨#[]⟩, .string ⟨#[]⟩] 77)).alloc (.cells #[.string ⟨#[]⟩, .string ⟨#[]⟩] 77)) (w.heap.size + 1) 77 [.string ⟨#[]⟩, .string ⟨#[]⟩]) := by
      have := IHolds.new (w.alloc (.cells #[.string ⟨#[]⟩, .string ⟨#[]⟩] 77)) 77 [.string ⟨#[]⟩, .string ⟨#[]⟩]
      rw [show (w.alloc (.cells #[.string ⟨#[]⟩, .string ⟨#[]⟩] 77)).heap.size = w.heap.size + 1 from by simp [go_sem]] at this
      exact this
    go_wp2_with fail
    try simp only [World.size_alloc]
    generalize (w.alloc (.cells #[.string ⟨#[]⟩, .string ⟨#[]⟩] 77)).alloc (.cells #[.string ⟨#[]⟩, .string ⟨#[]⟩] 77) = W0 at *
    refine (HC.out W0).mono ?_
    rintro e W1 ⟨rfl, b1⟩
    have B1 : Hid (Below w.heap.size w W1) := B0.out.trans (b1.mono B0.out.size)
    have I1 : Hid (IHolds W1 w.heap.size 77 [.string ⟨#[]⟩, .string ⟨#[]⟩]) := I0.out.of_below b1
    have J1 : Hid (IHolds W1 (w.heap.size + 1) 77 [.string ⟨#[]⟩, .string ⟨#[]⟩]) := J0.out.of_below b1
    clear b1 B0 I0 J0
    have I := I1.out
    have J := J1.out
    have c0 : W1.cell? ⟨w.heap.size, 0, none⟩ = some (.string ⟨#[]⟩) := I.cell 0 (by simp)
    have c1 : W1.cell? ⟨w.heap.size, 1, none⟩ = some (.string ⟨#[]⟩) := I.cell 1 (by simp)
    have f0 : ∀ i, W1.frozen? ⟨w.heap.size, i, none⟩ = false := fun i => I.frozen i
    have j0 : W1.cell? ⟨w.heap.size + 1, 0, none⟩ = some (.string ⟨#[]⟩) := J.cell 0 (by simp)
    have j1 : W1.cell? ⟨w.heap.size + 1, 1, none⟩ = some (.string ⟨#[]⟩) := J.cell 1 (by simp)
    have HB4 : Hid (Below w.heap.size w ((W1.setCell ⟨w.heap.size, 0, none⟩ (.string ⟨#[]⟩)).setCell ⟨w.heap.size, 1, none⟩ (.string ⟨#[]⟩))) := (B1.out.setCell (Nat.le_refl _) _).setCell (Nat.le_refl _) _
    have I4 := (I.set 0 (.string ⟨#[]⟩)).set 1 (.string ⟨#[]⟩)
    have D0 : Hid (((W1.setCell ⟨w.heap.size, 0, none⟩ (.string ⟨#[]⟩)).setCell ⟨w.heap.size, 1, none⟩ (.string ⟨#[]⟩)).cell? ⟨w.heap.size, 0, none⟩ = some (.string ⟨#[]⟩)) := I4.cell 0 (by simp)
    have D1 : Hid (((W1.setCell ⟨w.heap.size, 0, none⟩ (.string ⟨#[]⟩)).setCell ⟨w.heap.size, 1, none⟩ (.string ⟨#[]⟩)).cell? ⟨w.heap.size, 1, none⟩ = some (.string ⟨#[]⟩)) := I4.cell 1 (by simp)
    clear I J I4
    go_wp2_with fail
    clear c0 c1 f0 j0 j1
    generalize ((W1.setCell ⟨w.heap.size, 0, none⟩ (.string ⟨#[]⟩)).setCell ⟨w.heap.size, 1, none⟩ (.string ⟨#[]⟩)) = W5 at *
    exact bodyPost_ret (v := .tuple #[.agg #[.string ⟨#[]⟩, .string ⟨#[]⟩], .int .i64 x]) (by simp [results, Tryd.results64, go_sem, D0.out, D1.out]) rfl ⟨rfl, HB4.out⟩

set_option maxRecDepth 100000 in
set_option maxHeartbeats 1000000 in
theorem div_call {a b : ByteArray} {w : World} {S1 S2 : ByteArray} {c : Int}
    (h : Calls Tryd.prog 64 #[.func (.func 50) #[] #[], .string a, .string b, .func (.func 65) #[] #[]] w fun e w' => e = .returned (.tuple #[.agg #[.string S1, .string S2], .int .i64 c]) ∧ Below w.heap.size w w') :
    Calls Tryd.prog 23 #[.string a, .string b] w fun e w' => e = .returned (.tuple #[.string S1, .string S2, .int .i64 c]) ∧ Below w.heap.size w w' := by
  go_enter Tryd.func23, Tryd.ntmps23
  go_wp2_with fail
  refine h.mono ?_
  rintro e w1 ⟨rfl, hb⟩
  have B1 : Hid (Below w.heap.size w w1) := hb
  clear hb h
  go_wp2_with fail
  have B2 : Hid (Below w.heap.size w (w1.alloc (.cells #[.string S1, .string S2] 77))) := B1.out.alloc B1.out.size _
  have I := IHolds.new w1 77 [.string S1, .string S2]
  have c0 : (w1.alloc (.cells #[.string S1, .string S2] 77)).cell? ⟨w1.heap.size, 0, none⟩ = some (.string S1) := I.cell 0 (by simp)
  have c1 : (w1.alloc (.cells #[.string S1, .string S2] 77)).cell? ⟨w1.heap.size, 1, none⟩ = some (.string S2) := I.cell 1 (by simp)
  clear I B1
  generalize w1.alloc (.cells #[.string S1, .string S2] 77) = W2 at *
  go_quiet (fail)
  go_wp2_with fail
  go_ret3
  exact ⟨rfl, ⟨B2.out.os, B2.out.tape, B2.out.output, B2.out.size, B2.out.block⟩⟩

theorem div_ok (a b : ByteArray) (w : World) (ha : wrT a = 0) (hb : wrT b = 0) (h0 : bv b.data.toList ≠ 0) :
    Calls Tryd.prog 23 #[.string a, .string b] w fun e w' => e = .returned (.tuple #[.string ⟨(txt (bv a.data.toList / bv b.data.toList)).toArray⟩, .string ⟨(txt (bv a.data.toList % bv b.data.toList)).toArray⟩, .int .i64 0]) ∧ Below w.heap.size w w' :=
  div_call (withTwo64_ok a b w ha hb _ _ 0 (divF_any _ _ h0 (dg_len_bv a ha) (dg_len_bv b hb)))
theorem div_zero (a b : ByteArray) (w : World) (ha : wrT a = 0) (hb : wrT b = 0) (h0 : bv b.data.toList = 0) :
    Calls Tryd.prog 23 #[.string a, .string b] w fun e w' => e = .returned (.tuple #[.string ⟨#[]⟩, .string ⟨#[]⟩, .int .i64 5]) ∧ Below w.heap.size w w' :=
  div_call (withTwo64_ok a b w ha hb _ _ 5 (fun W v1 v2 _ h2 => divF_zero W v1 v2 (by rw [h0] at h2; exact h2)))
theorem div_bad (a b : ByteArray) (w : World) (h : wr2 a b ≠ 0) (ha : a.size ≤ 4611686018427387904) (hb : b.size ≤ 4611686018427387904) :
    Calls Tryd.prog 23 #[.string a, .string b] w fun e w' => e = .returned (.tuple #[.string ⟨#[]⟩, .string ⟨#[]⟩, .int .i64 (wr2 a b : Int)]) ∧ Below w.heap.size w w' :=
  div_call (withTwo64_bad a b w h ha hb)
end Go.Proofs.YtnahindcgedbaaaDoor
