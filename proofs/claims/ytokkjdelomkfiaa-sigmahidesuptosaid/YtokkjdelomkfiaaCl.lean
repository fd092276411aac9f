/- The law SigmaOnce where the claims are made: what comes back. -/
import Derived.Test.YtokkjdelomkfiaaCk
set_option linter.unusedSimpArgs false
set_option linter.unusedVariables false
set_option maxRecDepth 100000
namespace Go.Proofs.Ytokkjdelomkfiaa
open Go.RowKit Go.Deep Go.PlainAid

theorem StO.store {w W : World} {ca cb : ByteArray} {va vb : Value} (h : StO w W ca cb va vb) {q : Nat} (hq : w.heap.size + 1 < q) (i : Nat) (u : Value) : StO w (W.setCell ⟨q, i, none⟩ u) ca cb va vb :=
  ⟨h.bel.setCell (by show w.heap.size ≤ q; omega) _, h.ia.store (by omega) _ _, h.ib.store (by omega) _ _⟩
theorem slice_store {w : World} {b b' x : Nat} {s t : ByteArray} {a : Option Addr} {n c : Nat} (hc : w.cell? ⟨b', x, none⟩ = some (.slice a n c)) (hI : IHolds w b 9 [.string s, .string t]) (i : Nat) (u : Value) : (w.setCell ⟨b, i, none⟩ u).cell? ⟨b', x, none⟩ = some (.slice a n c) := by
  by_cases hb : b' = b
  · exfalso
    subst hb
    unfold IHolds at hI
    simp only [World.cell?, hI] at hc
    have hm : Value.slice a n c ∈ [Value.string s, .string t] := List.mem_of_getElem? (i := x) (by simpa using hc)
    simp at hm
  · rw [World.cell?_of_block (a := ⟨b', x, none⟩) (Below.heap_setCell w ⟨b, i, none⟩ u b' hb)]
    exact hc
theorem again_store {w : World} {b b' : Nat} {s t u : ByteArray} (hc : w.cell? ⟨b', 1, none⟩ = some (.string u)) (hI : IHolds w b 9 [.string s, .string t]) : (w.setCell ⟨b, 1, none⟩ (.string u)).cell? ⟨b', 1, none⟩ = some (.string u) := by
  by_cases hb : b' = b
  · subst hb
    exact (hI.set 1 (.string u)).cell 1 (by simp)
  · rw [World.cell?_of_block (a := ⟨b', 1, none⟩) (Below.heap_setCell w ⟨b, 1, none⟩ (.string u) b' hb)]
    exact hc
set_option maxHeartbeats 4000000 in
theorem once_six {w : World} {z : Int} {ot x y ca cb zr on : ByteArray} {aa ab : Option Addr} {pa pb : Nat} {f g : ByteArray → ByteArray} {bs : ByteArray} (CL : ∀ W, Calls Try.prog 11 #[] W fun e w' => e = .returned (.bool true) ∧ Below W.heap.size W w') (C19 : ∀ W, Calls Try.prog 19 #[.int .i64 z, .int .i64 0] W fun e w' => e = .returned (.tuple #[.string zr, .int .i64 0]) ∧ Below W.heap.size W w') (C20 : ∀ W, Calls Try.prog 20 #[.int .i64 z, .string ot, .string zr] W fun e w' => e = .returned (.tuple #[.string on, .int .i64 0]) ∧ Below W.heap.size W w') (h1 : (ot.toList == on.toList) = false) (h2 : (x.toList == y.toList) = false) (CX : ∀ W b, IHolds W b 9 [.string x] → Calls Try.prog 12 #[.int .i64 z, .string ot, .slice (some ⟨b, 0, none⟩) 1 1] W fun e w' => (∃ r p q c, e = .returned (.slice (some ⟨r, 0, none⟩) 1 c) ∧ One w' r p q bs ot (f x) (g x) ∧ W.heap.size ≤ q) ∧ Below W.heap.size W w') (CY : ∀ W b, IHolds W b 9 [.string y] → Calls Try.prog 12 #[.int .i64 z, .string ot, .slice (some ⟨b, 0, none⟩) 1 1] W fun e w' => (∃ r p q c, e = .returned (.slice (some ⟨r, 0, none⟩) 1 c) ∧ One w' r p q bs ot (f y) (g y) ∧ W.heap.size ≤ q) ∧ Below W.heap.size W w') (CA : ∀ W a' c', Below w.heap.size w W → CM W a' [([bs, ot], [f x, g y])] → Calls Try.prog 16 #[.int .i64 z, .slice a' 1 c', .string ca, .slice aa 1 pa] W fun e w' => e = .returned (.tuple #[.slice none 0 0, .int .i64 6]) ∧ Below W.heap.size W w') (CB : ∀ W a' c', Below w.heap.size w W → CM W a' [([bs, ot], [f x, g y])] → Calls Try.prog 16 #[.int .i64 z, .slice a' 1 c', .string cb, .slice ab 1 pb] W fun e w' => (∃ r k, e = .returned (.tuple #[r, .int .i64 k])) ∧ Below W.heap.size W w') :
    Calls Try.prog 5 #[.int .i64 z, .string ot, .string x, .string y, .agg #[.string ca, .slice aa 1 pa], .agg #[.string cb, .slice ab 1 pb]] w fun e w' => e = .returned (.bool true) ∧ Below w.heap.size w w' := by
  have HL : Hid _ := CL
  have H19 : Hid _ := C19
  have H20 : Hid _ := C20
  clear CL C19 C20
  generalize hW : (w.alloc (.cells #[.string ca, .slice aa 1 pa] 24)).alloc (.cells #[.string cb, .slice ab 1 pb] 24) = U
  have T0 : Hid (StO w U ca cb (.slice aa 1 pa) (.slice ab 1 pb)) := StO.begin w ca cb _ _ hW
  have HX : Hid _ := CX
  have HY : Hid _ := CY
  have hnil := fun (a : Option Addr) (l c : Nat) (w : World) => eql_nil36 a l c w
  clear CX CY
  have HA : Hid _ := CA
  have HB : Hid _ := CB
  clear CA CB
  go_enter Try.func5, Try.ntmps5
  go_wp2_with (first | (go_at_call 11; refine (HL.out _).mono ?_; rintro e w1 ⟨rfl, hB1⟩; have T1 : Hid _ := T0.out.of_below hB1; clear hB1 T0) | (go_at_call 19; refine (H19.out _).mono ?_; rintro e w2 ⟨rfl, hB2⟩; have T2 : Hid _ := T1.out.of_below hB2; clear hB2 T1) | (go_at_call 20; refine (H20.out _).mono ?_; rintro e w3 ⟨rfl, hB3⟩; have T3 : Hid _ := T2.out.of_below hB3; clear hB3 T2) | (go_at_call 12; have zz := T3.out; clear zz; have I9 : Hid (IHolds (w3.alloc (.cells #[.string x] 9)) w3.heap.size 9 [.string x]) := IHolds.new w3 9 [.string x]; have T3' : Hid _ := T3.out.of_below (nB w3 (.cells #[.string x] 9)); refine (HX.out _ _ I9.out).mono ?_; rintro e w4 ⟨⟨rc, pc, qc, cc, rfl, hone, hqc⟩, hB4⟩; have T4 : Hid _ := T3'.out.of_below hB4; have O4 : Hid _ := hone; have Q4 : Hid (w.heap.size + 1 < qc) := Nat.lt_of_lt_of_le T3'.out.ib.lt hqc; clear hB4 T3' T3 I9 hone hqc) | (go_at_call 12; have zz := T4.out; clear zz; have I9 : Hid (IHolds (w4.alloc (.cells #[.string y] 9)) w4.heap.size 9 [.string y]) := IHolds.new w4 9 [.string y]; have T4' : Hid _ := T4.out.of_below (nB w4 (.cells #[.string y] 9)); refine (HY.out _ _ I9.out).mono ?_; rintro e w5 ⟨⟨rd, pd, qd, cd, rfl, hone, hqd⟩, hB5⟩; have T5 : Hid _ := T4'.out.of_below hB5; have P5 : Hid _ := hone; have O5 : Hid _ := (O4.out.of_below (nB w4 (.cells #[.string y] 9))).of_below hB5; clear O4; obtain ⟨q0, q1, q2, q3⟩ := T5.out.cells; clear hB5 T4' T4 I9 hone hqd))
  have D5 : Hid (One w5.drew rc pc qc bs ot (f x) (g x)) := O5.out.of_below (dB w5)
  have T5' : Hid _ := T5.out.of_below (dB w5)
  have e1 : Hid (w5.drew.cell? ⟨rc, 1, none⟩ = some (.slice (some ⟨qc, 0, none⟩) 2 2)) := D5.out.c1
  have e2 : Hid (w5.drew.cell? ⟨rd, 1, none⟩ = some (.slice (some ⟨qd, 0, none⟩) 2 2)) := (P5.out.of_below (dB w5)).c1
  have e3 : Hid (w5.drew.cell? ⟨qd, 1, none⟩ = some (.string (g y))) := (P5.out.of_below (dB w5)).hq.cell 1 (by simp)
  clear q0 q1 q2 q3 T5 O5 P5 hW HL H19 H20 HX HY
  refine wp_region_held_drew (S := fun W => W.cell? ⟨rc, 1, none⟩ = some (.slice (some ⟨qc, 0, none⟩) 2 2) ∧ W.cell? ⟨rd, 1, none⟩ = some (.slice (some ⟨qd, 0, none⟩) 2 2) ∧ W.cell? ⟨qd, 1, none⟩ = some (.string (g y))) (by kernel_rfl) ⟨e1.out, e2.out, e3.out⟩ (fun hHeld => ?_)
  generalize w5.drew = w6 at *
  refine tk (i := 0) (v := .slice (some ⟨rc, 0, none⟩) 1 cc) rfl (by kernel_rfl) (fun _ _ _ h => h) rfl ?_ hHeld ?_
  · intro W hS; go_simp
  simp only [Act.put, y1, y2, y3, y4, y5, y6, y7]
  refine tk (i := 1) (v := .pointer (some ⟨rc, 0, none⟩)) rfl (by kernel_rfl) (fun _ _ _ h => h) rfl ?_ hHeld ?_
  · intro W hS; go_simp
  simp only [Act.put, y1, y2, y3, y4, y5, y6, y7]
  refine tk (i := 2) (v := .pointer (some ⟨rc, 1, none⟩)) rfl (by kernel_rfl) (fun _ _ _ h => h) rfl ?_ hHeld ?_
  · intro W hS; go_simp
  simp only [Act.put, y1, y2, y3, y4, y5, y6, y7]
  refine tk (i := 3) (v := .slice (some ⟨qc, 0, none⟩) 2 2) rfl (by kernel_rfl) (fun _ _ _ h => h) rfl ?_ hHeld ?_
  · intro W hS; have x5 := hS.1; clear hS; go_simp
  simp only [Act.put, y1, y2, y3, y4, y5, y6, y7]
  refine tk (i := 4) (v := .slice (some ⟨rd, 0, none⟩) 1 cd) rfl (by kernel_rfl) (fun _ _ _ h => h) rfl ?_ hHeld ?_
  · intro W hS; go_simp
  simp only [Act.put, y1, y2, y3, y4, y5, y6, y7]
  refine tk (i := 5) (v := .pointer (some ⟨rd, 0, none⟩)) rfl (by kernel_rfl) (fun _ _ _ h => h) rfl ?_ hHeld ?_
  · intro W hS; go_simp
  simp only [Act.put, y1, y2, y3, y4, y5, y6, y7]
  refine tk (i := 6) (v := .pointer (some ⟨rd, 1, none⟩)) rfl (by kernel_rfl) (fun _ _ _ h => h) rfl ?_ hHeld ?_
  · intro W hS; go_simp
  simp only [Act.put, y1, y2, y3, y4, y5, y6, y7]
  refine tk (i := 7) (v := .slice (some ⟨qd, 0, none⟩) 2 2) rfl (by kernel_rfl) (fun _ _ _ h => h) rfl ?_ hHeld ?_
  · intro W hS; have x5 := hS.2.1; clear hS; go_simp
  simp only [Act.put, y1, y2, y3, y4, y5, y6, y7]
  refine tk (i := 8) (v := .pointer (some ⟨qd, 1, none⟩)) rfl (by kernel_rfl) (fun _ _ _ h => h) rfl ?_ hHeld ?_
  · intro W hS; go_simp
  simp only [Act.put, y1, y2, y3, y4, y5, y6, y7]
  refine tk (i := 9) (v := .string (g y)) rfl (by kernel_rfl) (fun _ _ _ h => h) rfl ?_ hHeld ?_
  · intro W hS; have x5 := hS.2.2; clear hS; go_simp
  simp only [Act.put, y1, y2, y3, y4, y5, y6, y7]
  refine tk (i := 10) (v := .pointer (some ⟨qc, 1, none⟩)) rfl (by kernel_rfl) (fun _ _ _ h => h) rfl ?_ hHeld ?_
  · intro W hS; go_simp
  simp only [Act.put, y1, y2, y3, y4, y5, y6, y7]
  refine wpAnyH_ready (rs := [11]) (by kernel_rfl) (by simp) ?_
  refine AllReadyH.cons rfl (fun K hK => ?_) AllReadyH.nil
  have f5 : w6.frozen? ⟨qc, 1, none⟩ = false := D5.out.hq.frozen 1
  have g5 : w6.cell? ⟨qc, 1, none⟩ = some (.string (g x)) := D5.out.hq.cell 1 (by simp)
  have O6 : Hid (One (w6.setCell ⟨qc, 1, none⟩ (.string (g y))) rc pc qc bs ot (f x) (g y)) := D5.out.store (g y)
  have T6 : Hid _ := T5'.out.store Q4.out 1 (.string (g y))
  have s1 : Hid _ := slice_store e1.out D5.out.hq 1 (.string (g y))
  have s2 : Hid _ := slice_store e2.out D5.out.hq 1 (.string (g y))
  have s3 : Hid _ := again_store e3.out D5.out.hq
  clear hHeld D5 e1 e2 e3 T5'
  go_simp
  try go_wp2_with fail
  refine hK.out _ _ ⟨s1.out, s2.out, s3.out⟩ (fun hHeld3 => ?_)
  clear hK K f5 g5 s1 s2 s3
  try simp only [Act.put, y1, y2, y3, y4, y5, y6, y7]
  refine wpAnyH_done (by kernel_rfl) ?_ _
  clear hHeld3
  generalize w6.setCell ⟨qc, 1, none⟩ (.string (g y)) = w7 at *
  obtain ⟨q0, q1, q2, q3⟩ := T6.out.cells
  go_wp2_with (first | (go_at_call 16; have zz := T6.out; clear zz; refine (HA.out _ _ _ T6.out.bel O6.out.cm).mono ?_; rintro e w8 ⟨rfl, hB8⟩; have T8 : Hid _ := T6.out.of_below hB8; have O8 : Hid _ := O6.out.of_below hB8; obtain ⟨p0, p1, p2, p3⟩ := T8.out.cells; clear hB8 T6 O6) | (go_at_call 16; have zz := T8.out; clear zz; refine (HB.out _ _ _ T8.out.bel O8.out.cm).mono ?_; rintro e w9 ⟨⟨r9, k9, rfl⟩, hB9⟩; have T9 : Hid _ := T8.out.of_below hB9; obtain ⟨u0, u1, u2, u3⟩ := T9.out.cells; clear hB9 T8 O8))
  go_ret
  exact ⟨rfl, T9.out.bel⟩
set_option maxHeartbeats 4000000 in
theorem once_six2 {w : World} {z : Int} {ot x y ca cb zr on : ByteArray} {aa ab : Option Addr} {pa pb : Nat} {f g : ByteArray → ByteArray} {bs : ByteArray} {l0 l1 : ByteArray} (CL : ∀ W, Calls Try.prog 11 #[] W fun e w' => e = .returned (.bool true) ∧ Below W.heap.size W w') (C19 : ∀ W, Calls Try.prog 19 #[.int .i64 z, .int .i64 0] W fun e w' => e = .returned (.tuple #[.string zr, .int .i64 0]) ∧ Below W.heap.size W w') (C20 : ∀ W, Calls Try.prog 20 #[.int .i64 z, .string ot, .string zr] W fun e w' => e = .returned (.tuple #[.string on, .int .i64 0]) ∧ Below W.heap.size W w') (h1 : (ot.toList == on.toList) = false) (h2 : (x.toList == y.toList) = false) (CX : ∀ W b, IHolds W b 9 [.string x] → Calls Try.prog 12 #[.int .i64 z, .string ot, .slice (some ⟨b, 0, none⟩) 1 1] W fun e w' => (∃ r p q c, e = .returned (.slice (some ⟨r, 0, none⟩) 1 c) ∧ One w' r p q bs ot (f x) (g x) ∧ W.heap.size ≤ q) ∧ Below W.heap.size W w') (CY : ∀ W b, IHolds W b 9 [.string y] → Calls Try.prog 12 #[.int .i64 z, .string ot, .slice (some ⟨b, 0, none⟩) 1 1] W fun e w' => (∃ r p q c, e = .returned (.slice (some ⟨r, 0, none⟩) 1 c) ∧ One w' r p q bs ot (f y) (g y) ∧ W.heap.size ≤ q) ∧ Below W.heap.size W w') (CA : ∀ W a' c', Below w.heap.size w W → CM W a' [([bs, ot], [f x, g y])] → Calls Try.prog 16 #[.int .i64 z, .slice a' 1 c', .string ca, .slice aa 1 pa] W fun e w' => (∃ a' c', e = .returned (.tuple #[.slice a' 1 c', .int .i64 0]) ∧ SLL w' a' [[l0, l1]]) ∧ Below W.heap.size W w') (CB : ∀ W a' c', Below w.heap.size w W → CM W a' [([bs, ot], [f x, g y])] → Calls Try.prog 16 #[.int .i64 z, .slice a' 1 c', .string cb, .slice ab 1 pb] W fun e w' => e = .returned (.tuple #[.slice none 0 0, .int .i64 6]) ∧ Below W.heap.size W w') :
    Calls Try.prog 5 #[.int .i64 z, .string ot, .string x, .string y, .agg #[.string ca, .slice aa 1 pa], .agg #[.string cb, .slice ab 1 pb]] w fun e w' => e = .returned (.bool true) ∧ Below w.heap.size w w' := by
  have HL : Hid _ := CL
  have H19 : Hid _ := C19
  have H20 : Hid _ := C20
  clear CL C19 C20
  generalize hW : (w.alloc (.cells #[.string ca, .slice aa 1 pa] 24)).alloc (.cells #[.string cb, .slice ab 1 pb] 24) = U
  have T0 : Hid (StO w U ca cb (.slice aa 1 pa) (.slice ab 1 pb)) := StO.begin w ca cb _ _ hW
  have HX : Hid _ := CX
  have HY : Hid _ := CY
  have hnil := fun (a : Option Addr) (l c : Nat) (w : World) => eql_nil36 a l c w
  clear CX CY
  have HA : Hid _ := CA
  have HB : Hid _ := CB
  clear CA CB
  go_enter Try.func5, Try.ntmps5
  go_wp2_with (first | (go_at_call 11; refine (HL.out _).mono ?_; rintro e w1 ⟨rfl, hB1⟩; have T1 : Hid _ := T0.out.of_below hB1; clear hB1 T0) | (go_at_call 19; refine (H19.out _).mono ?_; rintro e w2 ⟨rfl, hB2⟩; have T2 : Hid _ := T1.out.of_below hB2; clear hB2 T1) | (go_at_call 20; refine (H20.out _).mono ?_; rintro e w3 ⟨rfl, hB3⟩; have T3 : Hid _ := T2.out.of_below hB3; clear hB3 T2) | (go_at_call 12; have zz := T3.out; clear zz; have I9 : Hid (IHolds (w3.alloc (.cells #[.string x] 9)) w3.heap.size 9 [.string x]) := IHolds.new w3 9 [.string x]; have T3' : Hid _ := T3.out.of_below (nB w3 (.cells #[.string x] 9)); refine (HX.out _ _ I9.out).mono ?_; rintro e w4 ⟨⟨rc, pc, qc, cc, rfl, hone, hqc⟩, hB4⟩; have T4 : Hid _ := T3'.out.of_below hB4; have O4 : Hid _ := hone; have Q4 : Hid (w.heap.size + 1 < qc) := Nat.lt_of_lt_of_le T3'.out.ib.lt hqc; clear hB4 T3' T3 I9 hone hqc) | (go_at_call 12; have zz := T4.out; clear zz; have I9 : Hid (IHolds (w4.alloc (.cells #[.string y] 9)) w4.heap.size 9 [.string y]) := IHolds.new w4 9 [.string y]; have T4' : Hid _ := T4.out.of_below (nB w4 (.cells #[.string y] 9)); refine (HY.out _ _ I9.out).mono ?_; rintro e w5 ⟨⟨rd, pd, qd, cd, rfl, hone, hqd⟩, hB5⟩; have T5 : Hid _ := T4'.out.of_below hB5; have P5 : Hid _ := hone; have O5 : Hid _ := (O4.out.of_below (nB w4 (.cells #[.string y] 9))).of_below hB5; clear O4; obtain ⟨q0, q1, q2, q3⟩ := T5.out.cells; clear hB5 T4' T4 I9 hone hqd))
  have D5 : Hid (One w5.drew rc pc qc bs ot (f x) (g x)) := O5.out.of_below (dB w5)
  have T5' : Hid _ := T5.out.of_below (dB w5)
  have e1 : Hid (w5.drew.cell? ⟨rc, 1, none⟩ = some (.slice (some ⟨qc, 0, none⟩) 2 2)) := D5.out.c1
  have e2 : Hid (w5.drew.cell? ⟨rd, 1, none⟩ = some (.slice (some ⟨qd, 0, none⟩) 2 2)) := (P5.out.of_below (dB w5)).c1
  have e3 : Hid (w5.drew.cell? ⟨qd, 1, none⟩ = some (.string (g y))) := (P5.out.of_below (dB w5)).hq.cell 1 (by simp)
  clear q0 q1 q2 q3 T5 O5 P5 hW HL H19 H20 HX HY
  refine wp_region_held_drew (S := fun W => W.cell? ⟨rc, 1, none⟩ = some (.slice (some ⟨qc, 0, none⟩) 2 2) ∧ W.cell? ⟨rd, 1, none⟩ = some (.slice (some ⟨qd, 0, none⟩) 2 2) ∧ W.cell? ⟨qd, 1, none⟩ = some (.string (g y))) (by kernel_rfl) ⟨e1.out, e2.out, e3.out⟩ (fun hHeld => ?_)
  generalize w5.drew = w6 at *
  refine tk (i := 0) (v := .slice (some ⟨rc, 0, none⟩) 1 cc) rfl (by kernel_rfl) (fun _ _ _ h => h) rfl ?_ hHeld ?_
  · intro W hS; go_simp
  simp only [Act.put, y1, y2, y3, y4, y5, y6, y7]
  refine tk (i := 1) (v := .pointer (some ⟨rc, 0, none⟩)) rfl (by kernel_rfl) (fun _ _ _ h => h) rfl ?_ hHeld ?_
  · intro W hS; go_simp
  simp only [Act.put, y1, y2, y3, y4, y5, y6, y7]
  refine tk (i := 2) (v := .pointer (some ⟨rc, 1, none⟩)) rfl (by kernel_rfl) (fun _ _ _ h => h) rfl ?_ hHeld ?_
  · intro W hS; go_simp
  simp only [Act.put, y1, y2, y3, y4, y5, y6, y7]
  refine tk (i := 3) (v := .slice (some ⟨qc, 0, none⟩) 2 2) rfl (by kernel_rfl) (fun _ _ _ h => h) rfl ?_ hHeld ?_
  · intro W hS; have x5 := hS.1; clear hS; go_simp
  simp only [Act.put, y1, y2, y3, y4, y5, y6, y7]
  refine tk (i := 4) (v := .slice (some ⟨rd, 0, none⟩) 1 cd) rfl (by kernel_rfl) (fun _ _ _ h => h) rfl ?_ hHeld ?_
  · intro W hS; go_simp
  simp only [Act.put, y1, y2, y3, y4, y5, y6, y7]
  refine tk (i := 5) (v := .pointer (some ⟨rd, 0, none⟩)) rfl (by kernel_rfl) (fun _ _ _ h => h) rfl ?_ hHeld ?_
  · intro W hS; go_simp
  simp only [Act.put, y1, y2, y3, y4, y5, y6, y7]
  refine tk (i := 6) (v := .pointer (some ⟨rd, 1, none⟩)) rfl (by kernel_rfl) (fun _ _ _ h => h) rfl ?_ hHeld ?_
  · intro W hS; go_simp
  simp only [Act.put, y1, y2, y3, y4, y5, y6, y7]
  refine tk (i := 7) (v := .slice (some ⟨qd, 0, none⟩) 2 2) rfl (by kernel_rfl) (fun _ _ _ h => h) rfl ?_ hHeld ?_
  · intro W hS; have x5 := hS.2.1; clear hS; go_simp
  simp only [Act.put, y1, y2, y3, y4, y5, y6, y7]
  refine tk (i := 8) (v := .pointer (some ⟨qd, 1, none⟩)) rfl (by kernel_rfl) (fun _ _ _ h => h) rfl ?_ hHeld ?_
  · intro W hS; go_simp
  simp only [Act.put, y1, y2, y3, y4, y5, y6, y7]
  refine tk (i := 9) (v := .string (g y)) rfl (by kernel_rfl) (fun _ _ _ h => h) rfl ?_ hHeld ?_
  · intro W hS; have x5 := hS.2.2; clear hS; go_simp
  simp only [Act.put, y1, y2, y3, y4, y5, y6, y7]
  refine tk (i := 10) (v := .pointer (some ⟨qc, 1, none⟩)) rfl (by kernel_rfl) (fun _ _ _ h => h) rfl ?_ hHeld ?_
  · intro W hS; go_simp
  simp only [Act.put, y1, y2, y3, y4, y5, y6, y7]
  refine wpAnyH_ready (rs := [11]) (by kernel_rfl) (by simp) ?_
  refine AllReadyH.cons rfl (fun K hK => ?_) AllReadyH.nil
  have f5 : w6.frozen? ⟨qc, 1, none⟩ = false := D5.out.hq.frozen 1
  have g5 : w6.cell? ⟨qc, 1, none⟩ = some (.string (g x)) := D5.out.hq.cell 1 (by simp)
  have O6 : Hid (One (w6.setCell ⟨qc, 1, none⟩ (.string (g y))) rc pc qc bs ot (f x) (g y)) := D5.out.store (g y)
  have T6 : Hid _ := T5'.out.store Q4.out 1 (.string (g y))
  have s1 : Hid _ := slice_store e1.out D5.out.hq 1 (.string (g y))
  have s2 : Hid _ := slice_store e2.out D5.out.hq 1 (.string (g y))
  have s3 : Hid _ := again_store e3.out D5.out.hq
  clear hHeld D5 e1 e2 e3 T5'
  go_simp
  try go_wp2_with fail
  refine hK.out _ _ ⟨s1.out, s2.out, s3.out⟩ (fun hHeld3 => ?_)
  clear hK K f5 g5 s1 s2 s3
  try simp only [Act.put, y1, y2, y3, y4, y5, y6, y7]
  refine wpAnyH_done (by kernel_rfl) ?_ _
  clear hHeld3
  generalize w6.setCell ⟨qc, 1, none⟩ (.string (g y)) = w7 at *
  obtain ⟨q0, q1, q2, q3⟩ := T6.out.cells
  go_wp2_with (first | (go_at_call 16; have zz := T6.out; clear zz; refine (HA.out _ _ _ T6.out.bel O6.out.cm).mono ?_; rintro e w8 ⟨⟨a8, c8, rfl, hs8⟩, hB8⟩; have S8 : Hid (SLL w8 a8 [[l0, l1]]) := hs8; clear hs8; have T8 : Hid _ := T6.out.of_below hB8; have O8 : Hid _ := O6.out.of_below hB8; obtain ⟨p0, p1, p2, p3⟩ := T8.out.cells; clear hB8 T6 O6) | (go_at_call 16; have zz := T8.out; clear zz; refine (HB.out _ _ _ T8.out.bel O8.out.cm).mono ?_; rintro e w9 ⟨rfl, hB9⟩; have R8 : Hid (SLL w9 a8 [[l0, l1]]) := S8.out.of_below hB9; clear S8; have T9 : Hid _ := T8.out.of_below hB9; obtain ⟨u0, u1, u2, u3⟩ := T9.out.cells; clear hB9 T8 O8))
  go_ret
  exact ⟨rfl, T9.out.bel⟩
set_option maxHeartbeats 4000000 in
theorem once_same {w : World} {z : Int} {ot x y ca cb zr on : ByteArray} {aa ab : Option Addr} {pa pb : Nat} {f g : ByteArray → ByteArray} {bs : ByteArray} {l0 l1 m0 m1 : ByteArray} (CL : ∀ W, Calls Try.prog 11 #[] W fun e w' => e = .returned (.bool true) ∧ Below W.heap.size W w') (C19 : ∀ W, Calls Try.prog 19 #[.int .i64 z, .int .i64 0] W fun e w' => e = .returned (.tuple #[.string zr, .int .i64 0]) ∧ Below W.heap.size W w') (C20 : ∀ W, Calls Try.prog 20 #[.int .i64 z, .string ot, .string zr] W fun e w' => e = .returned (.tuple #[.string on, .int .i64 0]) ∧ Below W.heap.size W w') (h1 : (ot.toList == on.toList) = false) (h2 : (x.toList == y.toList) = false) (CX : ∀ W b, IHolds W b 9 [.string x] → Calls Try.prog 12 #[.int .i64 z, .string ot, .slice (some ⟨b, 0, none⟩) 1 1] W fun e w' => (∃ r p q c, e = .returned (.slice (some ⟨r, 0, none⟩) 1 c) ∧ One w' r p q bs ot (f x) (g x) ∧ W.heap.size ≤ q) ∧ Below W.heap.size W w') (CY : ∀ W b, IHolds W b 9 [.string y] → Calls Try.prog 12 #[.int .i64 z, .string ot, .slice (some ⟨b, 0, none⟩) 1 1] W fun e w' => (∃ r p q c, e = .returned (.slice (some ⟨r, 0, none⟩) 1 c) ∧ One w' r p q bs ot (f y) (g y) ∧ W.heap.size ≤ q) ∧ Below W.heap.size W w') (CA : ∀ W a' c', Below w.heap.size w W → CM W a' [([bs, ot], [f x, g y])] → Calls Try.prog 16 #[.int .i64 z, .slice a' 1 c', .string ca, .slice aa 1 pa] W fun e w' => (∃ a' c', e = .returned (.tuple #[.slice a' 1 c', .int .i64 0]) ∧ SLL w' a' [[l0, l1]]) ∧ Below W.heap.size W w') (CB : ∀ W a' c', Below w.heap.size w W → CM W a' [([bs, ot], [f x, g y])] → Calls Try.prog 16 #[.int .i64 z, .slice a' 1 c', .string cb, .slice ab 1 pb] W fun e w' => (∃ a' c', e = .returned (.tuple #[.slice a' 1 c', .int .i64 0]) ∧ SLL w' a' [[m0, m1]]) ∧ Below W.heap.size W w') (hc : (ca.toList == cb.toList) = true) :
    Calls Try.prog 5 #[.int .i64 z, .string ot, .string x, .string y, .agg #[.string ca, .slice aa 1 pa], .agg #[.string cb, .slice ab 1 pb]] w fun e w' => e = .returned (.bool true) ∧ Below w.heap.size w w' := by
  have HL : Hid _ := CL
  have H19 : Hid _ := C19
  have H20 : Hid _ := C20
  clear CL C19 C20
  generalize hW : (w.alloc (.cells #[.string ca, .slice aa 1 pa] 24)).alloc (.cells #[.string cb, .slice ab 1 pb] 24) = U
  have T0 : Hid (StO w U ca cb (.slice aa 1 pa) (.slice ab 1 pb)) := StO.begin w ca cb _ _ hW
  have HX : Hid _ := CX
  have HY : Hid _ := CY
  have hnil := fun (a : Option Addr) (l c : Nat) (w : World) => eql_nil36 a l c w
  clear CX CY
  have HA : Hid _ := CA
  have HB : Hid _ := CB
  clear CA CB
  go_enter Try.func5, Try.ntmps5
  go_wp2_with (first | (go_at_call 11; refine (HL.out _).mono ?_; rintro e w1 ⟨rfl, hB1⟩; have T1 : Hid _ := T0.out.of_below hB1; clear hB1 T0) | (go_at_call 19; refine (H19.out _).mono ?_; rintro e w2 ⟨rfl, hB2⟩; have T2 : Hid _ := T1.out.of_below hB2; clear hB2 T1) | (go_at_call 20; refine (H20.out _).mono ?_; rintro e w3 ⟨rfl, hB3⟩; have T3 : Hid _ := T2.out.of_below hB3; clear hB3 T2) | (go_at_call 12; have zz := T3.out; clear zz; have I9 : Hid (IHolds (w3.alloc (.cells #[.string x] 9)) w3.heap.size 9 [.string x]) := IHolds.new w3 9 [.string x]; have T3' : Hid _ := T3.out.of_below (nB w3 (.cells #[.string x] 9)); refine (HX.out _ _ I9.out).mono ?_; rintro e w4 ⟨⟨rc, pc, qc, cc, rfl, hone, hqc⟩, hB4⟩; have T4 : Hid _ := T3'.out.of_below hB4; have O4 : Hid _ := hone; have Q4 : Hid (w.heap.size + 1 < qc) := Nat.lt_of_lt_of_le T3'.out.ib.lt hqc; clear hB4 T3' T3 I9 hone hqc) | (go_at_call 12; have zz := T4.out; clear zz; have I9 : Hid (IHolds (w4.alloc (.cells #[.string y] 9)) w4.heap.size 9 [.string y]) := IHolds.new w4 9 [.string y]; have T4' : Hid _ := T4.out.of_below (nB w4 (.cells #[.string y] 9)); refine (HY.out _ _ I9.out).mono ?_; rintro e w5 ⟨⟨rd, pd, qd, cd, rfl, hone, hqd⟩, hB5⟩; have T5 : Hid _ := T4'.out.of_below hB5; have P5 : Hid _ := hone; have O5 : Hid _ := (O4.out.of_below (nB w4 (.cells #[.string y] 9))).of_below hB5; clear O4; obtain ⟨q0, q1, q2, q3⟩ := T5.out.cells; clear hB5 T4' T4 I9 hone hqd))
  have D5 : Hid (One w5.drew rc pc qc bs ot (f x) (g x)) := O5.out.of_below (dB w5)
  have T5' : Hid _ := T5.out.of_below (dB w5)
  have e1 : Hid (w5.drew.cell? ⟨rc, 1, none⟩ = some (.slice (some ⟨qc, 0, none⟩) 2 2)) := D5.out.c1
  have e2 : Hid (w5.drew.cell? ⟨rd, 1, none⟩ = some (.slice (some ⟨qd, 0, none⟩) 2 2)) := (P5.out.of_below (dB w5)).c1
  have e3 : Hid (w5.drew.cell? ⟨qd, 1, none⟩ = some (.string (g y))) := (P5.out.of_below (dB w5)).hq.cell 1 (by simp)
  clear q0 q1 q2 q3 T5 O5 P5 hW HL H19 H20 HX HY
  refine wp_region_held_drew (S := fun W => W.cell? ⟨rc, 1, none⟩ = some (.slice (some ⟨qc, 0, none⟩) 2 2) ∧ W.cell? ⟨rd, 1, none⟩ = some (.slice (some ⟨qd, 0, none⟩) 2 2) ∧ W.cell? ⟨qd, 1, none⟩ = some (.string (g y))) (by kernel_rfl) ⟨e1.out, e2.out, e3.out⟩ (fun hHeld => ?_)
  generalize w5.drew = w6 at *
  refine tk (i := 0) (v := .slice (some ⟨rc, 0, none⟩) 1 cc) rfl (by kernel_rfl) (fun _ _ _ h => h) rfl ?_ hHeld ?_
  · intro W hS; go_simp
  simp only [Act.put, y1, y2, y3, y4, y5, y6, y7]
  refine tk (i := 1) (v := .pointer (some ⟨rc, 0, none⟩)) rfl (by kernel_rfl) (fun _ _ _ h => h) rfl ?_ hHeld ?_
  · intro W hS; go_simp
  simp only [Act.put, y1, y2, y3, y4, y5, y6, y7]
  refine tk (i := 2) (v := .pointer (some ⟨rc, 1, none⟩)) rfl (by kernel_rfl) (fun _ _ _ h => h) rfl ?_ hHeld ?_
  · intro W hS; go_simp
  simp only [Act.put, y1, y2, y3, y4, y5, y6, y7]
  refine tk (i := 3) (v := .slice (some ⟨qc, 0, none⟩) 2 2) rfl (by kernel_rfl) (fun _ _ _ h => h) rfl ?_ hHeld ?_
  · intro W hS; have x5 := hS.1; clear hS; go_simp
  simp only [Act.put, y1, y2, y3, y4, y5, y6, y7]
  refine tk (i := 4) (v := .slice (some ⟨rd, 0, none⟩) 1 cd) rfl (by kernel_rfl) (fun _ _ _ h => h) rfl ?_ hHeld ?_
  · intro W hS; go_simp
  simp only [Act.put, y1, y2, y3, y4, y5, y6, y7]
  refine tk (i := 5) (v := .pointer (some ⟨rd, 0, none⟩)) rfl (by kernel_rfl) (fun _ _ _ h => h) rfl ?_ hHeld ?_
  · intro W hS; go_simp
  simp only [Act.put, y1, y2, y3, y4, y5, y6, y7]
  refine tk (i := 6) (v := .pointer (some ⟨rd, 1, none⟩)) rfl (by kernel_rfl) (fun _ _ _ h => h) rfl ?_ hHeld ?_
  · intro W hS; go_simp
  simp only [Act.put, y1, y2, y3, y4, y5, y6, y7]
  refine tk (i := 7) (v := .slice (some ⟨qd, 0, none⟩) 2 2) rfl (by kernel_rfl) (fun _ _ _ h => h) rfl ?_ hHeld ?_
  · intro W hS; have x5 := hS.2.1; clear hS; go_simp
  simp only [Act.put, y1, y2, y3, y4, y5, y6, y7]
  refine tk (i := 8) (v := .pointer (some ⟨qd, 1, none⟩)) rfl (by kernel_rfl) (fun _ _ _ h => h) rfl ?_ hHeld ?_
  · intro W hS; go_simp
  simp only [Act.put, y1, y2, y3, y4, y5, y6, y7]
  refine tk (i := 9) (v := .string (g y)) rfl (by kernel_rfl) (fun _ _ _ h => h) rfl ?_ hHeld ?_
  · intro W hS; have x5 := hS.2.2; clear hS; go_simp
  simp only [Act.put, y1, y2, y3, y4, y5, y6, y7]
  refine tk (i := 10) (v := .pointer (some ⟨qc, 1, none⟩)) rfl (by kernel_rfl) (fun _ _ _ h => h) rfl ?_ hHeld ?_
  · intro W hS; go_simp
  simp only [Act.put, y1, y2, y3, y4, y5, y6, y7]
  refine wpAnyH_ready (rs := [11]) (by kernel_rfl) (by simp) ?_
  refine AllReadyH.cons rfl (fun K hK => ?_) AllReadyH.nil
  have f5 : w6.frozen? ⟨qc, 1, none⟩ = false := D5.out.hq.frozen 1
  have g5 : w6.cell? ⟨qc, 1, none⟩ = some (.string (g x)) := D5.out.hq.cell 1 (by simp)
  have O6 : Hid (One (w6.setCell ⟨qc, 1, none⟩ (.string (g y))) rc pc qc bs ot (f x) (g y)) := D5.out.store (g y)
  have T6 : Hid _ := T5'.out.store Q4.out 1 (.string (g y))
  have s1 : Hid _ := slice_store e1.out D5.out.hq 1 (.string (g y))
  have s2 : Hid _ := slice_store e2.out D5.out.hq 1 (.string (g y))
  have s3 : Hid _ := again_store e3.out D5.out.hq
  clear hHeld D5 e1 e2 e3 T5'
  go_simp
  try go_wp2_with fail
  refine hK.out _ _ ⟨s1.out, s2.out, s3.out⟩ (fun hHeld3 => ?_)
  clear hK K f5 g5 s1 s2 s3
  try simp only [Act.put, y1, y2, y3, y4, y5, y6, y7]
  refine wpAnyH_done (by kernel_rfl) ?_ _
  clear hHeld3
  generalize w6.setCell ⟨qc, 1, none⟩ (.string (g y)) = w7 at *
  obtain ⟨q0, q1, q2, q3⟩ := T6.out.cells
  go_wp2_with (first | (go_at_call 16; have zz := T6.out; clear zz; refine (HA.out _ _ _ T6.out.bel O6.out.cm).mono ?_; rintro e w8 ⟨⟨a8, c8, rfl, hs8⟩, hB8⟩; have S8 : Hid (SLL w8 a8 [[l0, l1]]) := hs8; clear hs8; have T8 : Hid _ := T6.out.of_below hB8; have O8 : Hid _ := O6.out.of_below hB8; obtain ⟨p0, p1, p2, p3⟩ := T8.out.cells; clear hB8 T6 O6) | (go_at_call 16; have zz := T8.out; clear zz; refine (HB.out _ _ _ T8.out.bel O8.out.cm).mono ?_; rintro e w9 ⟨⟨a9, c9, rfl, hs9⟩, hB9⟩; have R9 : Hid (SLL w9 a9 [[m0, m1]]) := hs9; clear hs9; have R8 : Hid (SLL w9 a8 [[l0, l1]]) := S8.out.of_below hB9; clear S8; have T9 : Hid _ := T8.out.of_below hB9; obtain ⟨u0, u1, u2, u3⟩ := T9.out.cells; clear hB9 T8 O8; obtain ⟨bx, ox, ax, cx, rfl, hcx, _⟩ := R8.out 0 (by simp); rw [Nat.add_zero] at hcx))
  go_ret
  exact ⟨rfl, T9.out.bel⟩
set_option maxHeartbeats 4000000 in
theorem once_ne {w : World} {z : Int} {ot x y ca cb zr on : ByteArray} {aa ab : Option Addr} {pa pb : Nat} {f g : ByteArray → ByteArray} {bs : ByteArray} {l0 l1 m0 m1 : ByteArray} (CL : ∀ W, Calls Try.prog 11 #[] W fun e w' => e = .returned (.bool true) ∧ Below W.heap.size W w') (C19 : ∀ W, Calls Try.prog 19 #[.int .i64 z, .int .i64 0] W fun e w' => e = .returned (.tuple #[.string zr, .int .i64 0]) ∧ Below W.heap.size W w') (C20 : ∀ W, Calls Try.prog 20 #[.int .i64 z, .string ot, .string zr] W fun e w' => e = .returned (.tuple #[.string on, .int .i64 0]) ∧ Below W.heap.size W w') (h1 : (ot.toList == on.toList) = false) (h2 : (x.toList == y.toList) = false) (CX : ∀ W b, IHolds W b 9 [.string x] → Calls Try.prog 12 #[.int .i64 z, .string ot, .slice (some ⟨b, 0, none⟩) 1 1] W fun e w' => (∃ r p q c, e = .returned (.slice (some ⟨r, 0, none⟩) 1 c) ∧ One w' r p q bs ot (f x) (g x) ∧ W.heap.size ≤ q) ∧ Below W.heap.size W w') (CY : ∀ W b, IHolds W b 9 [.string y] → Calls Try.prog 12 #[.int .i64 z, .string ot, .slice (some ⟨b, 0, none⟩) 1 1] W fun e w' => (∃ r p q c, e = .returned (.slice (some ⟨r, 0, none⟩) 1 c) ∧ One w' r p q bs ot (f y) (g y) ∧ W.heap.size ≤ q) ∧ Below W.heap.size W w') (CA : ∀ W a' c', Below w.heap.size w W → CM W a' [([bs, ot], [f x, g y])] → Calls Try.prog 16 #[.int .i64 z, .slice a' 1 c', .string ca, .slice aa 1 pa] W fun e w' => (∃ a' c', e = .returned (.tuple #[.slice a' 1 c', .int .i64 0]) ∧ SLL w' a' [[l0, l1]]) ∧ Below W.heap.size W w') (CB : ∀ W a' c', Below w.heap.size w W → CM W a' [([bs, ot], [f x, g y])] → Calls Try.prog 16 #[.int .i64 z, .slice a' 1 c', .string cb, .slice ab 1 pb] W fun e w' => (∃ a' c', e = .returned (.tuple #[.slice a' 1 c', .int .i64 0]) ∧ SLL w' a' [[m0, m1]]) ∧ Below W.heap.size W w') (hc : (ca.toList == cb.toList) = false) (hl : decide ([[l0, l1]] = [[m0, m1]]) = false) :
    Calls Try.prog 5 #[.int .i64 z, .string ot, .string x, .string y, .agg #[.string ca, .slice aa 1 pa], .agg #[.string cb, .slice ab 1 pb]] w fun e w' => e = .returned (.bool true) ∧ Below w.heap.size w w' := by
  have HL : Hid _ := CL
  have H19 : Hid _ := C19
  have H20 : Hid _ := C20
  clear CL C19 C20
  generalize hW : (w.alloc (.cells #[.string ca, .slice aa 1 pa] 24)).alloc (.cells #[.string cb, .slice ab 1 pb] 24) = U
  have T0 : Hid (StO w U ca cb (.slice aa 1 pa) (.slice ab 1 pb)) := StO.begin w ca cb _ _ hW
  have HX : Hid _ := CX
  have HY : Hid _ := CY
  have hnil := fun (a : Option Addr) (l c : Nat) (w : World) => eql_nil36 a l c w
  clear CX CY
  have HA : Hid _ := CA
  have HB : Hid _ := CB
  clear CA CB
  have H18 : Hid (∀ (W : World) (a b : Option Addr) (c d : Nat), SLL W a [[l0, l1]] → SLL W b [[m0, m1]] → Calls Try.prog 18 #[.slice a 1 c, .slice b 1 d] W fun e w' => e = .returned (.bool false) ∧ Below W.heap.size W w') := fun W a b c d h1 h2 => by
    have q := sameLists18 (w := W) (a := a) (b := b) (c := c) (d := d) (l := [[l0, l1]]) (m := [[m0, m1]]) (by simp) (fun i hi => by match i, hi with | 0, _ => simp) rfl h1 h2
    rw [hl] at q
    exact q
  clear hl
  go_enter Try.func5, Try.ntmps5
  go_wp2_with (first | (go_at_call 11; refine (HL.out _).mono ?_; rintro e w1 ⟨rfl, hB1⟩; have T1 : Hid _ := T0.out.of_below hB1; clear hB1 T0) | (go_at_call 19; refine (H19.out _).mono ?_; rintro e w2 ⟨rfl, hB2⟩; have T2 : Hid _ := T1.out.of_below hB2; clear hB2 T1) | (go_at_call 20; refine (H20.out _).mono ?_; rintro e w3 ⟨rfl, hB3⟩; have T3 : Hid _ := T2.out.of_below hB3; clear hB3 T2) | (go_at_call 12; have zz := T3.out; clear zz; have I9 : Hid (IHolds (w3.alloc (.cells #[.string x] 9)) w3.heap.size 9 [.string x]) := IHolds.new w3 9 [.string x]; have T3' : Hid _ := T3.out.of_below (nB w3 (.cells #[.string x] 9)); refine (HX.out _ _ I9.out).mono ?_; rintro e w4 ⟨⟨rc, pc, qc, cc, rfl, hone, hqc⟩, hB4⟩; have T4 : Hid _ := T3'.out.of_below hB4; have O4 : Hid _ := hone; have Q4 : Hid (w.heap.size + 1 < qc) := Nat.lt_of_lt_of_le T3'.out.ib.lt hqc; clear hB4 T3' T3 I9 hone hqc) | (go_at_call 12; have zz := T4.out; clear zz; have I9 : Hid (IHolds (w4.alloc (.cells #[.string y] 9)) w4.heap.size 9 [.string y]) := IHolds.new w4 9 [.string y]; have T4' : Hid _ := T4.out.of_below (nB w4 (.cells #[.string y] 9)); refine (HY.out _ _ I9.out).mono ?_; rintro e w5 ⟨⟨rd, pd, qd, cd, rfl, hone, hqd⟩, hB5⟩; have T5 : Hid _ := T4'.out.of_below hB5; have P5 : Hid _ := hone; have O5 : Hid _ := (O4.out.of_below (nB w4 (.cells #[.string y] 9))).of_below hB5; clear O4; obtain ⟨q0, q1, q2, q3⟩ := T5.out.cells; clear hB5 T4' T4 I9 hone hqd))
  have D5 : Hid (One w5.drew rc pc qc bs ot (f x) (g x)) := O5.out.of_below (dB w5)
  have T5' : Hid _ := T5.out.of_below (dB w5)
  have e1 : Hid (w5.drew.cell? ⟨rc, 1, none⟩ = some (.slice (some ⟨qc, 0, none⟩) 2 2)) := D5.out.c1
  have e2 : Hid (w5.drew.cell? ⟨rd, 1, none⟩ = some (.slice (some ⟨qd, 0, none⟩) 2 2)) := (P5.out.of_below (dB w5)).c1
  have e3 : Hid (w5.drew.cell? ⟨qd, 1, none⟩ = some (.string (g y))) := (P5.out.of_below (dB w5)).hq.cell 1 (by simp)
  clear q0 q1 q2 q3 T5 O5 P5 hW HL H19 H20 HX HY
  refine wp_region_held_drew (S := fun W => W.cell? ⟨rc, 1, none⟩ = some (.slice (some ⟨qc, 0, none⟩) 2 2) ∧ W.cell? ⟨rd, 1, none⟩ = some (.slice (some ⟨qd, 0, none⟩) 2 2) ∧ W.cell? ⟨qd, 1, none⟩ = some (.string (g y))) (by kernel_rfl) ⟨e1.out, e2.out, e3.out⟩ (fun hHeld => ?_)
  generalize w5.drew = w6 at *
  refine tk (i := 0) (v := .slice (some ⟨rc, 0, none⟩) 1 cc) rfl (by kernel_rfl) (fun _ _ _ h => h) rfl ?_ hHeld ?_
  · intro W hS; go_simp
  simp only [Act.put, y1, y2, y3, y4, y5, y6, y7]
  refine tk (i := 1) (v := .pointer (some ⟨rc, 0, none⟩)) rfl (by kernel_rfl) (fun _ _ _ h => h) rfl ?_ hHeld ?_
  · intro W hS; go_simp
  simp only [Act.put, y1, y2, y3, y4, y5, y6, y7]
  refine tk (i := 2) (v := .pointer (some ⟨rc, 1, none⟩)) rfl (by kernel_rfl) (fun _ _ _ h => h) rfl ?_ hHeld ?_
  · intro W hS; go_simp
  simp only [Act.put, y1, y2, y3, y4, y5, y6, y7]
  refine tk (i := 3) (v := .slice (some ⟨qc, 0, none⟩) 2 2) rfl (by kernel_rfl) (fun _ _ _ h => h) rfl ?_ hHeld ?_
  · intro W hS; have x5 := hS.1; clear hS; go_simp
  simp only [Act.put, y1, y2, y3, y4, y5, y6, y7]
  refine tk (i := 4) (v := .slice (some ⟨rd, 0, none⟩) 1 cd) rfl (by kernel_rfl) (fun _ _ _ h => h) rfl ?_ hHeld ?_
  · intro W hS; go_simp
  simp only [Act.put, y1, y2, y3, y4, y5, y6, y7]
  refine tk (i := 5) (v := .pointer (some ⟨rd, 0, none⟩)) rfl (by kernel_rfl) (fun _ _ _ h => h) rfl ?_ hHeld ?_
  · intro W hS; go_simp
  simp only [Act.put, y1, y2, y3, y4, y5, y6, y7]
  refine tk (i := 6) (v := .pointer (some ⟨rd, 1, none⟩)) rfl (by kernel_rfl) (fun _ _ _ h => h) rfl ?_ hHeld ?_
  · intro W hS; go_simp
  simp only [Act.put, y1, y2, y3, y4, y5, y6, y7]
  refine tk (i := 7) (v := .slice (some ⟨qd, 0, none⟩) 2 2) rfl (by kernel_rfl) (fun _ _ _ h => h) rfl ?_ hHeld ?_
  · intro W hS; have x5 := hS.2.1; clear hS; go_simp
  simp only [Act.put, y1, y2, y3, y4, y5, y6, y7]
  refine tk (i := 8) (v := .pointer (some ⟨qd, 1, none⟩)) rfl (by kernel_rfl) (fun _ _ _ h => h) rfl ?_ hHeld ?_
  · intro W hS; go_simp
  simp only [Act.put, y1, y2, y3, y4, y5, y6, y7]
  refine tk (i := 9) (v := .string (g y)) rfl (by kernel_rfl) (fun _ _ _ h => h) rfl ?_ hHeld ?_
  · intro W hS; have x5 := hS.2.2; clear hS; go_simp
  simp only [Act.put, y1, y2, y3, y4, y5, y6, y7]
  refine tk (i := 10) (v := .pointer (some ⟨qc, 1, none⟩)) rfl (by kernel_rfl) (fun _ _ _ h => h) rfl ?_ hHeld ?_
  · intro W hS; go_simp
  simp only [Act.put, y1, y2, y3, y4, y5, y6, y7]
  refine wpAnyH_ready (rs := [11]) (by kernel_rfl) (by simp) ?_
  refine AllReadyH.cons rfl (fun K hK => ?_) AllReadyH.nil
  have f5 : w6.frozen? ⟨qc, 1, none⟩ = false := D5.out.hq.frozen 1
  have g5 : w6.cell? ⟨qc, 1, none⟩ = some (.string (g x)) := D5.out.hq.cell 1 (by simp)
  have O6 : Hid (One (w6.setCell ⟨qc, 1, none⟩ (.string (g y))) rc pc qc bs ot (f x) (g y)) := D5.out.store (g y)
  have T6 : Hid _ := T5'.out.store Q4.out 1 (.string (g y))
  have s1 : Hid _ := slice_store e1.out D5.out.hq 1 (.string (g y))
  have s2 : Hid _ := slice_store e2.out D5.out.hq 1 (.string (g y))
  have s3 : Hid _ := again_store e3.out D5.out.hq
  clear hHeld D5 e1 e2 e3 T5'
  go_simp
  try go_wp2_with fail
  refine hK.out _ _ ⟨s1.out, s2.out, s3.out⟩ (fun hHeld3 => ?_)
  clear hK K f5 g5 s1 s2 s3
  try simp only [Act.put, y1, y2, y3, y4, y5, y6, y7]
  refine wpAnyH_done (by kernel_rfl) ?_ _
  clear hHeld3
  generalize w6.setCell ⟨qc, 1, none⟩ (.string (g y)) = w7 at *
  obtain ⟨q0, q1, q2, q3⟩ := T6.out.cells
  go_wp2_with (first | (go_at_call 16; have zz := T6.out; clear zz; refine (HA.out _ _ _ T6.out.bel O6.out.cm).mono ?_; rintro e w8 ⟨⟨a8, c8, rfl, hs8⟩, hB8⟩; have S8 : Hid (SLL w8 a8 [[l0, l1]]) := hs8; clear hs8; have T8 : Hid _ := T6.out.of_below hB8; have O8 : Hid _ := O6.out.of_below hB8; obtain ⟨p0, p1, p2, p3⟩ := T8.out.cells; clear hB8 T6 O6) | (go_at_call 16; have zz := T8.out; clear zz; refine (HB.out _ _ _ T8.out.bel O8.out.cm).mono ?_; rintro e w9 ⟨⟨a9, c9, rfl, hs9⟩, hB9⟩; have R9 : Hid (SLL w9 a9 [[m0, m1]]) := hs9; clear hs9; have R8 : Hid (SLL w9 a8 [[l0, l1]]) := S8.out.of_below hB9; clear S8; have T9 : Hid _ := T8.out.of_below hB9; obtain ⟨u0, u1, u2, u3⟩ := T9.out.cells; clear hB9 T8 O8; obtain ⟨bx, ox, ax, cx, rfl, hcx, _⟩ := R8.out 0 (by simp); rw [Nat.add_zero] at hcx) | (go_at_call 18; refine (H18.out _ _ _ _ _ R8.out R9.out).mono ?_; rintro e wz ⟨rfl, hBz⟩; have TZ : Hid _ := T9.out.of_below hBz; clear hBz T9))
  go_ret
  exact ⟨rfl, TZ.out.bel⟩
end Go.Proofs.Ytokkjdelomkfiaa
