/- The law SigmaOnce, walked with what it calls. -/
import Derived.Test.YtokkjdelomkfiaaCj
set_option linter.unusedSimpArgs false
set_option linter.unusedVariables false
set_option maxRecDepth 100000
namespace Go.Proofs.Ytokkjdelomkfiaa
open Go.RowKit Go.Deep Go.PlainAid

theorem alive11 {w : World} (h : ∀ W, Calls Try.prog 13 #[.int .i64 1, .string ⟨#[0, 5]⟩] W fun e w' => e = .returned (.bool true) ∧ Below W.heap.size W w') : Calls Try.prog 11 #[] w fun e w' => e = .returned (.bool true) ∧ Below w.heap.size w w' := by
  go_enter Try.func11, Try.ntmps11
  go_wp2_with (go_at_call 13; refine (h _).mono ?_; rintro e w1 ⟨rfl, hB1⟩)
  go_ret
  exact ⟨rfl, hB1⟩
theorem alive_any (w : World) : Calls Try.prog 11 #[] w fun e w' => e = .returned (.bool true) ∧ Below w.heap.size w w' :=
  alive11 (fun V => SCA kd1 (s := ⟨#[0, 5]⟩) (t := true) (by decide +kernel) V)
theorem eql_nil36 (a : Option Addr) (l c : Nat) (w : World) : (binOp .eql 36 (.slice a l c) (.slice none 0 0)).run Try.prog w = .ok (.bool a.isNone) w := by
  have h := Go.run_equal_slice_nil w 36 48 a l c Try.underlying36
  simp [binOp, h]
/-- The two proofs that came in, and that nothing else has turned. -/
structure StO (w W : World) (ca cb : ByteArray) (va vb : Value) : Prop where
  bel : Below w.heap.size w W
  ia : IHolds W w.heap.size 24 [.string ca, va]
  ib : IHolds W (w.heap.size + 1) 24 [.string cb, vb]
theorem StO.of_below {w W W' : World} {ca cb : ByteArray} {va vb : Value} (h : StO w W ca cb va vb) (hb : Below W.heap.size W W') : StO w W' ca cb va vb :=
  ⟨h.bel.trans (hb.mono h.bel.size), h.ia.of_below hb, h.ib.of_below hb⟩
theorem StO.begin (w : World) (ca cb : ByteArray) (va vb : Value) {W : World} (hW : (w.alloc (.cells #[.string ca, va] 24)).alloc (.cells #[.string cb, vb] 24) = W) : StO w W ca cb va vb := by
  subst hW
  exact ⟨((Below.refl _ w).alloc (Nat.le_refl _) _).alloc (by simp) _, (IHolds.new w 24 [_, _]).alloc _, IHolds.new' _ 24 [_, _] (by simp)⟩
theorem StO.cells {w W : World} {ca cb : ByteArray} {va vb : Value} (h : StO w W ca cb va vb) : W.cell? ⟨w.heap.size, 0, none⟩ = some (.string ca) ∧ W.cell? ⟨w.heap.size, 1, none⟩ = some va ∧ W.cell? ⟨w.heap.size + 1, 0, none⟩ = some (.string cb) ∧ W.cell? ⟨w.heap.size + 1, 1, none⟩ = some vb :=
  ⟨h.ia.cell 0 (by simp), h.ia.cell 1 (by simp), h.ib.cell 0 (by simp), h.ib.cell 1 (by simp)⟩
set_option maxHeartbeats 4000000 in
theorem once_n {w : World} {z : Int} {ot x y ca cb zr on : ByteArray} {aa ab : Option Addr} {na nb pa pb : Nat} (CL : ∀ W, Calls Try.prog 11 #[] W fun e w' => e = .returned (.bool true) ∧ Below W.heap.size W w') (C19 : ∀ W, Calls Try.prog 19 #[.int .i64 z, .int .i64 0] W fun e w' => e = .returned (.tuple #[.string zr, .int .i64 1]) ∧ Below W.heap.size W w') (C20 : ∀ W, Calls Try.prog 20 #[.int .i64 z, .string ot, .string zr] W fun e w' => e = .returned (.tuple #[.string on, .int .i64 1]) ∧ Below W.heap.size W w') :
    Calls Try.prog 5 #[.int .i64 z, .string ot, .string x, .string y, .agg #[.string ca, .slice aa na pa], .agg #[.string cb, .slice ab nb pb]] w fun e w' => e = .returned (.bool true) ∧ Below w.heap.size w w' := by
  have HL : Hid _ := CL
  have H19 : Hid _ := C19
  have H20 : Hid _ := C20
  clear CL C19 C20
  generalize hW : (w.alloc (.cells #[.string ca, .slice aa na pa] 24)).alloc (.cells #[.string cb, .slice ab nb pb] 24) = U
  have T0 : Hid (StO w U ca cb (.slice aa na pa) (.slice ab nb pb)) := StO.begin w ca cb _ _ hW
  go_enter Try.func5, Try.ntmps5
  go_wp2_with (first | (go_at_call 11; refine (HL.out _).mono ?_; rintro e w1 ⟨rfl, hB1⟩; have T1 : Hid _ := T0.out.of_below hB1; clear hB1 T0) | (go_at_call 19; refine (H19.out _).mono ?_; rintro e w2 ⟨rfl, hB2⟩; have T2 : Hid _ := T1.out.of_below hB2; clear hB2 T1) | (go_at_call 20; refine (H20.out _).mono ?_; rintro e w3 ⟨rfl, hB3⟩; have T3 : Hid _ := T2.out.of_below hB3; clear hB3 T2))
  go_ret
  exact ⟨rfl, T3.out.bel⟩
set_option maxHeartbeats 4000000 in
theorem once_p {w : World} {z : Int} {ot x y ca cb zr on : ByteArray} {aa ab : Option Addr} {na nb pa pb : Nat} (CL : ∀ W, Calls Try.prog 11 #[] W fun e w' => e = .returned (.bool true) ∧ Below W.heap.size W w') (C19 : ∀ W, Calls Try.prog 19 #[.int .i64 z, .int .i64 0] W fun e w' => e = .returned (.tuple #[.string zr, .int .i64 0]) ∧ Below W.heap.size W w') (C20 : ∀ W, Calls Try.prog 20 #[.int .i64 z, .string ot, .string zr] W fun e w' => e = .returned (.tuple #[.string on, .int .i64 7]) ∧ Below W.heap.size W w') :
    Calls Try.prog 5 #[.int .i64 z, .string ot, .string x, .string y, .agg #[.string ca, .slice aa na pa], .agg #[.string cb, .slice ab nb pb]] w fun e w' => e = .returned (.bool true) ∧ Below w.heap.size w w' := by
  have HL : Hid _ := CL
  have H19 : Hid _ := C19
  have H20 : Hid _ := C20
  clear CL C19 C20
  generalize hW : (w.alloc (.cells #[.string ca, .slice aa na pa] 24)).alloc (.cells #[.string cb, .slice ab nb pb] 24) = U
  have T0 : Hid (StO w U ca cb (.slice aa na pa) (.slice ab nb pb)) := StO.begin w ca cb _ _ hW
  go_enter Try.func5, Try.ntmps5
  go_wp2_with (first | (go_at_call 11; refine (HL.out _).mono ?_; rintro e w1 ⟨rfl, hB1⟩; have T1 : Hid _ := T0.out.of_below hB1; clear hB1 T0) | (go_at_call 19; refine (H19.out _).mono ?_; rintro e w2 ⟨rfl, hB2⟩; have T2 : Hid _ := T1.out.of_below hB2; clear hB2 T1) | (go_at_call 20; refine (H20.out _).mono ?_; rintro e w3 ⟨rfl, hB3⟩; have T3 : Hid _ := T2.out.of_below hB3; clear hB3 T2))
  go_ret
  exact ⟨rfl, T3.out.bel⟩
set_option maxHeartbeats 4000000 in
theorem once_o {w : World} {z : Int} {ot x y ca cb zr on : ByteArray} {aa ab : Option Addr} {na nb pa pb : Nat} (CL : ∀ W, Calls Try.prog 11 #[] W fun e w' => e = .returned (.bool true) ∧ Below W.heap.size W w') (C19 : ∀ W, Calls Try.prog 19 #[.int .i64 z, .int .i64 0] W fun e w' => e = .returned (.tuple #[.string zr, .int .i64 0]) ∧ Below W.heap.size W w') (C20 : ∀ W, Calls Try.prog 20 #[.int .i64 z, .string ot, .string zr] W fun e w' => e = .returned (.tuple #[.string on, .int .i64 0]) ∧ Below W.heap.size W w') (h1 : ot.toList = on.toList) (hz : 0 < zr.size) (hzo : on.size = zr.size) :
    Calls Try.prog 5 #[.int .i64 z, .string ot, .string x, .string y, .agg #[.string ca, .slice aa na pa], .agg #[.string cb, .slice ab nb pb]] w fun e w' => e = .returned (.bool true) ∧ Below w.heap.size w w' := by
  have HL : Hid _ := CL
  have H19 : Hid _ := C19
  have H20 : Hid _ := C20
  clear CL C19 C20
  generalize hW : (w.alloc (.cells #[.string ca, .slice aa na pa] 24)).alloc (.cells #[.string cb, .slice ab nb pb] 24) = U
  have T0 : Hid (StO w U ca cb (.slice aa na pa) (.slice ab nb pb)) := StO.begin w ca cb _ _ hW
  have g1 : (0 : Int) < (zr.size : Int) := by omega
  have g2 : ((on.size : Int) == (zr.size : Int)) = true := by rw [hzo]; simp
  clear hz hzo
  go_enter Try.func5, Try.ntmps5
  go_wp2_with (first | (go_at_call 11; refine (HL.out _).mono ?_; rintro e w1 ⟨rfl, hB1⟩; have T1 : Hid _ := T0.out.of_below hB1; clear hB1 T0) | (go_at_call 19; refine (H19.out _).mono ?_; rintro e w2 ⟨rfl, hB2⟩; have T2 : Hid _ := T1.out.of_below hB2; clear hB2 T1) | (go_at_call 20; refine (H20.out _).mono ?_; rintro e w3 ⟨rfl, hB3⟩; have T3 : Hid _ := T2.out.of_below hB3; clear hB3 T2))
  go_ret
  exact ⟨rfl, T3.out.bel⟩
set_option maxHeartbeats 4000000 in
theorem once_x {w : World} {z : Int} {ot x y ca cb zr on : ByteArray} {aa ab : Option Addr} {na nb pa pb : Nat} (CL : ∀ W, Calls Try.prog 11 #[] W fun e w' => e = .returned (.bool true) ∧ Below W.heap.size W w') (C19 : ∀ W, Calls Try.prog 19 #[.int .i64 z, .int .i64 0] W fun e w' => e = .returned (.tuple #[.string zr, .int .i64 0]) ∧ Below W.heap.size W w') (C20 : ∀ W, Calls Try.prog 20 #[.int .i64 z, .string ot, .string zr] W fun e w' => e = .returned (.tuple #[.string on, .int .i64 0]) ∧ Below W.heap.size W w') (h1 : ¬ ot.toList = on.toList) (h2 : x.toList = y.toList) (hz : 0 < zr.size) (hzo : on.size = zr.size) :
    Calls Try.prog 5 #[.int .i64 z, .string ot, .string x, .string y, .agg #[.string ca, .slice aa na pa], .agg #[.string cb, .slice ab nb pb]] w fun e w' => e = .returned (.bool true) ∧ Below w.heap.size w w' := by
  have HL : Hid _ := CL
  have H19 : Hid _ := C19
  have H20 : Hid _ := C20
  clear CL C19 C20
  generalize hW : (w.alloc (.cells #[.string ca, .slice aa na pa] 24)).alloc (.cells #[.string cb, .slice ab nb pb] 24) = U
  have T0 : Hid (StO w U ca cb (.slice aa na pa) (.slice ab nb pb)) := StO.begin w ca cb _ _ hW
  have g1 : (0 : Int) < (zr.size : Int) := by omega
  have g2 : ((on.size : Int) == (zr.size : Int)) = true := by rw [hzo]; simp
  clear hz hzo
  go_enter Try.func5, Try.ntmps5
  go_wp2_with (first | (go_at_call 11; refine (HL.out _).mono ?_; rintro e w1 ⟨rfl, hB1⟩; have T1 : Hid _ := T0.out.of_below hB1; clear hB1 T0) | (go_at_call 19; refine (H19.out _).mono ?_; rintro e w2 ⟨rfl, hB2⟩; have T2 : Hid _ := T1.out.of_below hB2; clear hB2 T1) | (go_at_call 20; refine (H20.out _).mono ?_; rintro e w3 ⟨rfl, hB3⟩; have T3 : Hid _ := T2.out.of_below hB3; clear hB3 T2))
  go_ret
  exact ⟨rfl, T3.out.bel⟩
set_option maxHeartbeats 4000000 in
theorem once_mxx {w : World} {z : Int} {ot x y ca cb zr on : ByteArray} {aa ab : Option Addr} {na nb pa pb : Nat} {f g : ByteArray → ByteArray} {bs : ByteArray} (CL : ∀ W, Calls Try.prog 11 #[] W fun e w' => e = .returned (.bool true) ∧ Below W.heap.size W w') (C19 : ∀ W, Calls Try.prog 19 #[.int .i64 z, .int .i64 0] W fun e w' => e = .returned (.tuple #[.string zr, .int .i64 0]) ∧ Below W.heap.size W w') (C20 : ∀ W, Calls Try.prog 20 #[.int .i64 z, .string ot, .string zr] W fun e w' => e = .returned (.tuple #[.string on, .int .i64 0]) ∧ Below W.heap.size W w') (h1 : (ot.toList == on.toList) = false) (h2 : (x.toList == y.toList) = false) (CX : ∀ W b, IHolds W b 9 [.string x] → Calls Try.prog 12 #[.int .i64 z, .string ot, .slice (some ⟨b, 0, none⟩) 1 1] W fun e w' => e = .returned (.slice none 0 0) ∧ Below W.heap.size W w') (CY : ∀ W b, IHolds W b 9 [.string y] → Calls Try.prog 12 #[.int .i64 z, .string ot, .slice (some ⟨b, 0, none⟩) 1 1] W fun e w' => e = .returned (.slice none 0 0) ∧ Below W.heap.size W w')  :
    Calls Try.prog 5 #[.int .i64 z, .string ot, .string x, .string y, .agg #[.string ca, .slice aa na pa], .agg #[.string cb, .slice ab nb pb]] w fun e w' => e = .returned (.bool true) ∧ Below w.heap.size w w' := by
  have HL : Hid _ := CL
  have H19 : Hid _ := C19
  have H20 : Hid _ := C20
  clear CL C19 C20
  generalize hW : (w.alloc (.cells #[.string ca, .slice aa na pa] 24)).alloc (.cells #[.string cb, .slice ab nb pb] 24) = U
  have T0 : Hid (StO w U ca cb (.slice aa na pa) (.slice ab nb pb)) := StO.begin w ca cb _ _ hW
  have HX : Hid _ := CX
  have HY : Hid _ := CY
  have hnil := fun (a : Option Addr) (l c : Nat) (w : World) => eql_nil36 a l c w
  clear CX CY
  go_enter Try.func5, Try.ntmps5
  go_wp2_with (first | (go_at_call 11; refine (HL.out _).mono ?_; rintro e w1 ⟨rfl, hB1⟩; have T1 : Hid _ := T0.out.of_below hB1; clear hB1 T0) | (go_at_call 19; refine (H19.out _).mono ?_; rintro e w2 ⟨rfl, hB2⟩; have T2 : Hid _ := T1.out.of_below hB2; clear hB2 T1) | (go_at_call 20; refine (H20.out _).mono ?_; rintro e w3 ⟨rfl, hB3⟩; have T3 : Hid _ := T2.out.of_below hB3; clear hB3 T2) | (go_at_call 12; have zz := T3.out; clear zz; have I9 : Hid (IHolds (w3.alloc (.cells #[.string x] 9)) w3.heap.size 9 [.string x]) := IHolds.new w3 9 [.string x]; have T3' : Hid _ := T3.out.of_below (nB w3 (.cells #[.string x] 9)); refine (HX.out _ _ I9.out).mono ?_; rintro e w4 ⟨rfl, hB4⟩; have T4 : Hid _ := T3'.out.of_below hB4; clear hB4 T3' T3 I9) | (go_at_call 12; have zz := T4.out; clear zz; have I9 : Hid (IHolds (w4.alloc (.cells #[.string y] 9)) w4.heap.size 9 [.string y]) := IHolds.new w4 9 [.string y]; have T4' : Hid _ := T4.out.of_below (nB w4 (.cells #[.string y] 9)); refine (HY.out _ _ I9.out).mono ?_; rintro e w5 ⟨rfl, hB5⟩; have T5 : Hid _ := T4'.out.of_below hB5; obtain ⟨q0, q1, q2, q3⟩ := T5.out.cells; clear hB5 T4' T4 I9))
  go_ret
  exact ⟨rfl, T5.out.bel⟩
set_option maxHeartbeats 4000000 in
theorem once_mxy {w : World} {z : Int} {ot x y ca cb zr on : ByteArray} {aa ab : Option Addr} {na nb pa pb : Nat} {f g : ByteArray → ByteArray} {bs : ByteArray} (CL : ∀ W, Calls Try.prog 11 #[] W fun e w' => e = .returned (.bool true) ∧ Below W.heap.size W w') (C19 : ∀ W, Calls Try.prog 19 #[.int .i64 z, .int .i64 0] W fun e w' => e = .returned (.tuple #[.string zr, .int .i64 0]) ∧ Below W.heap.size W w') (C20 : ∀ W, Calls Try.prog 20 #[.int .i64 z, .string ot, .string zr] W fun e w' => e = .returned (.tuple #[.string on, .int .i64 0]) ∧ Below W.heap.size W w') (h1 : (ot.toList == on.toList) = false) (h2 : (x.toList == y.toList) = false) (CX : ∀ W b, IHolds W b 9 [.string x] → Calls Try.prog 12 #[.int .i64 z, .string ot, .slice (some ⟨b, 0, none⟩) 1 1] W fun e w' => e = .returned (.slice none 0 0) ∧ Below W.heap.size W w') (CY : ∀ W b, IHolds W b 9 [.string y] → Calls Try.prog 12 #[.int .i64 z, .string ot, .slice (some ⟨b, 0, none⟩) 1 1] W fun e w' => (∃ r p q c, e = .returned (.slice (some ⟨r, 0, none⟩) 1 c) ∧ One w' r p q bs ot (f y) (g y) ∧ W.heap.size ≤ q) ∧ Below W.heap.size W w')  :
    Calls Try.prog 5 #[.int .i64 z, .string ot, .string x, .string y, .agg #[.string ca, .slice aa na pa], .agg #[.string cb, .slice ab nb pb]] w fun e w' => e = .returned (.bool true) ∧ Below w.heap.size w w' := by
  have HL : Hid _ := CL
  have H19 : Hid _ := C19
  have H20 : Hid _ := C20
  clear CL C19 C20
  generalize hW : (w.alloc (.cells #[.string ca, .slice aa na pa] 24)).alloc (.cells #[.string cb, .slice ab nb pb] 24) = U
  have T0 : Hid (StO w U ca cb (.slice aa na pa) (.slice ab nb pb)) := StO.begin w ca cb _ _ hW
  have HX : Hid _ := CX
  have HY : Hid _ := CY
  have hnil := fun (a : Option Addr) (l c : Nat) (w : World) => eql_nil36 a l c w
  clear CX CY
  go_enter Try.func5, Try.ntmps5
  go_wp2_with (first | (go_at_call 11; refine (HL.out _).mono ?_; rintro e w1 ⟨rfl, hB1⟩; have T1 : Hid _ := T0.out.of_below hB1; clear hB1 T0) | (go_at_call 19; refine (H19.out _).mono ?_; rintro e w2 ⟨rfl, hB2⟩; have T2 : Hid _ := T1.out.of_below hB2; clear hB2 T1) | (go_at_call 20; refine (H20.out _).mono ?_; rintro e w3 ⟨rfl, hB3⟩; have T3 : Hid _ := T2.out.of_below hB3; clear hB3 T2) | (go_at_call 12; have zz := T3.out; clear zz; have I9 : Hid (IHolds (w3.alloc (.cells #[.string x] 9)) w3.heap.size 9 [.string x]) := IHolds.new w3 9 [.string x]; have T3' : Hid _ := T3.out.of_below (nB w3 (.cells #[.string x] 9)); refine (HX.out _ _ I9.out).mono ?_; rintro e w4 ⟨rfl, hB4⟩; have T4 : Hid _ := T3'.out.of_below hB4; clear hB4 T3' T3 I9) | (go_at_call 12; have zz := T4.out; clear zz; have I9 : Hid (IHolds (w4.alloc (.cells #[.string y] 9)) w4.heap.size 9 [.string y]) := IHolds.new w4 9 [.string y]; have T4' : Hid _ := T4.out.of_below (nB w4 (.cells #[.string y] 9)); refine (HY.out _ _ I9.out).mono ?_; rintro e w5 ⟨⟨rd, pd, qd, cd, rfl, hone, hqd⟩, hB5⟩; have T5 : Hid _ := T4'.out.of_below hB5; have P5 : Hid _ := hone; obtain ⟨q0, q1, q2, q3⟩ := T5.out.cells; clear hB5 T4' T4 I9 hone hqd))
  go_ret
  exact ⟨rfl, T5.out.bel⟩
set_option maxHeartbeats 4000000 in
theorem once_my {w : World} {z : Int} {ot x y ca cb zr on : ByteArray} {aa ab : Option Addr} {na nb pa pb : Nat} {f g : ByteArray → ByteArray} {bs : ByteArray} (CL : ∀ W, Calls Try.prog 11 #[] W fun e w' => e = .returned (.bool true) ∧ Below W.heap.size W w') (C19 : ∀ W, Calls Try.prog 19 #[.int .i64 z, .int .i64 0] W fun e w' => e = .returned (.tuple #[.string zr, .int .i64 0]) ∧ Below W.heap.size W w') (C20 : ∀ W, Calls Try.prog 20 #[.int .i64 z, .string ot, .string zr] W fun e w' => e = .returned (.tuple #[.string on, .int .i64 0]) ∧ Below W.heap.size W w') (h1 : (ot.toList == on.toList) = false) (h2 : (x.toList == y.toList) = false) (CX : ∀ W b, IHolds W b 9 [.string x] → Calls Try.prog 12 #[.int .i64 z, .string ot, .slice (some ⟨b, 0, none⟩) 1 1] W fun e w' => (∃ r p q c, e = .returned (.slice (some ⟨r, 0, none⟩) 1 c) ∧ One w' r p q bs ot (f x) (g x) ∧ W.heap.size ≤ q) ∧ Below W.heap.size W w') (CY : ∀ W b, IHolds W b 9 [.string y] → Calls Try.prog 12 #[.int .i64 z, .string ot, .slice (some ⟨b, 0, none⟩) 1 1] W fun e w' => e = .returned (.slice none 0 0) ∧ Below W.heap.size W w')  :
    Calls Try.prog 5 #[.int .i64 z, .string ot, .string x, .string y, .agg #[.string ca, .slice aa na pa], .agg #[.string cb, .slice ab nb pb]] w fun e w' => e = .returned (.bool true) ∧ Below w.heap.size w w' := by
  have HL : Hid _ := CL
  have H19 : Hid _ := C19
  have H20 : Hid _ := C20
  clear CL C19 C20
  generalize hW : (w.alloc (.cells #[.string ca, .slice aa na pa] 24)).alloc (.cells #[.string cb, .slice ab nb pb] 24) = U
  have T0 : Hid (StO w U ca cb (.slice aa na pa) (.slice ab nb pb)) := StO.begin w ca cb _ _ hW
  have HX : Hid _ := CX
  have HY : Hid _ := CY
  have hnil := fun (a : Option Addr) (l c : Nat) (w : World) => eql_nil36 a l c w
  clear CX CY
  go_enter Try.func5, Try.ntmps5
  go_wp2_with (first | (go_at_call 11; refine (HL.out _).mono ?_; rintro e w1 ⟨rfl, hB1⟩; have T1 : Hid _ := T0.out.of_below hB1; clear hB1 T0) | (go_at_call 19; refine (H19.out _).mono ?_; rintro e w2 ⟨rfl, hB2⟩; have T2 : Hid _ := T1.out.of_below hB2; clear hB2 T1) | (go_at_call 20; refine (H20.out _).mono ?_; rintro e w3 ⟨rfl, hB3⟩; have T3 : Hid _ := T2.out.of_below hB3; clear hB3 T2) | (go_at_call 12; have zz := T3.out; clear zz; have I9 : Hid (IHolds (w3.alloc (.cells #[.string x] 9)) w3.heap.size 9 [.string x]) := IHolds.new w3 9 [.string x]; have T3' : Hid _ := T3.out.of_below (nB w3 (.cells #[.string x] 9)); refine (HX.out _ _ I9.out).mono ?_; rintro e w4 ⟨⟨rc, pc, qc, cc, rfl, hone, hqc⟩, hB4⟩; have T4 : Hid _ := T3'.out.of_below hB4; have O4 : Hid _ := hone; have Q4 : Hid (w.heap.size + 1 < qc) := Nat.lt_of_lt_of_le T3'.out.ib.lt hqc; clear hB4 T3' T3 I9 hone hqc) | (go_at_call 12; have zz := T4.out; clear zz; have I9 : Hid (IHolds (w4.alloc (.cells #[.string y] 9)) w4.heap.size 9 [.string y]) := IHolds.new w4 9 [.string y]; have T4' : Hid _ := T4.out.of_below (nB w4 (.cells #[.string y] 9)); refine (HY.out _ _ I9.out).mono ?_; rintro e w5 ⟨rfl, hB5⟩; have T5 : Hid _ := T4'.out.of_below hB5; have O5 : Hid _ := (O4.out.of_below (nB w4 (.cells #[.string y] 9))).of_below hB5; clear O4; obtain ⟨q0, q1, q2, q3⟩ := T5.out.cells; clear hB5 T4' T4 I9))
  go_ret
  exact ⟨rfl, T5.out.bel⟩
set_option maxHeartbeats 4000000 in
theorem once_la {w : World} {z : Int} {ot x y ca cb zr on : ByteArray} {aa ab : Option Addr} {na nb pa pb : Nat} {f g : ByteArray → ByteArray} {bs : ByteArray} (CL : ∀ W, Calls Try.prog 11 #[] W fun e w' => e = .returned (.bool true) ∧ Below W.heap.size W w') (C19 : ∀ W, Calls Try.prog 19 #[.int .i64 z, .int .i64 0] W fun e w' => e = .returned (.tuple #[.string zr, .int .i64 0]) ∧ Below W.heap.size W w') (C20 : ∀ W, Calls Try.prog 20 #[.int .i64 z, .string ot, .string zr] W fun e w' => e = .returned (.tuple #[.string on, .int .i64 0]) ∧ Below W.heap.size W w') (h1 : (ot.toList == on.toList) = false) (h2 : (x.toList == y.toList) = false) (CX : ∀ W b, IHolds W b 9 [.string x] → Calls Try.prog 12 #[.int .i64 z, .string ot, .slice (some ⟨b, 0, none⟩) 1 1] W fun e w' => (∃ r p q c, e = .returned (.slice (some ⟨r, 0, none⟩) 1 c) ∧ One w' r p q bs ot (f x) (g x) ∧ W.heap.size ≤ q) ∧ Below W.heap.size W w') (CY : ∀ W b, IHolds W b 9 [.string y] → Calls Try.prog 12 #[.int .i64 z, .string ot, .slice (some ⟨b, 0, none⟩) 1 1] W fun e w' => (∃ r p q c, e = .returned (.slice (some ⟨r, 0, none⟩) 1 c) ∧ One w' r p q bs ot (f y) (g y) ∧ W.heap.size ≤ q) ∧ Below W.heap.size W w') (hn : ((na : Int) != 1) = true) :
    Calls Try.prog 5 #[.int .i64 z, .string ot, .string x, .string y, .agg #[.string ca, .slice aa na pa], .agg #[.string cb, .slice ab nb pb]] w fun e w' => e = .returned (.bool true) ∧ Below w.heap.size w w' := by
  have HL : Hid _ := CL
  have H19 : Hid _ := C19
  have H20 : Hid _ := C20
  clear CL C19 C20
  generalize hW : (w.alloc (.cells #[.string ca, .slice aa na pa] 24)).alloc (.cells #[.string cb, .slice ab nb pb] 24) = U
  have T0 : Hid (StO w U ca cb (.slice aa na pa) (.slice ab nb pb)) := StO.begin w ca cb _ _ hW
  have HX : Hid _ := CX
  have HY : Hid _ := CY
  have hnil := fun (a : Option Addr) (l c : Nat) (w : World) => eql_nil36 a l c w
  clear CX CY
  go_enter Try.func5, Try.ntmps5
  go_wp2_with (first | (go_at_call 11; refine (HL.out _).mono ?_; rintro e w1 ⟨rfl, hB1⟩; have T1 : Hid _ := T0.out.of_below hB1; clear hB1 T0) | (go_at_call 19; refine (H19.out _).mono ?_; rintro e w2 ⟨rfl, hB2⟩; have T2 : Hid _ := T1.out.of_below hB2; clear hB2 T1) | (go_at_call 20; refine (H20.out _).mono ?_; rintro e w3 ⟨rfl, hB3⟩; have T3 : Hid _ := T2.out.of_below hB3; clear hB3 T2) | (go_at_call 12; have zz := T3.out; clear zz; have I9 : Hid (IHolds (w3.alloc (.cells #[.string x] 9)) w3.heap.size 9 [.string x]) := IHolds.new w3 9 [.string x]; have T3' : Hid _ := T3.out.of_below (nB w3 (.cells #[.string x] 9)); refine (HX.out _ _ I9.out).mono ?_; rintro e w4 ⟨⟨rc, pc, qc, cc, rfl, hone, hqc⟩, hB4⟩; have T4 : Hid _ := T3'.out.of_below hB4; have O4 : Hid _ := hone; have Q4 : Hid (w.heap.size + 1 < qc) := Nat.lt_of_lt_of_le T3'.out.ib.lt hqc; clear hB4 T3' T3 I9 hone hqc) | (go_at_call 12; have zz := T4.out; clear zz; have I9 : Hid (IHolds (w4.alloc (.cells #[.string y] 9)) w4.heap.size 9 [.string y]) := IHolds.new w4 9 [.string y]; have T4' : Hid _ := T4.out.of_below (nB w4 (.cells #[.string y] 9)); refine (HY.out _ _ I9.out).mono ?_; rintro e w5 ⟨⟨rd, pd, qd, cd, rfl, hone, hqd⟩, hB5⟩; have T5 : Hid _ := T4'.out.of_below hB5; have P5 : Hid _ := hone; have O5 : Hid _ := (O4.out.of_below (nB w4 (.cells #[.string y] 9))).of_below hB5; clear O4; obtain ⟨q0, q1, q2, q3⟩ := T5.out.cells; clear hB5 T4' T4 I9 hone hqd))
  go_ret
  exact ⟨rfl, T5.out.bel⟩
set_option maxHeartbeats 4000000 in
theorem once_lb {w : World} {z : Int} {ot x y ca cb zr on : ByteArray} {aa ab : Option Addr} {na nb pa pb : Nat} {f g : ByteArray → ByteArray} {bs : ByteArray} (CL : ∀ W, Calls Try.prog 11 #[] W fun e w' => e = .returned (.bool true) ∧ Below W.heap.size W w') (C19 : ∀ W, Calls Try.prog 19 #[.int .i64 z, .int .i64 0] W fun e w' => e = .returned (.tuple #[.string zr, .int .i64 0]) ∧ Below W.heap.size W w') (C20 : ∀ W, Calls Try.prog 20 #[.int .i64 z, .string ot, .string zr] W fun e w' => e = .returned (.tuple #[.string on, .int .i64 0]) ∧ Below W.heap.size W w') (h1 : (ot.toList == on.toList) = false) (h2 : (x.toList == y.toList) = false) (CX : ∀ W b, IHolds W b 9 [.string x] → Calls Try.prog 12 #[.int .i64 z, .string ot, .slice (some ⟨b, 0, none⟩) 1 1] W fun e w' => (∃ r p q c, e = .returned (.slice (some ⟨r, 0, none⟩) 1 c) ∧ One w' r p q bs ot (f x) (g x) ∧ W.heap.size ≤ q) ∧ Below W.heap.size W w') (CY : ∀ W b, IHolds W b 9 [.string y] → Calls Try.prog 12 #[.int .i64 z, .string ot, .slice (some ⟨b, 0, none⟩) 1 1] W fun e w' => (∃ r p q c, e = .returned (.slice (some ⟨r, 0, none⟩) 1 c) ∧ One w' r p q bs ot (f y) (g y) ∧ W.heap.size ≤ q) ∧ Below W.heap.size W w') (hn : ((na : Int) != 1) = false) (hm : ((nb : Int) != 1) = true) :
    Calls Try.prog 5 #[.int .i64 z, .string ot, .string x, .string y, .agg #[.string ca, .slice aa na pa], .agg #[.string cb, .slice ab nb pb]] w fun e w' => e = .returned (.bool true) ∧ Below w.heap.size w w' := by
  have HL : Hid _ := CL
  have H19 : Hid _ := C19
  have H20 : Hid _ := C20
  clear CL C19 C20
  generalize hW : (w.alloc (.cells #[.string ca, .slice aa na pa] 24)).alloc (.cells #[.string cb, .slice ab nb pb] 24) = U
  have T0 : Hid (StO w U ca cb (.slice aa na pa) (.slice ab nb pb)) := StO.begin w ca cb _ _ hW
  have HX : Hid _ := CX
  have HY : Hid _ := CY
  have hnil := fun (a : Option Addr) (l c : Nat) (w : World) => eql_nil36 a l c w
  clear CX CY
  go_enter Try.func5, Try.ntmps5
  go_wp2_with (first | (go_at_call 11; refine (HL.out _).mono ?_; rintro e w1 ⟨rfl, hB1⟩; have T1 : Hid _ := T0.out.of_below hB1; clear hB1 T0) | (go_at_call 19; refine (H19.out _).mono ?_; rintro e w2 ⟨rfl, hB2⟩; have T2 : Hid _ := T1.out.of_below hB2; clear hB2 T1) | (go_at_call 20; refine (H20.out _).mono ?_; rintro e w3 ⟨rfl, hB3⟩; have T3 : Hid _ := T2.out.of_below hB3; clear hB3 T2) | (go_at_call 12; have zz := T3.out; clear zz; have I9 : Hid (IHolds (w3.alloc (.cells #[.string x] 9)) w3.heap.size 9 [.string x]) := IHolds.new w3 9 [.string x]; have T3' : Hid _ := T3.out.of_below (nB w3 (.cells #[.string x] 9)); refine (HX.out _ _ I9.out).mono ?_; rintro e w4 ⟨⟨rc, pc, qc, cc, rfl, hone, hqc⟩, hB4⟩; have T4 : Hid _ := T3'.out.of_below hB4; have O4 : Hid _ := hone; have Q4 : Hid (w.heap.size + 1 < qc) := Nat.lt_of_lt_of_le T3'.out.ib.lt hqc; clear hB4 T3' T3 I9 hone hqc) | (go_at_call 12; have zz := T4.out; clear zz; have I9 : Hid (IHolds (w4.alloc (.cells #[.string y] 9)) w4.heap.size 9 [.string y]) := IHolds.new w4 9 [.string y]; have T4' : Hid _ := T4.out.of_below (nB w4 (.cells #[.string y] 9)); refine (HY.out _ _ I9.out).mono ?_; rintro e w5 ⟨⟨rd, pd, qd, cd, rfl, hone, hqd⟩, hB5⟩; have T5 : Hid _ := T4'.out.of_below hB5; have P5 : Hid _ := hone; have O5 : Hid _ := (O4.out.of_below (nB w4 (.cells #[.string y] 9))).of_below hB5; clear O4; obtain ⟨q0, q1, q2, q3⟩ := T5.out.cells; clear hB5 T4' T4 I9 hone hqd))
  go_ret
  exact ⟨rfl, T5.out.bel⟩
end Go.Proofs.Ytokkjdelomkfiaa
