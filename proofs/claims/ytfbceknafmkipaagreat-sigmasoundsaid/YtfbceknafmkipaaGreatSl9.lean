/- ExtractAny and Extract. -/
import Derived.Test.YtfbceknafmkipaaGreatSl8
set_option linter.unusedSimpArgs false
set_option linter.unusedVariables false
set_option maxRecDepth 100000
namespace Go.Proofs.YtfbceknafmkipaaGreat
open Go.RowKit Go.Deep Go.PlainAid

section
variable {w : World} {x1 x2 y1 y2 : Value} {z : Int}
theorem any9_world {w : World} {x1 x2 y1 y2 : Value} {W : World} (hW : (w.alloc (.cells #[x1, x2] 63)).alloc (.cells #[y1, y2] 63) = W) : Below w.heap.size w W ∧ IHolds W w.heap.size 63 [x1, x2] ∧ IHolds W (w.heap.size + 1) 63 [y1, y2] := by
  subst hW
  exact ⟨((Below.refl _ w).alloc (Nat.le_refl _) _).alloc (by simp) _, (IHolds.new' w 63 [x1, x2] rfl).alloc _, IHolds.new' (w.alloc _) 63 [y1, y2] (by simp)⟩
set_option maxHeartbeats 1000000 in
theorem any9_no {a1 a2 b1 b2 : Option Addr} {n1 n2 m1 m2 c1 c2 d1 d2 : Nat} {c : Int} (hc : (c == 0) = false) (CG : ∀ W, Calls Tryz.prog 30 #[.int .i64 z] W fun e w' => e = .returned (.tuple #[.agg #[.int .i64 z], .int .i64 c]) ∧ Below W.heap.size W w') :
    Calls Tryz.prog 28 #[.int .i64 z, .agg #[.slice a1 n1 c1, .slice a2 n2 c2], .agg #[.slice b1 m1 d1, .slice b2 m2 d2]] w fun e w' => e = .returned (.tuple #[.int .i64 0, .slice none 0 0, .int .i64 c]) ∧ Below w.heap.size w w' := by
  generalize hW : (w.alloc (.cells #[.slice a1 n1 c1, .slice a2 n2 c2] 63)).alloc (.cells #[.slice b1 m1 d1, .slice b2 m2 d2] 63) = W
  obtain ⟨J, I1, I2⟩ := any9_world hW
  have HB : Hid (Below w.heap.size w W) := J
  have hc2 : (c != 0) = true := by rw [bne, hc]; rfl
  clear J I1 I2
  go_enter Tryz.func28, Tryz.ntmps28
  go_wp2_with (go_at_call 30; refine (CG _).mono ?_; rintro e w1 ⟨rfl, hB1⟩)
  exact bodyPost_ret (v := .tuple #[.int .i64 0, .slice none 0 0, .int .i64 c]) (by simp [results, Tryz.results28, go_sem]) rfl ⟨rfl, HB.out.trans ((hB1.trans ((nB _ _).mono hB1.size)).mono HB.out.size)⟩
set_option maxHeartbeats 1000000 in
theorem any9_wrong {a1 a2 b1 b2 : Option Addr} {n1 n2 m1 m2 c1 c2 d1 d2 : Nat} {c : Int} (hc : (c == 0) = false) (CG : ∀ W, Calls Tryz.prog 30 #[.int .i64 z] W fun e w' => e = .returned (.tuple #[.agg #[.int .i64 z], .int .i64 0]) ∧ Below W.heap.size W w')
    (CW : ∀ W, Below w.heap.size w W → Calls Tryz.prog 57 #[.agg #[.int .i64 z], .agg #[.slice a1 n1 c1, .slice a2 n2 c2], .agg #[.slice b1 m1 d1, .slice b2 m2 d2]] W fun e w' => e = .returned (.int .i64 c) ∧ Below W.heap.size W w') :
    Calls Tryz.prog 28 #[.int .i64 z, .agg #[.slice a1 n1 c1, .slice a2 n2 c2], .agg #[.slice b1 m1 d1, .slice b2 m2 d2]] w fun e w' => e = .returned (.tuple #[.int .i64 0, .slice none 0 0, .int .i64 c]) ∧ Below w.heap.size w w' := by
  generalize hW : (w.alloc (.cells #[.slice a1 n1 c1, .slice a2 n2 c2] 63)).alloc (.cells #[.slice b1 m1 d1, .slice b2 m2 d2] 63) = W
  obtain ⟨J, I1, I2⟩ := any9_world hW
  have HB : Hid (Below w.heap.size w W) := J
  have J1 : Hid (IHolds W w.heap.size 63 [.slice a1 n1 c1, .slice a2 n2 c2]) := I1
  have J2 : Hid (IHolds W (w.heap.size + 1) 63 [.slice b1 m1 d1, .slice b2 m2 d2]) := I2
  have hc2 : (c != 0) = true := by rw [bne, hc]; rfl
  clear J I1 I2
  go_enter Tryz.func28, Tryz.ntmps28
  go_wp2_with (first
    | (go_at_call 30; (refine (CG _).mono ?_; rintro e w1 ⟨rfl, hB1⟩; have B1 : Hid (Below W.heap.size W (w1.alloc (.cells #[.int .i64 z] 39))) := hB1.trans ((nB _ _).mono hB1.size); have g0 : (w1.alloc (.cells #[.int .i64 z] 39)).cell? ⟨w1.heap.size, 0, none⟩ = some (.int .i64 z) := (IHolds.new' w1 39 [.int .i64 z] rfl).cell 0 (by simp); have g1 := (J1.out.of_below B1.out).two0; have g2 := (J1.out.of_below B1.out).two1; have g3 := (J2.out.of_below B1.out).two0; have g4 := (J2.out.of_below B1.out).two1; clear hB1))
    | (go_at_call 57; refine (CW _ (HB.out.trans (B1.out.mono HB.out.size))).mono ?_; rintro e w2 ⟨rfl, hB2⟩))
  exact bodyPost_ret (v := .tuple #[.int .i64 0, .slice none 0 0, .int .i64 c]) (by simp [results, Tryz.results28, go_sem]) rfl ⟨rfl, HB.out.trans ((B1.out.trans (hB2.mono B1.out.size)).mono HB.out.size)⟩
set_option maxHeartbeats 1000000 in
theorem any9_yes {a1 a2 b1 b2 : Option Addr} {n1 n2 m1 m2 c1 c2 d1 d2 : Nat} {k : Nat} {rs : List ByteArray} (CG : ∀ W, Calls Tryz.prog 30 #[.int .i64 z] W fun e w' => e = .returned (.tuple #[.agg #[.int .i64 z], .int .i64 0]) ∧ Below W.heap.size W w')
    (CW : ∀ W, Below w.heap.size w W → Calls Tryz.prog 57 #[.agg #[.int .i64 z], .agg #[.slice a1 n1 c1, .slice a2 n2 c2], .agg #[.slice b1 m1 d1, .slice b2 m2 d2]] W fun e w' => e = .returned (.int .i64 0) ∧ Below W.heap.size W w')
    (CP : ∀ W, Below w.heap.size w W → Calls Tryz.prog 58 #[.slice a1 n1 c1, .slice b1 m1 d1] W fun e w' => e = .returned (.int .i64 (k : Int)) ∧ Below W.heap.size W w')
    (CE : ∀ W, Below w.heap.size w W → Calls Tryz.prog 59 #[.agg #[.int .i64 z], .agg #[.slice a1 n1 c1, .slice a2 n2 c2], .agg #[.slice b1 m1 d1, .slice b2 m2 d2], .int .i64 (k : Int)] W fun e w' => (∃ a' c', e = .returned (.slice a' rs.length c') ∧ SL w' a' rs) ∧ Below W.heap.size W w') :
    Calls Tryz.prog 28 #[.int .i64 z, .agg #[.slice a1 n1 c1, .slice a2 n2 c2], .agg #[.slice b1 m1 d1, .slice b2 m2 d2]] w fun e w' => (∃ a' c', e = .returned (.tuple #[.int .i64 (k : Int), .slice a' rs.length c', .int .i64 0]) ∧ SL w' a' rs) ∧ Below w.heap.size w w' := by
  generalize hW : (w.alloc (.cells #[.slice a1 n1 c1, .slice a2 n2 c2] 63)).alloc (.cells #[.slice b1 m1 d1, .slice b2 m2 d2] 63) = W
  obtain ⟨J, I1, I2⟩ := any9_world hW
  have HB : Hid (Below w.heap.size w W) := J
  have J1 : Hid (IHolds W w.heap.size 63 [.slice a1 n1 c1, .slice a2 n2 c2]) := I1
  have J2 : Hid (IHolds W (w.heap.size + 1) 63 [.slice b1 m1 d1, .slice b2 m2 d2]) := I2
  clear J I1 I2
  go_enter Tryz.func28, Tryz.ntmps28
  go_wp2_with (first
    | (go_at_call 30; (refine (CG _).mono ?_; rintro e w1 ⟨rfl, hB1⟩; have B1 : Hid (Below W.heap.size W (w1.alloc (.cells #[.int .i64 z] 39))) := hB1.trans ((nB _ _).mono hB1.size); have J0 : Hid (IHolds (w1.alloc (.cells #[.int .i64 z] 39)) w1.heap.size 39 [.int .i64 z]) := IHolds.new' w1 39 [.int .i64 z] rfl; have g0 : (w1.alloc (.cells #[.int .i64 z] 39)).cell? ⟨w1.heap.size, 0, none⟩ = some (.int .i64 z) := J0.out.cell 0 (by simp); have g1 := (J1.out.of_below B1.out).two0; have g2 := (J1.out.of_below B1.out).two1; have g3 := (J2.out.of_below B1.out).two0; have g4 := (J2.out.of_below B1.out).two1; clear hB1))
    | (go_at_call 57; refine (CW _ (HB.out.trans (B1.out.mono HB.out.size))).mono ?_; rintro e w2 ⟨rfl, hB2⟩; have B2 : Hid (Below W.heap.size W w2) := B1.out.trans (hB2.mono B1.out.size); replace J0 : Hid (IHolds w2 w1.heap.size 39 [.int .i64 z]) := J0.out.of_below hB2; have g1 := (J1.out.of_below B2.out).two0; have g3 := (J2.out.of_below B2.out).two0; clear hB2)
    | (go_at_call 58; refine (CP _ (HB.out.trans (B2.out.mono HB.out.size))).mono ?_; rintro e w3 ⟨rfl, hB3⟩; have B3 : Hid (Below W.heap.size W w3) := B2.out.trans (hB3.mono B2.out.size); replace J0 : Hid (IHolds w3 w1.heap.size 39 [.int .i64 z]) := J0.out.of_below hB3; have g0 : w3.cell? ⟨w1.heap.size, 0, none⟩ = some (.int .i64 z) := J0.out.cell 0 (by simp); have g1 := (J1.out.of_below B3.out).two0; have g2 := (J1.out.of_below B3.out).two1; have g3 := (J2.out.of_below B3.out).two0; have g4 := (J2.out.of_below B3.out).two1; clear hB3)
    | (go_at_call 59; refine (CE _ (HB.out.trans (B3.out.mono HB.out.size))).mono ?_; rintro e w4 ⟨⟨a4, c4, rfl, hs4⟩, hB4⟩; have S4 : Hid (SL w4 a4 rs) := hs4; clear hs4))
  exact bodyPost_ret (v := .tuple #[.int .i64 (k : Int), .slice a4 rs.length c4, .int .i64 0]) (by simp [results, Tryz.results28, go_sem]) rfl ⟨⟨_, _, rfl, S4.out⟩, HB.out.trans ((B3.out.trans (hB4.mono B3.out.size)).mono HB.out.size)⟩
end
end Go.Proofs.YtfbceknafmkipaaGreat
