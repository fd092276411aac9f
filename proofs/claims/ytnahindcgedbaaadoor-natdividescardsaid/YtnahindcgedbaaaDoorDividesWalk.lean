/- The walk of the law NatDivides. -/
import Derived.Test.YtnahindcgedbaaaDoorBaseE
import Derived.Test.YtnahindcgedbaaaDoorDiv
set_option linter.unusedSimpArgs false
set_option linter.unusedVariables false
namespace Go.Proofs.YtnahindcgedbaaaDoor
open Go.RowKit Go.Deep Go.PlainAid

/-- What the walk takes of the program and of the reference, at two texts. -/
structure Divs (a b : ByteArray) (n m : Nat) (x : Nat) (G g q r : ByteArray) (y : Int) : Prop where
  c9 : ∀ W, Calls Tryd.prog 9 #[.string a, .string b] W fun e w' => e = .returned (.int .i64 (x : Int)) ∧ w' = W
  c21 : ∀ W, Calls Tryd.prog 21 #[.string a, .string b] W fun e w' => e = .returned (.tuple #[.string g, .int .i64 (x : Int)]) ∧ Below W.heap.size W w'
  c22 : ∀ W v1 v2, NumV W 10 n v1 → NumV W 10 m v2 → Calls Tryd.prog 22 #[v1, v2] W fun e w' => (∃ v, e = .returned v ∧ NumV w' 10 (Nat.gcd n m) v) ∧ Below W.heap.size W w'
  t1 : ∀ W v, NumV W 10 (Nat.gcd n m) v → Calls Tryd.prog 13 #[v] W fun e w' => e = .returned (.string G) ∧ Below W.heap.size W w'
  l1 : ∀ W, Calls Tryd.prog 12 #[.string g, .int .i64 (x : Int), .int .i64 (x : Int), .string G] W fun e w' => e = .returned (.bool true) ∧ w' = W
  c23 : ∀ W, Calls Tryd.prog 23 #[.string a, .string b] W fun e w' => e = .returned (.tuple #[.string q, .string r, .int .i64 y]) ∧ Below W.heap.size W w'
/-- .. where b is not 0. -/
structure DivsS (n m : Nat) (q r : ByteArray) : Prop where
  c24 : ∀ W v1 v2, NumV W 10 n v1 → NumV W 10 m v2 → Calls Tryd.prog 24 #[v1, v2] W fun e w' => (∃ u1 u2, e = .returned (.tuple #[u1, u2]) ∧ NumV w' 10 (n / m) u1 ∧ NumV w' 10 (n % m) u2) ∧ Below W.heap.size W w'
  t2 : ∀ W v, NumV W 10 (n / m) v → Calls Tryd.prog 13 #[v] W fun e w' => e = .returned (.string q) ∧ Below W.heap.size W w'
  t3 : ∀ W v, NumV W 10 (n % m) v → Calls Tryd.prog 13 #[v] W fun e w' => e = .returned (.string r) ∧ Below W.heap.size W w'
  l2 : ∀ W, Calls Tryd.prog 12 #[.string r, .int .i64 0, .int .i64 0, .string r] W fun e w' => e = .returned (.bool true) ∧ w' = W

set_option maxRecDepth 100000 in
set_option maxHeartbeats 2000000 in
theorem natDivides_ok (a b : ByteArray) (w : World) (n m L : Nat) (G g q r : ByteArray) (hL : ((L : Int) == 0) = false) (R : Hid (Divs a b n m 0 G g q r 0)) (S : Hid (DivsS n m q r)) (r1 : Hid (∀ W, Calls Tryd.prog 10 #[.string a] W fun e w' => (∃ v, e = .returned v ∧ NumV w' 10 n v) ∧ Below W.heap.size W w')) (r2 : Hid (∀ W, Calls Tryd.prog 10 #[.string b] W fun e w' => (∃ a2 c2, e = .returned (.slice a2 L c2) ∧ NumV w' 10 m (.slice a2 L c2)) ∧ Below W.heap.size W w')) :
    Calls Tryd.prog 4 #[.string a, .string b] w fun e w' => e = .returned (.bool true) ∧ Below w.heap.size w w' := by
  go_enter Tryd.func4, Tryd.ntmps4
  go_wp2_with fail
  refine (R.out.c9 w).mono ?_
  rintro e w ⟨rfl, rfl⟩
  go_wp2_with fail
  refine (r1.out w).mono ?_
  rintro e W1 ⟨⟨v1, rfl, hv⟩, hb⟩
  have B1 : Hid (Below w.heap.size w W1) := hb
  have N1 : Hid (NumV W1 10 n v1) := hv
  clear hv
  clear hb
  go_wp2_with fail
  refine (r2.out W1).mono ?_
  rintro e W2 ⟨⟨a2, c2, rfl, hv⟩, hb⟩
  have B2 : Hid (Below w.heap.size w W2) := B1.out.trans (hb.mono B1.out.size)
  have N1 : Hid (NumV W2 10 n v1) := N1.out.of_below hb
  have N2 : Hid (NumV W2 10 m (.slice a2 L c2)) := hv
  clear hv
  clear hb
  go_wp2_with fail
  refine (R.out.c21 W2).mono ?_
  rintro e W3 ⟨rfl, hb⟩
  have B3 : Hid (Below w.heap.size w W3) := B2.out.trans (hb.mono B2.out.size)
  have N1 : Hid (NumV W3 10 n v1) := N1.out.of_below hb
  have N2 : Hid (NumV W3 10 m (.slice a2 L c2)) := N2.out.of_below hb
  clear hb
  go_wp2_with fail
  refine (R.out.c22 W3 v1 (.slice a2 L c2) N1.out N2.out).mono ?_
  rintro e W4 ⟨⟨v3, rfl, hv⟩, hb⟩
  have B4 : Hid (Below w.heap.size w W4) := B3.out.trans (hb.mono B3.out.size)
  have N1 : Hid (NumV W4 10 n v1) := N1.out.of_below hb
  have N2 : Hid (NumV W4 10 m (.slice a2 L c2)) := N2.out.of_below hb
  have N3 : Hid (NumV W4 10 (Nat.gcd n m) v3) := hv
  clear hv
  clear hb
  go_wp2_with fail
  refine (R.out.t1 W4 v3 N3.out).mono ?_
  rintro e W5 ⟨rfl, hb⟩
  have B5 : Hid (Below w.heap.size w W5) := B4.out.trans (hb.mono B4.out.size)
  have N1 : Hid (NumV W5 10 n v1) := N1.out.of_below hb
  have N2 : Hid (NumV W5 10 m (.slice a2 L c2)) := N2.out.of_below hb
  have N3 : Hid (NumV W5 10 (Nat.gcd n m) v3) := N3.out.of_below hb
  clear hb
  go_wp2_with fail
  refine (R.out.l1 W5).mono ?_
  rintro e W5 ⟨rfl, rfl⟩
  go_wp2_with fail
  refine (R.out.c23 W5).mono ?_
  rintro e W6 ⟨rfl, hb⟩
  have B6 : Hid (Below w.heap.size w W6) := B5.out.trans (hb.mono B5.out.size)
  have N1 : Hid (NumV W6 10 n v1) := N1.out.of_below hb
  have N2 : Hid (NumV W6 10 m (.slice a2 L c2)) := N2.out.of_below hb
  clear hb
  go_wp2_with fail
  refine (S.out.c24 W6 v1 (.slice a2 L c2) N1.out N2.out).mono ?_
  rintro e W7 ⟨⟨u1, u2, rfl, hv, hv2⟩, hb⟩
  have B7 : Hid (Below w.heap.size w W7) := B6.out.trans (hb.mono B6.out.size)
  have N1 : Hid (NumV W7 10 n v1) := N1.out.of_below hb
  have N2 : Hid (NumV W7 10 m (.slice a2 L c2)) := N2.out.of_below hb
  have M1 : Hid (NumV W7 10 (n / m) u1) := hv
  clear hv
  have M2 : Hid (NumV W7 10 (n % m) u2) := hv2
  clear hv2
  clear hb
  go_wp2_with fail
  refine (S.out.t2 W7 u1 M1.out).mono ?_
  rintro e W8 ⟨rfl, hb⟩
  have B8 : Hid (Below w.heap.size w W8) := B7.out.trans (hb.mono B7.out.size)
  have N1 : Hid (NumV W8 10 n v1) := N1.out.of_below hb
  have N2 : Hid (NumV W8 10 m (.slice a2 L c2)) := N2.out.of_below hb
  have M1 : Hid (NumV W8 10 (n / m) u1) := M1.out.of_below hb
  have M2 : Hid (NumV W8 10 (n % m) u2) := M2.out.of_below hb
  clear hb
  go_wp2_with fail
  refine (S.out.t3 W8 u2 M2.out).mono ?_
  rintro e W9 ⟨rfl, hb⟩
  have B9 : Hid (Below w.heap.size w W9) := B8.out.trans (hb.mono B8.out.size)
  have N1 : Hid (NumV W9 10 n v1) := N1.out.of_below hb
  have N2 : Hid (NumV W9 10 m (.slice a2 L c2)) := N2.out.of_below hb
  have M1 : Hid (NumV W9 10 (n / m) u1) := M1.out.of_below hb
  have M2 : Hid (NumV W9 10 (n % m) u2) := M2.out.of_below hb
  clear hb
  go_wp2_with fail
  refine (S.out.l2 W9).mono ?_
  rintro e W9 ⟨rfl, rfl⟩
  go_wp2_with fail
  go_ret
  exact ⟨by first | rfl | simp, B9.out⟩

set_option maxRecDepth 100000 in
set_option maxHeartbeats 2000000 in
theorem natDivides_zero (a b : ByteArray) (w : World) (n : Nat) (G g : ByteArray) (R : Hid (Divs a b n 0 0 G g ⟨#[]⟩ ⟨#[]⟩ 5)) (L : Hid (∀ W, Calls Tryd.prog 12 #[.string ⟨#[]⟩, .int .i64 5, .int .i64 5, .string ⟨#[]⟩] W fun e w' => e = .returned (.bool true) ∧ w' = W)) (r1 : Hid (∀ W, Calls Tryd.prog 10 #[.string a] W fun e w' => (∃ v, e = .returned v ∧ NumV w' 10 n v) ∧ Below W.heap.size W w')) (r2 : Hid (∀ W, Calls Tryd.prog 10 #[.string b] W fun e w' => (∃ a2 c2, e = .returned (.slice a2 0 c2) ∧ NumV w' 10 0 (.slice a2 0 c2)) ∧ Below W.heap.size W w')) :
    Calls Tryd.prog 4 #[.string a, .string b] w fun e w' => e = .returned (.bool true) ∧ Below w.heap.size w w' := by
  go_enter Tryd.func4, Tryd.ntmps4
  go_wp2_with fail
  refine (R.out.c9 w).mono ?_
  rintro e w ⟨rfl, rfl⟩
  go_wp2_with fail
  refine (r1.out w).mono ?_
  rintro e W1 ⟨⟨v1, rfl, hv⟩, hb⟩
  have B1 : Hid (Below w.heap.size w W1) := hb
  have N1 : Hid (NumV W1 10 n v1) := hv
  clear hv
  clear hb
  go_wp2_with fail
  refine (r2.out W1).mono ?_
  rintro e W2 ⟨⟨a2, c2, rfl, hv⟩, hb⟩
  have B2 : Hid (Below w.heap.size w W2) := B1.out.trans (hb.mono B1.out.size)
  have N1 : Hid (NumV W2 10 n v1) := N1.out.of_below hb
  have N2 : Hid (NumV W2 10 0 (.slice a2 0 c2)) := hv
  clear hv
  clear hb
  go_wp2_with fail
  refine (R.out.c21 W2).mono ?_
  rintro e W3 ⟨rfl, hb⟩
  have B3 : Hid (Below w.heap.size w W3) := B2.out.trans (hb.mono B2.out.size)
  have N1 : Hid (NumV W3 10 n v1) := N1.out.of_below hb
  have N2 : Hid (NumV W3 10 0 (.slice a2 0 c2)) := N2.out.of_below hb
  clear hb
  go_wp2_with fail
  refine (R.out.c22 W3 v1 (.slice a2 0 c2) N1.out N2.out).mono ?_
  rintro e W4 ⟨⟨v3, rfl, hv⟩, hb⟩
  have B4 : Hid (Below w.heap.size w W4) := B3.out.trans (hb.mono B3.out.size)
  have N1 : Hid (NumV W4 10 n v1) := N1.out.of_below hb
  have N2 : Hid (NumV W4 10 0 (.slice a2 0 c2)) := N2.out.of_below hb
  have N3 : Hid (NumV W4 10 (Nat.gcd n 0) v3) := hv
  clear hv
  clear hb
  go_wp2_with fail
  refine (R.out.t1 W4 v3 N3.out).mono ?_
  rintro e W5 ⟨rfl, hb⟩
  have B5 : Hid (Below w.heap.size w W5) := B4.out.trans (hb.mono B4.out.size)
  have N1 : Hid (NumV W5 10 n v1) := N1.out.of_below hb
  have N2 : Hid (NumV W5 10 0 (.slice a2 0 c2)) := N2.out.of_below hb
  have N3 : Hid (NumV W5 10 (Nat.gcd n 0) v3) := N3.out.of_below hb
  clear hb
  go_wp2_with fail
  refine (R.out.l1 W5).mono ?_
  rintro e W5 ⟨rfl, rfl⟩
  go_wp2_with fail
  refine (R.out.c23 W5).mono ?_
  rintro e W6 ⟨rfl, hb⟩
  have B6 : Hid (Below w.heap.size w W6) := B5.out.trans (hb.mono B5.out.size)
  have N1 : Hid (NumV W6 10 n v1) := N1.out.of_below hb
  have N2 : Hid (NumV W6 10 0 (.slice a2 0 c2)) := N2.out.of_below hb
  clear hb
  go_wp2_with fail
  refine (L.out W6).mono ?_
  rintro e W6 ⟨rfl, rfl⟩
  go_wp2_with fail
  go_ret
  exact ⟨by first | rfl | simp, B6.out⟩

set_option maxRecDepth 100000 in
set_option maxHeartbeats 2000000 in
theorem natDivides_bad (a b : ByteArray) (w : World) (x : Nat) (hx : x ≠ 0) (G g : ByteArray) (R : Hid (Divs a b 0 0 x G g ⟨#[]⟩ ⟨#[]⟩ (x : Int))) (L : Hid (∀ W, Calls Tryd.prog 12 #[.string ⟨#[]⟩, .int .i64 (x : Int), .int .i64 (x : Int), .string ⟨#[]⟩] W fun e w' => e = .returned (.bool true) ∧ w' = W))  :
    Calls Tryd.prog 4 #[.string a, .string b] w fun e w' => e = .returned (.bool true) ∧ Below w.heap.size w w' := by
  have hx0 : ((x : Int) == 0) = false := beq_eq_false_iff_ne.2 (by omega)
  have hx1 : ((x : Int) != 0) = true := bne_iff_ne.2 (by omega)
  go_enter Tryd.func4, Tryd.ntmps4
  go_wp2_with fail
  refine (R.out.c9 w).mono ?_
  rintro e w ⟨rfl, rfl⟩
  go_wp2_with fail
  refine (R.out.c21 w).mono ?_
  rintro e W1 ⟨rfl, hb⟩
  have B1 : Hid (Below w.heap.size w W1) := hb
  clear hb
  go_wp2_with fail
  refine (R.out.c22 W1 (.slice none 0 0) (.slice none 0 0) (NumV.nil _) (NumV.nil _)).mono ?_
  rintro e W2 ⟨⟨v3, rfl, hv⟩, hb⟩
  have B2 : Hid (Below w.heap.size w W2) := B1.out.trans (hb.mono B1.out.size)
  have N3 : Hid (NumV W2 10 (Nat.gcd 0 0) v3) := hv
  clear hv
  clear hb
  go_wp2_with fail
  refine (R.out.t1 W2 v3 N3.out).mono ?_
  rintro e W3 ⟨rfl, hb⟩
  have B3 : Hid (Below w.heap.size w W3) := B2.out.trans (hb.mono B2.out.size)
  have N3 : Hid (NumV W3 10 (Nat.gcd 0 0) v3) := N3.out.of_below hb
  clear hb
  go_wp2_with fail
  refine (R.out.l1 W3).mono ?_
  rintro e W3 ⟨rfl, rfl⟩
  go_wp2_with fail
  refine (R.out.c23 W3).mono ?_
  rintro e W4 ⟨rfl, hb⟩
  have B4 : Hid (Below w.heap.size w W4) := B3.out.trans (hb.mono B3.out.size)
  clear hb
  go_wp2_with fail
  refine (L.out W4).mono ?_
  rintro e W4 ⟨rfl, rfl⟩
  go_wp2_with fail
  go_ret
  exact ⟨by first | rfl | simp, B4.out⟩

/-- The law, whatever the texts. -/
theorem natDivides_walk (a b : ByteArray) (w : World) (ha : a.size ≤ 4611686018427387904) (hb : b.size ≤ 4611686018427387904) :
    Calls Tryd.prog 4 #[.string a, .string b] w fun e w' => e = .returned (.bool true) ∧ Below w.heap.size w w' := by
  by_cases h0 : wr2 a b = 0
  · have hwa : wrT a = 0 := by
      unfold wr2 at h0
      split at h0
      · assumption
      · exact h0
    have hwb : wrT b = 0 := by unfold wr2 at h0; rw [if_pos hwa] at h0; exact h0
    have la := dg_len_bv10 a hwa
    have lb := dg_len_bv10 b hwb
    obtain ⟨na, sa⟩ := wrT_zero hwa
    obtain ⟨nb, sb⟩ := wrT_zero hwb
    have C9 := fun W => lawWrong_any a b W ha hb
    rw [h0] at C9
    have r1 : Hid (∀ W, Calls Tryd.prog 10 #[.string a] W fun e w' => (∃ v, e = .returned v ∧ NumV w' 10 (bv a.data.toList) v) ∧ Below W.heap.size W w') := fun W => refRead_any a W (isNum_all na) (by omega)
    have r2 : Hid (∀ W, Calls Tryd.prog 10 #[.string b] W fun e w' => (∃ a2 c2, e = .returned (.slice a2 (dg 10 (bv b.data.toList)).length c2) ∧ NumV w' 10 (bv b.data.toList) (.slice a2 (dg 10 (bv b.data.toList)).length c2)) ∧ Below W.heap.size W w') := fun W => by
      refine (refRead_any b W (isNum_all nb) (by omega)).mono ?_
      rintro e w' ⟨⟨v, rfl, a2, c2, rfl, hc, hr⟩, hb⟩
      exact ⟨⟨a2, c2, rfl, a2, c2, rfl, hc, hr⟩, hb⟩
    have lg : (dg 10 (Nat.gcd (bv a.data.toList) (bv b.data.toList))).length ≤ 4000 := by
      rcases Nat.eq_zero_or_pos (bv a.data.toList) with hz | hz
      · rw [hz, Nat.gcd_zero_left]; exact lb
      · exact Nat.le_trans (dg_len_mono ten (Nat.gcd_le_left _ hz)) la
    have R := fun (q r : ByteArray) (y : Int) (c23 : ∀ W, Calls Tryd.prog 23 #[.string a, .string b] W fun e w' => e = .returned (.tuple #[.string q, .string r, .int .i64 y]) ∧ Below W.heap.size W w') =>
      (⟨C9, fun W => gcd_ok a b W hwa hwb, fun W v1 v2 h1 h2 => refGcdV h1 h2 (by omega) (by omega), fun W v h => refTextV h (by omega), fun W => lawText_ok _ W, c23⟩ :
        Divs a b (bv a.data.toList) (bv b.data.toList) 0 ⟨(txt (Nat.gcd (bv a.data.toList) (bv b.data.toList))).toArray⟩ ⟨(txt (Nat.gcd (bv a.data.toList) (bv b.data.toList))).toArray⟩ q r y)
    by_cases hz : bv b.data.toList = 0
    · have R1 := R _ _ 5 (fun W => div_zero a b W hwa hwb hz)
      rw [hz] at R1
      have r2' : Hid (∀ W, Calls Tryd.prog 10 #[.string b] W fun e w' => (∃ a2 c2, e = .returned (.slice a2 0 c2) ∧ NumV w' 10 0 (.slice a2 0 c2)) ∧ Below W.heap.size W w') := by
        have := r2.out
        rw [hz, dg_zero] at this
        exact this
      exact natDivides_zero a b w _ _ _ R1 (fun W => lawText_bad 5 _ W (by omega)) r1 r2'
    · have R1 := R _ _ 0 (fun W => div_ok a b W hwa hwb hz)
      have S1 : DivsS (bv a.data.toList) (bv b.data.toList) ⟨(txt (bv a.data.toList / bv b.data.toList)).toArray⟩ ⟨(txt (bv a.data.toList % bv b.data.toList)).toArray⟩ :=
        ⟨fun W v1 v2 h1 h2 => refDivV h1 h2 hz (by omega) (by omega), fun W v h => refTextV h (Nat.le_trans (dg_len_mono ten (Nat.div_le_self _ _)) (by omega)), fun W v h => refTextV h (Nat.le_trans (dg_len_mono ten (Nat.mod_le _ _)) (by omega)), fun W => lawText_ok _ W⟩
      have hL : (((dg 10 (bv b.data.toList)).length : Int) == 0) = false := beq_eq_false_iff_ne.2 (by have : (dg 10 (bv b.data.toList)).length ≠ 0 := fun h => hz ((dg_length_zero ten).1 h); omega)
      exact natDivides_ok a b w _ _ _ _ _ _ _ hL R1 S1 r1 r2
  · have l0 : (dg 10 0).length ≤ 900000 := by rw [dg_zero]; simp
    have R : Divs a b 0 0 (wr2 a b) ⟨(txt (Nat.gcd 0 0)).toArray⟩ ⟨#[]⟩ ⟨#[]⟩ ⟨#[]⟩ (wr2 a b : Int) :=
      ⟨fun W => lawWrong_any a b W ha hb, fun W => gcd_bad a b W h0 ha hb, fun W v1 v2 h1 h2 => refGcdV h1 h2 l0 l0, fun W v h => refTextV h (by rw [Nat.gcd_zero_left]; omega), fun W => lawText_bad _ _ W (by omega), fun W => div_bad a b W h0 ha hb⟩
    exact natDivides_bad a b w (wr2 a b) h0 _ _ R (fun W => lawText_bad _ _ W (by omega))
end Go.Proofs.YtnahindcgedbaaaDoor
