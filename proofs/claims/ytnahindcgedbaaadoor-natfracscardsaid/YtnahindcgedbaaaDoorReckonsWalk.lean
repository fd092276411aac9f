/- The walk of the law NatReckons. -/
import Derived.Test.YtnahindcgedbaaaDoorFace
import Derived.Test.YtnahindcgedbaaaDoorBaseD
set_option linter.unusedSimpArgs false
set_option linter.unusedVariables false
namespace Go.Proofs.YtnahindcgedbaaaDoor
open Go.RowKit Go.Deep Go.PlainAid

/-! ### The reference's functions, of values that are numbers -/
theorem NumV.nil (w : World) : NumV w 10 0 (.slice none 0 0) := ⟨none, 0, by rw [dg_zero]; rfl, by rw [dg_zero]; exact Nat.le_refl _, by rw [dg_zero]; exact Row.nil _ _⟩
theorem refAddV {W : World} {n m : Nat} {v1 v2 : Value} (h1 : NumV W 10 n v1) (h2 : NumV W 10 m v2) (b1 : (dg 10 n).length ≤ 1000000) (b2 : (dg 10 m).length ≤ 1000000) :
    Calls Tryd.prog 14 #[v1, v2] W fun e w' => (∃ v, e = .returned v ∧ NumV w' 10 (n + m) v) ∧ Below W.heap.size W w' := by
  obtain ⟨a1, c1, rfl, k1, r1⟩ := h1
  obtain ⟨a2, c2, rfl, k2, r2⟩ := h2
  exact refAdd_any W a1 a2 c1 c2 n m r1 r2 b1 b2
theorem refMulV {W : World} {n m : Nat} {v1 v2 : Value} (h1 : NumV W 10 n v1) (h2 : NumV W 10 m v2) (b1 : (dg 10 n).length ≤ 1000000) (b2 : (dg 10 m).length ≤ 1000000) :
    Calls Tryd.prog 16 #[v1, v2] W fun e w' => (∃ v, e = .returned v ∧ NumV w' 10 (n * m) v) ∧ Below W.heap.size W w' := by
  obtain ⟨a1, c1, rfl, k1, r1⟩ := h1
  obtain ⟨a2, c2, rfl, k2, r2⟩ := h2
  exact refMul_any W a1 a2 c1 c2 n m r1 r2 b1 b2
theorem refSubV {W : World} {n m : Nat} {v1 v2 : Value} (h1 : NumV W 10 n v1) (h2 : NumV W 10 m v2) (b1 : (dg 10 n).length ≤ 1000000) (hmn : m ≤ n) :
    Calls Tryd.prog 20 #[v1, v2] W fun e w' => (∃ v, e = .returned v ∧ NumV w' 10 (n - m) v) ∧ Below W.heap.size W w' := by
  obtain ⟨a1, c1, rfl, k1, r1⟩ := h1
  obtain ⟨a2, c2, rfl, k2, r2⟩ := h2
  exact refSub_any W a1 a2 c1 c2 n m r1 r2 b1 hmn
theorem refCompareV {W : World} {n m : Nat} {v1 v2 : Value} (h1 : NumV W 10 n v1) (h2 : NumV W 10 m v2) (b1 : (dg 10 n).length ≤ 1000000) (b2 : (dg 10 m).length ≤ 1000000) :
    Calls Tryd.prog 18 #[v1, v2] W fun e w' => e = .returned (.int .i64 (cmp3 (n : Int) (m : Int))) ∧ Below W.heap.size W w' := by
  obtain ⟨a1, c1, rfl, k1, r1⟩ := h1
  obtain ⟨a2, c2, rfl, k2, r2⟩ := h2
  refine (refCompare_any W a1 a2 c1 c2 n m r1 r2 b1 b2).mono ?_
  rintro e w' ⟨he, k, rfl⟩
  exact ⟨he, below_drawn W k⟩
theorem refTextV {W : World} {n : Nat} {v : Value} (h : NumV W 10 n v) (b : (dg 10 n).length ≤ 1000000) :
    Calls Tryd.prog 13 #[v] W fun e w' => e = .returned (.string ⟨(txt n).toArray⟩) ∧ Below W.heap.size W w' := by
  obtain ⟨a1, c1, rfl, k1, r1⟩ := h
  exact refText_any W a1 c1 n r1 b
theorem dg_len_bv10 (s : ByteArray) (h : wrT s = 0) : (dg 10 (bv s.data.toList)).length ≤ 4000 := by
  obtain ⟨hn, hs⟩ := wrT_zero h
  refine Nat.le_trans (dg_len_le ten s.size _ ?_) hs
  have := bv_lt _ (isNum_all hn)
  rwa [size_list] at this
theorem dg_len_add10 (n m k : Nat) (h1 : (dg 10 n).length ≤ k) (h2 : (dg 10 m).length ≤ k) : (dg 10 (n + m)).length ≤ k + 1 := by
  refine dg_len_le ten _ _ ?_
  have e1 := lt_pow_dg ten n
  have e2 := lt_pow_dg ten m
  have e3 : 10 ^ (dg 10 n).length ≤ 10 ^ k := Nat.pow_le_pow_right (by omega) h1
  have e4 : 10 ^ (dg 10 m).length ≤ 10 ^ k := Nat.pow_le_pow_right (by omega) h2
  have e5 : 10 ^ (k + 1) = 10 ^ k * 10 := Nat.pow_succ _ _
  omega

/-! ### Is an answer that of the document? -/
set_option maxHeartbeats 400000 in
theorem lawText_ok (s : ByteArray) (w : World) : Calls Tryd.prog 12 #[.string s, .int .i64 0, .int .i64 0, .string s] w fun e w' => e = .returned (.bool true) ∧ w' = w := by
  go_enter Tryd.func12, Tryd.ntmps12
  go_wp2_with fail
  go_ret
  exact ⟨by simp, rfl⟩
set_option maxHeartbeats 400000 in
theorem lawText_bad (x : Int) (t : ByteArray) (w : World) (hx : x ≠ 0) : Calls Tryd.prog 12 #[.string ⟨#[]⟩, .int .i64 x, .int .i64 x, .string t] w fun e w' => e = .returned (.bool true) ∧ w' = w := by
  have h : (x != 0) = true := bne_iff_ne.2 hx
  go_enter Tryd.func12, Tryd.ntmps12
  go_wp2_with fail
  go_ret
  exact ⟨by simp, rfl⟩

/-- What the walk takes of the program and of the reference, at two texts. -/
structure Reck (a b : ByteArray) (n m : Nat) (x : Nat) (S1 S2 S3 : ByteArray) (s1 s2 s3 : ByteArray) (c y : Int) : Prop where
  c9 : ∀ W, Calls Tryd.prog 9 #[.string a, .string b] W fun e w' => e = .returned (.int .i64 (x : Int)) ∧ w' = W
  c11 : ∀ W, Calls Tryd.prog 11 #[.string a, .string b] W fun e w' => e = .returned (.tuple #[.string s1, .int .i64 (x : Int)]) ∧ Below W.heap.size W w'
  c15 : ∀ W, Calls Tryd.prog 15 #[.string a, .string b] W fun e w' => e = .returned (.tuple #[.string s2, .int .i64 (x : Int)]) ∧ Below W.heap.size W w'
  c17 : ∀ W, Calls Tryd.prog 17 #[.string a, .string b] W fun e w' => e = .returned (.tuple #[.int .i64 c, .int .i64 (x : Int)]) ∧ Below W.heap.size W w'
  c19 : ∀ W, Calls Tryd.prog 19 #[.string a, .string b] W fun e w' => e = .returned (.tuple #[.string s3, .int .i64 y]) ∧ Below W.heap.size W w'
  c14 : ∀ W v1 v2, NumV W 10 n v1 → NumV W 10 m v2 → Calls Tryd.prog 14 #[v1, v2] W fun e w' => (∃ v, e = .returned v ∧ NumV w' 10 (n + m) v) ∧ Below W.heap.size W w'
  c16 : ∀ W v1 v2, NumV W 10 n v1 → NumV W 10 m v2 → Calls Tryd.prog 16 #[v1, v2] W fun e w' => (∃ v, e = .returned v ∧ NumV w' 10 (n * m) v) ∧ Below W.heap.size W w'
  c18 : ∀ W v1 v2, NumV W 10 n v1 → NumV W 10 m v2 → Calls Tryd.prog 18 #[v1, v2] W fun e w' => e = .returned (.int .i64 c) ∧ Below W.heap.size W w'
  t1 : ∀ W v, NumV W 10 (n + m) v → Calls Tryd.prog 13 #[v] W fun e w' => e = .returned (.string S1) ∧ Below W.heap.size W w'
  t2 : ∀ W v, NumV W 10 (n * m) v → Calls Tryd.prog 13 #[v] W fun e w' => e = .returned (.string S2) ∧ Below W.heap.size W w'
  l1 : ∀ W, Calls Tryd.prog 12 #[.string s1, .int .i64 (x : Int), .int .i64 (x : Int), .string S1] W fun e w' => e = .returned (.bool true) ∧ w' = W
  l2 : ∀ W, Calls Tryd.prog 12 #[.string s2, .int .i64 (x : Int), .int .i64 (x : Int), .string S2] W fun e w' => e = .returned (.bool true) ∧ w' = W
/-- .. where b is not above a. -/
structure ReckS (n m : Nat) (x : Nat) (S3 s3 : ByteArray) (y : Int) : Prop where
  c20 : ∀ W v1 v2, NumV W 10 n v1 → NumV W 10 m v2 → Calls Tryd.prog 20 #[v1, v2] W fun e w' => (∃ v, e = .returned v ∧ NumV w' 10 (n - m) v) ∧ Below W.heap.size W w'
  t3 : ∀ W v, NumV W 10 (n - m) v → Calls Tryd.prog 13 #[v] W fun e w' => e = .returned (.string S3) ∧ Below W.heap.size W w'
  l3 : ∀ W, Calls Tryd.prog 12 #[.string s3, .int .i64 y, .int .i64 (x : Int), .string S3] W fun e w' => e = .returned (.bool true) ∧ w' = W

set_option maxRecDepth 100000 in
set_option maxHeartbeats 2000000 in
theorem natReckons_ok (a b : ByteArray) (w : World) (n m : Nat) (S1 S2 S3 s1 s2 s3 : ByteArray) (c : Int) (hc : ¬ c < 0) (R : Hid (Reck a b n m 0 S1 S2 S3 s1 s2 s3 c 0)) (S : Hid (ReckS n m 0 S3 s3 0)) (r1 : Hid (∀ W, Calls Tryd.prog 10 #[.string a] W fun e w' => (∃ v, e = .returned v ∧ NumV w' 10 n v) ∧ Below W.heap.size W w')) (r2 : Hid (∀ W, Calls Tryd.prog 10 #[.string b] W fun e w' => (∃ v, e = .returned v ∧ NumV w' 10 m v) ∧ Below W.heap.size W w')) :
    Calls Tryd.prog 3 #[.string a, .string b] w fun e w' => e = .returned (.bool true) ∧ Below w.heap.size w w' := by
  go_enter Tryd.func3, Tryd.ntmps3
  go_wp2_with fail
  refine (R.out.c9 w).mono ?_
  rintro e w ⟨rfl, rfl⟩
  go_wp2_with fail
  refine (r1.out w).mono ?_
  rintro e W1 ⟨⟨v1, rfl, hv⟩, hb⟩
  have B1 : Hid (Below w.heap.size w W1) := hb
  have Nv1 : Hid (NumV W1 10 n v1) := hv
  clear hv
  clear hb
  go_wp2_with fail
  refine (r2.out W1).mono ?_
  rintro e W2 ⟨⟨v2, rfl, hv⟩, hb⟩
  have B2 : Hid (Below w.heap.size w W2) := B1.out.trans (hb.mono B1.out.size)
  have Nv1 : Hid (NumV W2 10 n v1) := Nv1.out.of_below hb
  have Nv2 : Hid (NumV W2 10 m v2) := hv
  clear hv
  clear hb
  go_wp2_with fail
  refine (R.out.c11 W2).mono ?_
  rintro e W3 ⟨rfl, hb⟩
  have B3 : Hid (Below w.heap.size w W3) := B2.out.trans (hb.mono B2.out.size)
  have Nv1 : Hid (NumV W3 10 n v1) := Nv1.out.of_below hb
  have Nv2 : Hid (NumV W3 10 m v2) := Nv2.out.of_below hb
  clear hb
  go_wp2_with fail
  refine (R.out.c14 W3 v1 v2 Nv1.out Nv2.out).mono ?_
  rintro e W4 ⟨⟨v3, rfl, hv⟩, hb⟩
  have B4 : Hid (Below w.heap.size w W4) := B3.out.trans (hb.mono B3.out.size)
  have Nv1 : Hid (NumV W4 10 n v1) := Nv1.out.of_below hb
  have Nv2 : Hid (NumV W4 10 m v2) := Nv2.out.of_below hb
  have Nv3 : Hid (NumV W4 10 (n + m) v3) := hv
  clear hv
  clear hb
  go_wp2_with fail
  refine (R.out.t1 W4 v3 Nv3.out).mono ?_
  rintro e W5 ⟨rfl, hb⟩
  have B5 : Hid (Below w.heap.size w W5) := B4.out.trans (hb.mono B4.out.size)
  have Nv1 : Hid (NumV W5 10 n v1) := Nv1.out.of_below hb
  have Nv2 : Hid (NumV W5 10 m v2) := Nv2.out.of_below hb
  have Nv3 : Hid (NumV W5 10 (n + m) v3) := Nv3.out.of_below hb
  clear hb
  go_wp2_with fail
  refine (R.out.l1 W5).mono ?_
  rintro e W5 ⟨rfl, rfl⟩
  go_wp2_with fail
  refine (R.out.c15 W5).mono ?_
  rintro e W6 ⟨rfl, hb⟩
  have B6 : Hid (Below w.heap.size w W6) := B5.out.trans (hb.mono B5.out.size)
  have Nv1 : Hid (NumV W6 10 n v1) := Nv1.out.of_below hb
  have Nv2 : Hid (NumV W6 10 m v2) := Nv2.out.of_below hb
  clear hb
  go_wp2_with fail
  refine (R.out.c16 W6 v1 v2 Nv1.out Nv2.out).mono ?_
  rintro e W7 ⟨⟨v4, rfl, hv⟩, hb⟩
  have B7 : Hid (Below w.heap.size w W7) := B6.out.trans (hb.mono B6.out.size)
  have Nv1 : Hid (NumV W7 10 n v1) := Nv1.out.of_below hb
  have Nv2 : Hid (NumV W7 10 m v2) := Nv2.out.of_below hb
  have Nv4 : Hid (NumV W7 10 (n * m) v4) := hv
  clear hv
  clear hb
  go_wp2_with fail
  refine (R.out.t2 W7 v4 Nv4.out).mono ?_
  rintro e W8 ⟨rfl, hb⟩
  have B8 : Hid (Below w.heap.size w W8) := B7.out.trans (hb.mono B7.out.size)
  have Nv1 : Hid (NumV W8 10 n v1) := Nv1.out.of_below hb
  have Nv2 : Hid (NumV W8 10 m v2) := Nv2.out.of_below hb
  have Nv4 : Hid (NumV W8 10 (n * m) v4) := Nv4.out.of_below hb
  clear hb
  go_wp2_with fail
  refine (R.out.l2 W8).mono ?_
  rintro e W8 ⟨rfl, rfl⟩
  go_wp2_with fail
  refine (R.out.c17 W8).mono ?_
  rintro e W9 ⟨rfl, hb⟩
  have B9 : Hid (Below w.heap.size w W9) := B8.out.trans (hb.mono B8.out.size)
  have Nv1 : Hid (NumV W9 10 n v1) := Nv1.out.of_below hb
  have Nv2 : Hid (NumV W9 10 m v2) := Nv2.out.of_below hb
  clear hb
  go_wp2_with fail
  refine (R.out.c18 W9 v1 v2 Nv1.out Nv2.out).mono ?_
  rintro e W10 ⟨rfl, hb⟩
  have B10 : Hid (Below w.heap.size w W10) := B9.out.trans (hb.mono B9.out.size)
  have Nv1 : Hid (NumV W10 10 n v1) := Nv1.out.of_below hb
  have Nv2 : Hid (NumV W10 10 m v2) := Nv2.out.of_below hb
  clear hb
  go_wp2_with fail
  refine (R.out.c19 W10).mono ?_
  rintro e W11 ⟨rfl, hb⟩
  have B11 : Hid (Below w.heap.size w W11) := B10.out.trans (hb.mono B10.out.size)
  have Nv1 : Hid (NumV W11 10 n v1) := Nv1.out.of_below hb
  have Nv2 : Hid (NumV W11 10 m v2) := Nv2.out.of_below hb
  clear hb
  go_wp2_with fail
  refine (R.out.c18 W11 v1 v2 Nv1.out Nv2.out).mono ?_
  rintro e W12 ⟨rfl, hb⟩
  have B12 : Hid (Below w.heap.size w W12) := B11.out.trans (hb.mono B11.out.size)
  have Nv1 : Hid (NumV W12 10 n v1) := Nv1.out.of_below hb
  have Nv2 : Hid (NumV W12 10 m v2) := Nv2.out.of_below hb
  clear hb
  go_wp2_with fail
  refine (S.out.c20 W12 v1 v2 Nv1.out Nv2.out).mono ?_
  rintro e W13 ⟨⟨v5, rfl, hv⟩, hb⟩
  have B13 : Hid (Below w.heap.size w W13) := B12.out.trans (hb.mono B12.out.size)
  have Nv1 : Hid (NumV W13 10 n v1) := Nv1.out.of_below hb
  have Nv2 : Hid (NumV W13 10 m v2) := Nv2.out.of_below hb
  have Nv5 : Hid (NumV W13 10 (n - m) v5) := hv
  clear hv
  clear hb
  go_wp2_with fail
  refine (S.out.t3 W13 v5 Nv5.out).mono ?_
  rintro e W14 ⟨rfl, hb⟩
  have B14 : Hid (Below w.heap.size w W14) := B13.out.trans (hb.mono B13.out.size)
  have Nv1 : Hid (NumV W14 10 n v1) := Nv1.out.of_below hb
  have Nv2 : Hid (NumV W14 10 m v2) := Nv2.out.of_below hb
  have Nv5 : Hid (NumV W14 10 (n - m) v5) := Nv5.out.of_below hb
  clear hb
  go_wp2_with fail
  refine (S.out.l3 W14).mono ?_
  rintro e W14 ⟨rfl, rfl⟩
  go_wp2_with fail
  go_ret
  exact ⟨rfl, B14.out⟩

set_option maxRecDepth 100000 in
set_option maxHeartbeats 2000000 in
theorem natReckons_low (a b : ByteArray) (w : World) (n m : Nat) (S1 S2 S3 s1 s2 s3 : ByteArray) (c : Int) (hc : c < 0) (R : Hid (Reck a b n m 0 S1 S2 S3 s1 s2 s3 c 4)) (L : Hid (∀ W, Calls Tryd.prog 12 #[.string s3, .int .i64 4, .int .i64 4, .string ⟨#[]⟩] W fun e w' => e = .returned (.bool true) ∧ w' = W)) (r1 : Hid (∀ W, Calls Tryd.prog 10 #[.string a] W fun e w' => (∃ v, e = .returned v ∧ NumV w' 10 n v) ∧ Below W.heap.size W w')) (r2 : Hid (∀ W, Calls Tryd.prog 10 #[.string b] W fun e w' => (∃ v, e = .returned v ∧ NumV w' 10 m v) ∧ Below W.heap.size W w')) :
    Calls Tryd.prog 3 #[.string a, .string b] w fun e w' => e = .returned (.bool true) ∧ Below w.heap.size w w' := by
  go_enter Tryd.func3, Tryd.ntmps3
  go_wp2_with fail
  refine (R.out.c9 w).mono ?_
  rintro e w ⟨rfl, rfl⟩
  go_wp2_with fail
  refine (r1.out w).mono ?_
  rintro e W1 ⟨⟨v1, rfl, hv⟩, hb⟩
  have B1 : Hid (Below w.heap.size w W1) := hb
  have Nv1 : Hid (NumV W1 10 n v1) := hv
  clear hv
  clear hb
  go_wp2_with fail
  refine (r2.out W1).mono ?_
  rintro e W2 ⟨⟨v2, rfl, hv⟩, hb⟩
  have B2 : Hid (Below w.heap.size w W2) := B1.out.trans (hb.mono B1.out.size)
  have Nv1 : Hid (NumV W2 10 n v1) := Nv1.out.of_below hb
  have Nv2 : Hid (NumV W2 10 m v2) := hv
  clear hv
  clear hb
  go_wp2_with fail
  refine (R.out.c11 W2).mono ?_
  rintro e W3 ⟨rfl, hb⟩
  have B3 : Hid (Below w.heap.size w W3) := B2.out.trans (hb.mono B2.out.size)
  have Nv1 : Hid (NumV W3 10 n v1) := Nv1.out.of_below hb
  have Nv2 : Hid (NumV W3 10 m v2) := Nv2.out.of_below hb
  clear hb
  go_wp2_with fail
  refine (R.out.c14 W3 v1 v2 Nv1.out Nv2.out).mono ?_
  rintro e W4 ⟨⟨v3, rfl, hv⟩, hb⟩
  have B4 : Hid (Below w.heap.size w W4) := B3.out.trans (hb.mono B3.out.size)
  have Nv1 : Hid (NumV W4 10 n v1) := Nv1.out.of_below hb
  have Nv2 : Hid (NumV W4 10 m v2) := Nv2.out.of_below hb
  have Nv3 : Hid (NumV W4 10 (n + m) v3) := hv
  clear hv
  clear hb
  go_wp2_with fail
  refine (R.out.t1 W4 v3 Nv3.out).mono ?_
  rintro e W5 ⟨rfl, hb⟩
  have B5 : Hid (Below w.heap.size w W5) := B4.out.trans (hb.mono B4.out.size)
  have Nv1 : Hid (NumV W5 10 n v1) := Nv1.out.of_below hb
  have Nv2 : Hid (NumV W5 10 m v2) := Nv2.out.of_below hb
  have Nv3 : Hid (NumV W5 10 (n + m) v3) := Nv3.out.of_below hb
  clear hb
  go_wp2_with fail
  refine (R.out.l1 W5).mono ?_
  rintro e W5 ⟨rfl, rfl⟩
  go_wp2_with fail
  refine (R.out.c15 W5).mono ?_
  rintro e W6 ⟨rfl, hb⟩
  have B6 : Hid (Below w.heap.size w W6) := B5.out.trans (hb.mono B5.out.size)
  have Nv1 : Hid (NumV W6 10 n v1) := Nv1.out.of_below hb
  have Nv2 : Hid (NumV W6 10 m v2) := Nv2.out.of_below hb
  clear hb
  go_wp2_with fail
  refine (R.out.c16 W6 v1 v2 Nv1.out Nv2.out).mono ?_
  rintro e W7 ⟨⟨v4, rfl, hv⟩, hb⟩
  have B7 : Hid (Below w.heap.size w W7) := B6.out.trans (hb.mono B6.out.size)
  have Nv1 : Hid (NumV W7 10 n v1) := Nv1.out.of_below hb
  have Nv2 : Hid (NumV W7 10 m v2) := Nv2.out.of_below hb
  have Nv4 : Hid (NumV W7 10 (n * m) v4) := hv
  clear hv
  clear hb
  go_wp2_with fail
  refine (R.out.t2 W7 v4 Nv4.out).mono ?_
  rintro e W8 ⟨rfl, hb⟩
  have B8 : Hid (Below w.heap.size w W8) := B7.out.trans (hb.mono B7.out.size)
  have Nv1 : Hid (NumV W8 10 n v1) := Nv1.out.of_below hb
  have Nv2 : Hid (NumV W8 10 m v2) := Nv2.out.of_below hb
  have Nv4 : Hid (NumV W8 10 (n * m) v4) := Nv4.out.of_below hb
  clear hb
  go_wp2_with fail
  refine (R.out.l2 W8).mono ?_
  rintro e W8 ⟨rfl, rfl⟩
  go_wp2_with fail
  refine (R.out.c17 W8).mono ?_
  rintro e W9 ⟨rfl, hb⟩
  have B9 : Hid (Below w.heap.size w W9) := B8.out.trans (hb.mono B8.out.size)
  have Nv1 : Hid (NumV W9 10 n v1) := Nv1.out.of_below hb
  have Nv2 : Hid (NumV W9 10 m v2) := Nv2.out.of_below hb
  clear hb
  go_wp2_with fail
  refine (R.out.c18 W9 v1 v2 Nv1.out Nv2.out).mono ?_
  rintro e W10 ⟨rfl, hb⟩
  have B10 : Hid (Below w.heap.size w W10) := B9.out.trans (hb.mono B9.out.size)
  have Nv1 : Hid (NumV W10 10 n v1) := Nv1.out.of_below hb
  have Nv2 : Hid (NumV W10 10 m v2) := Nv2.out.of_below hb
  clear hb
  go_wp2_with fail
  refine (R.out.c19 W10).mono ?_
  rintro e W11 ⟨rfl, hb⟩
  have B11 : Hid (Below w.heap.size w W11) := B10.out.trans (hb.mono B10.out.size)
  have Nv1 : Hid (NumV W11 10 n v1) := Nv1.out.of_below hb
  have Nv2 : Hid (NumV W11 10 m v2) := Nv2.out.of_below hb
  clear hb
  go_wp2_with fail
  refine (R.out.c18 W11 v1 v2 Nv1.out Nv2.out).mono ?_
  rintro e W12 ⟨rfl, hb⟩
  have B12 : Hid (Below w.heap.size w W12) := B11.out.trans (hb.mono B11.out.size)
  have Nv1 : Hid (NumV W12 10 n v1) := Nv1.out.of_below hb
  have Nv2 : Hid (NumV W12 10 m v2) := Nv2.out.of_below hb
  clear hb
  go_wp2_with fail
  refine (L.out W12).mono ?_
  rintro e W12 ⟨rfl, rfl⟩
  go_wp2_with fail
  go_ret
  exact ⟨rfl, B12.out⟩

set_option maxRecDepth 100000 in
set_option maxHeartbeats 2000000 in
theorem natReckons_bad (a b : ByteArray) (w : World) (x : Nat) (hx : x ≠ 0) (S1 S2 S3 s1 s2 s3 : ByteArray) (c : Int) (R : Hid (Reck a b 0 0 x S1 S2 S3 s1 s2 s3 c (x : Int))) (S : Hid (ReckS 0 0 x S3 s3 (x : Int))) :
    Calls Tryd.prog 3 #[.string a, .string b] w fun e w' => e = .returned (.bool true) ∧ Below w.heap.size w w' := by
  have hx0 : ((x : Int) == 0) = false := beq_eq_false_iff_ne.2 (by omega)
  go_enter Tryd.func3, Tryd.ntmps3
  go_wp2_with fail
  refine (R.out.c9 w).mono ?_
  rintro e w ⟨rfl, rfl⟩
  go_wp2_with fail
  refine (R.out.c11 w).mono ?_
  rintro e W1 ⟨rfl, hb⟩
  have B1 : Hid (Below w.heap.size w W1) := hb
  clear hb
  go_wp2_with fail
  refine (R.out.c14 W1 (.slice none 0 0) (.slice none 0 0) (NumV.nil _) (NumV.nil _)).mono ?_
  rintro e W2 ⟨⟨v3, rfl, hv⟩, hb⟩
  have B2 : Hid (Below w.heap.size w W2) := B1.out.trans (hb.mono B1.out.size)
  have Nv3 : Hid (NumV W2 10 (0 + 0) v3) := hv
  clear hv
  clear hb
  go_wp2_with fail
  refine (R.out.t1 W2 v3 Nv3.out).mono ?_
  rintro e W3 ⟨rfl, hb⟩
  have B3 : Hid (Below w.heap.size w W3) := B2.out.trans (hb.mono B2.out.size)
  have Nv3 : Hid (NumV W3 10 (0 + 0) v3) := Nv3.out.of_below hb
  clear hb
  go_wp2_with fail
  refine (R.out.l1 W3).mono ?_
  rintro e W3 ⟨rfl, rfl⟩
  go_wp2_with fail
  refine (R.out.c15 W3).mono ?_
  rintro e W4 ⟨rfl, hb⟩
  have B4 : Hid (Below w.heap.size w W4) := B3.out.trans (hb.mono B3.out.size)
  clear hb
  go_wp2_with fail
  refine (R.out.c16 W4 (.slice none 0 0) (.slice none 0 0) (NumV.nil _) (NumV.nil _)).mono ?_
  rintro e W5 ⟨⟨v4, rfl, hv⟩, hb⟩
  have B5 : Hid (Below w.heap.size w W5) := B4.out.trans (hb.mono B4.out.size)
  have Nv4 : Hid (NumV W5 10 (0 * 0) v4) := hv
  clear hv
  clear hb
  go_wp2_with fail
  refine (R.out.t2 W5 v4 Nv4.out).mono ?_
  rintro e W6 ⟨rfl, hb⟩
  have B6 : Hid (Below w.heap.size w W6) := B5.out.trans (hb.mono B5.out.size)
  have Nv4 : Hid (NumV W6 10 (0 * 0) v4) := Nv4.out.of_below hb
  clear hb
  go_wp2_with fail
  refine (R.out.l2 W6).mono ?_
  rintro e W6 ⟨rfl, rfl⟩
  go_wp2_with fail
  refine (R.out.c17 W6).mono ?_
  rintro e W7 ⟨rfl, hb⟩
  have B7 : Hid (Below w.heap.size w W7) := B6.out.trans (hb.mono B6.out.size)
  clear hb
  go_wp2_with fail
  refine (R.out.c18 W7 (.slice none 0 0) (.slice none 0 0) (NumV.nil _) (NumV.nil _)).mono ?_
  rintro e W8 ⟨rfl, hb⟩
  have B8 : Hid (Below w.heap.size w W8) := B7.out.trans (hb.mono B7.out.size)
  clear hb
  go_wp2_with fail
  refine (R.out.c19 W8).mono ?_
  rintro e W9 ⟨rfl, hb⟩
  have B9 : Hid (Below w.heap.size w W9) := B8.out.trans (hb.mono B8.out.size)
  clear hb
  go_wp2_with fail
  refine (S.out.c20 W9 (.slice none 0 0) (.slice none 0 0) (NumV.nil _) (NumV.nil _)).mono ?_
  rintro e W10 ⟨⟨v5, rfl, hv⟩, hb⟩
  have B10 : Hid (Below w.heap.size w W10) := B9.out.trans (hb.mono B9.out.size)
  have Nv5 : Hid (NumV W10 10 (0 - 0) v5) := hv
  clear hv
  clear hb
  go_wp2_with fail
  refine (S.out.t3 W10 v5 Nv5.out).mono ?_
  rintro e W11 ⟨rfl, hb⟩
  have B11 : Hid (Below w.heap.size w W11) := B10.out.trans (hb.mono B10.out.size)
  have Nv5 : Hid (NumV W11 10 (0 - 0) v5) := Nv5.out.of_below hb
  clear hb
  go_wp2_with fail
  refine (S.out.l3 W11).mono ?_
  rintro e W11 ⟨rfl, rfl⟩
  go_wp2_with fail
  go_ret
  exact ⟨rfl, B11.out⟩

/-- The law, whatever the texts. -/
theorem natReckons_walk (a b : ByteArray) (w : World) (ha : a.size ≤ 4611686018427387904) (hb : b.size ≤ 4611686018427387904) :
    Calls Tryd.prog 3 #[.string a, .string b] w fun e w' => e = .returned (.bool true) ∧ Below w.heap.size w w' := by
  by_cases h0 : wr2 a b = 0
  · have hwa : wrT a = 0 := by
      unfold wr2 at h0
      split at h0
      · assumption
      · exact h0
    have hwb : wrT b = 0 := by unfold wr2 at h0; rw [if_pos hwa] at h0; exact h0
    have la := dg_len_bv10 a hwa
    have lb := dg_len_bv10 b hwb
    obtain ⟨na, sa⟩ := wrT_zero hwa
    obtain ⟨nb, sb⟩ := wrT_zero hwb
    have C9 := fun W => lawWrong_any a b W ha hb
    rw [h0] at C9
    have la' : (dg 10 (bv a.data.toList)).length ≤ 1000000 := by omega
    have lb' : (dg 10 (bv b.data.toList)).length ≤ 1000000 := by omega
    have r1 : Hid (∀ W, Calls Tryd.prog 10 #[.string a] W fun e w' => (∃ v, e = .returned v ∧ NumV w' 10 (bv a.data.toList) v) ∧ Below W.heap.size W w') := fun W => refRead_any a W (isNum_all na) (by omega)
    have r2 : Hid (∀ W, Calls Tryd.prog 10 #[.string b] W fun e w' => (∃ v, e = .returned v ∧ NumV w' 10 (bv b.data.toList) v) ∧ Below W.heap.size W w') := fun W => refRead_any b W (isNum_all nb) (by omega)
    have R := fun (s3 : ByteArray) (y : Int) (c19 : ∀ W, Calls Tryd.prog 19 #[.string a, .string b] W fun e w' => e = .returned (.tuple #[.string s3, .int .i64 y]) ∧ Below W.heap.size W w') =>
      (⟨C9, fun W => add_ok a b W hwa hwb, fun W => mul_ok a b W hwa hwb, fun W => compare_ok a b W hwa hwb, c19,
        fun W v1 v2 h1 h2 => refAddV h1 h2 la' lb', fun W v1 v2 h1 h2 => refMulV h1 h2 la' lb', fun W v1 v2 h1 h2 => refCompareV h1 h2 la' lb',
        fun W v h => refTextV h (Nat.le_trans (dg_len_add10 _ _ 4000 la lb) (by omega)), fun W v h => refTextV h (Nat.le_trans (dg_len_mul ten _ _) (by omega)),
        fun W => lawText_ok _ W, fun W => lawText_ok _ W⟩ : Reck a b (bv a.data.toList) (bv b.data.toList) 0 ⟨(txt (bv a.data.toList + bv b.data.toList)).toArray⟩ ⟨(txt (bv a.data.toList * bv b.data.toList)).toArray⟩ ⟨#[]⟩ ⟨(txt (bv a.data.toList + bv b.data.toList)).toArray⟩ ⟨(txt (bv a.data.toList * bv b.data.toList)).toArray⟩ s3 (cmp3 (bv a.data.toList : Int) (bv b.data.toList : Int)) y)
    by_cases hab : bv b.data.toList ≤ bv a.data.toList
    · have R1 := R _ 0 (fun W => sub_ok a b W hwa hwb hab)
      have S1 : ReckS (bv a.data.toList) (bv b.data.toList) 0 ⟨(txt (bv a.data.toList - bv b.data.toList)).toArray⟩ ⟨(txt (bv a.data.toList - bv b.data.toList)).toArray⟩ 0 :=
        ⟨fun W v1 v2 h1 h2 => refSubV h1 h2 la' hab, fun W v h => refTextV h (Nat.le_trans (dg_len_mono ten (Nat.sub_le _ _)) la'), fun W => lawText_ok _ W⟩
      exact natReckons_ok a b w _ _ _ _ _ _ _ _ _ (by unfold cmp3; split <;> (try split) <;> omega) ⟨R1.c9, R1.c11, R1.c15, R1.c17, R1.c19, R1.c14, R1.c16, R1.c18, R1.t1, R1.t2, R1.l1, R1.l2⟩ S1 r1 r2
    · have R1 := R _ 4 (fun W => sub_low a b W hwa hwb (by omega))
      exact natReckons_low a b w _ _ _ _ _ _ _ _ _ (by rw [cmp3_lt (by omega)]; omega) R1 (fun W => lawText_bad 4 _ W (by omega)) r1 r2
  · have l0 : (dg 10 0).length ≤ 1000000 := by rw [dg_zero]; simp
    have R : Reck a b 0 0 (wr2 a b) ⟨(txt (0 + 0)).toArray⟩ ⟨(txt (0 * 0)).toArray⟩ ⟨#[]⟩ ⟨#[]⟩ ⟨#[]⟩ ⟨#[]⟩ 0 (wr2 a b : Int) :=
      ⟨fun W => lawWrong_any a b W ha hb, fun W => add_bad a b W h0 ha hb, fun W => mul_bad a b W h0 ha hb, fun W => compare_bad a b W h0 ha hb, fun W => sub_bad a b W h0 ha hb,
        fun W v1 v2 h1 h2 => refAddV h1 h2 l0 l0, fun W v1 v2 h1 h2 => refMulV h1 h2 l0 l0, fun W v1 v2 h1 h2 => refCompareV h1 h2 l0 l0,
        fun W v h => refTextV h l0, fun W v h => refTextV h l0, fun W => lawText_bad _ _ W (by omega), fun W => lawText_bad _ _ W (by omega)⟩
    have S : ReckS 0 0 (wr2 a b) ⟨(txt (0 - 0)).toArray⟩ ⟨#[]⟩ (wr2 a b : Int) :=
      ⟨fun W v1 v2 h1 h2 => refSubV h1 h2 l0 (Nat.le_refl _), fun W v h => refTextV h l0, fun W => lawText_bad _ _ W (by omega)⟩
    exact natReckons_bad a b w (wr2 a b) h0 _ _ _ _ _ _ _ ⟨R.c9, R.c11, R.c15, R.c17, R.c19, R.c14, R.c16, R.c18, R.t1, R.t2, R.l1, R.l2⟩ S
end Go.Proofs.YtnahindcgedbaaaDoor
